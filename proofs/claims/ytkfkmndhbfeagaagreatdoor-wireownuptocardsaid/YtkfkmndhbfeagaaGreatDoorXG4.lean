import Derived.Test.YtkfkmndhbfeagaaGreatDoorWG
import Derived.Test.YtkfkmndhbfeagaaGreatDoorXG1
import Derived.Test.YtkfkmndhbfeagaaGreatDoorPg
import Derived.Test.YtkfkmndhbfeagaaGreatDoorXG3
import Derived.Test.YtkfkmndhbfeagaaGreatDoorWb
namespace Go.Proofs.YtkfkmndhbfeagaaGreatDoor
namespace Xo
open Go.RowKit
set_option linter.unusedVariables false
/-- the bytes behind so many numbers -/
def lb (bs : List UInt8) : Nat → List UInt8
  | 0 => bs
  | k + 1 => (lb bs k).drop (Tr.nm (lb bs k) 255).2.1
def lf (bs : List UInt8) (j : Nat) : E4 := lst ((Tr.nm (lb bs j) 255).1 : Int)
def lok (bs : List UInt8) (n : Nat) : Prop := ∀ j, j < n → (Tr.nm (lb bs j) 255).2.2 = 0
noncomputable def ln (bs : List UInt8) (most : Nat) : Nat := @ite Nat (lok (bs.drop (Tr.ct bs most).2.1) (Tr.ct bs most).1) (Classical.propDecidable _) (Tr.ct bs most).1 0
theorem ln_ok {bs : List UInt8} {most : Nat} (h : lok (bs.drop (Tr.ct bs most).2.1) (Tr.ct bs most).1) : ln bs most = (Tr.ct bs most).1 := by unfold ln; rw [if_pos h]
theorem ln_no {bs : List UInt8} {most : Nat} (h : ¬ lok (bs.drop (Tr.ct bs most).2.1) (Tr.ct bs most).1) : ln bs most = 0 := by unfold ln; rw [if_neg h]
theorem ln_le (bs : List UInt8) (most : Nat) : ln bs most ≤ most := by
  unfold ln
  split
  · exact Tr.ct_most bs most
  · exact Nat.zero_le _
theorem lb_len (bs : List UInt8) (k : Nat) : (lb bs k).length ≤ bs.length := by
  induction k with
  | zero => exact Nat.le_refl _
  | succ k ih => unfold lb; rw [List.length_drop]; omega
theorem kp_late {g T : Nat} {w w1 w2 : World} (h : Tr.Kp g w w1) (k : Tr.Kp T w1 w2) (hT : w.heap.size ≤ T) : Tr.Kp g w w2 :=
  ⟨k.os.trans h.os, k.tape.trans h.tape, k.output.trans h.output, Nat.le_trans h.size k.size, fun j hj hne => (k.block j (Nat.lt_of_lt_of_le hj h.size) (by omega)).trans (h.block j hj hne)⟩
theorem rb_grown {w w' : World} {g q B : Nat} {bs : List UInt8} {e : Int} {v : Value} (h : Rb w g q bs e) (hg : w.grownBy w' v.ownBlock) (hv : ∀ k, v.ownBlock = some k → B ≤ k) (g0 : g < B) (q0 : q < B) : Rb w' g q bs e := by
  cases hb : v.ownBlock with
  | none =>
    rw [hb] at hg
    exact h.keep ⟨hg.os, hg.tape, hg.output, hg.size, fun k hk => hg.block k hk (by simp)⟩
  | some b =>
    rw [hb] at hg
    have := hv b hb
    exact h.kp (Tr.Kp.grown hg) (by omega) (by omega)
theorem kp_grown {w0 w w' : World} {g B : Nat} {v : Value} (h : Tr.Kp g w0 w) (hg : w.grownBy w' v.ownBlock) (hv : ∀ k, v.ownBlock = some k → B ≤ k) (hB : w0.heap.size ≤ B) : Tr.Kp g w0 w' := by
  cases hb : v.ownBlock with
  | none =>
    rw [hb] at hg
    exact h.trans (Tr.Kp.of ⟨hg.os, hg.tape, hg.output, hg.size, fun k hk => hg.block k hk (by simp)⟩)
  | some b =>
    rw [hb] at hg
    have := hv b hb
    exact kp_late h (Tr.Kp.grown hg) (by omega)
theorem rb_err {w : World} {g q : Nat} {bs : List UInt8} {e : Int} (h : Rb w g q bs e) : Calls Tryz.prog 41 #[.pointer (some ⟨g, 0, none⟩)] w fun r w' => r = .returned (.int .i64 e) ∧ w' = w := by
  obtain ⟨P, c, h1, h2⟩ := h
  exact Tr.err_any h1
set_option maxRecDepth 100000 in
set_option maxHeartbeats 4000000 in
theorem one_any {w : World} {g q : Nat} {bs : List UInt8} (h : Rb w g q bs 0) (hq : q < w.heap.size) (hl : bs.length ≤ 2 ^ 62) :
    Calls Tryz.prog 14 #[.pointer (some ⟨g, 0, none⟩)] w fun r w' => r = .returned (lst ((Tr.nm bs 255).1 : Int)).v ∧ Rb w' g q (bs.drop (Tr.nm bs 255).2.1) ((Tr.nm bs 255).2.2 : Int) ∧ Tr.Kp g w w' := by
  have hg := h.glt
  obtain ⟨P, c, h1, h2⟩ := h
  have NB := hidden (Tr.Number_b 255 (h1.keep (bl_alloc w (.cells #[.int .u64 0, .int .u64 0, .int .u64 0, .int .u64 0] 52))) hl)
  have HB : Hid ((w.alloc (.cells #[.int .u64 0, .int .u64 0, .int .u64 0, .int .u64 0] 52)).heap[w.heap.size]? = some (.cells #[.int .u64 0, .int .u64 0, .int .u64 0, .int .u64 0] 52 (0, 0))) := hidden (heap_alloc_new w _)
  have K0 := hidden (Tr.Kp.of (g := g) (bl_alloc w (.cells #[.int .u64 0, .int .u64 0, .int .u64 0, .int .u64 0] 52)))
  have QB : Hid (∀ a, P = some a → a.block = q) := hidden h2
  have GQ : Hid (g < w.heap.size ∧ q < w.heap.size) := hidden ⟨hg, hq⟩
  have SZ : Hid (w.heap.size < (w.alloc (.cells #[.int .u64 0, .int .u64 0, .int .u64 0, .int .u64 0] 52)).heap.size) := hidden (by simp)
  have WD : Hid (Sm.Wd ((Tr.nm bs 255).1 : Int)) := hidden (by
    by_cases h0 : (Tr.nm bs 255).2.2 = 0
    · have := (Tr.nm_ok bs 255 h0).1
      unfold Sm.Wd; omega
    · rw [(Tr.nm_fault bs 255 h0).1]
      unfold Sm.Wd; omega)
  generalize Tr.nm bs 255 = x at *
  clear h1 h2 hg hq hl
  go_enter Tryz.func14, Tryz.ntmps14
  go_wp2_with (first | (go_at_call 16; refine NB.out.mono ?_; rintro r w2 ⟨P', c', rfl, hr, hk, hp⟩; have R2 : Hid (Rb w2 g q (bs.drop x.2.1) (x.2.2 : Int)) := hidden ⟨P', c', hr, fun a ha => by (obtain ⟨a0, e0, e1⟩ := hp a ha; rw [e1]; exact QB.out a0 e0)⟩; have K2 := hidden (K0.out.trans hk); have H2 : Hid (w2.heap[w.heap.size]? = some (.cells #[.int .u64 0, .int .u64 0, .int .u64 0, .int .u64 0] 52 (0, 0))) := hidden ((hk.block w.heap.size SZ.out (by have := GQ.out; omega)).trans HB.out); clear NB hr hk hp HB K0) | (go_at_call 15; refine (Int_any _ _ WD.out).mono ?_; rintro r w3 ⟨u, rfl, hu, hb⟩; have U3 : Hid (u = lst (x.1 : Int)) := hidden hu; have R3 := hidden (R2.out.keep hb); have K3 := hidden (K2.out.trans (Tr.Kp.of hb)); have H3 : Hid (w3.heap[w.heap.size]? = some (.cells #[.int .u64 0, .int .u64 0, .int .u64 0, .int .u64 0] 52 (0, 0))) := hidden ((hb.block w.heap.size (Array.getElem?_eq_some_iff.1 H2.out).1).trans H2.out); have c0 : w3.cell? ⟨w.heap.size, 0, none⟩ = some (.int .u64 0) := (cell_of_row w3 w.heap.size 0 _ _ (0, 0) H3.out).trans rfl; have c1 : w3.cell? ⟨w.heap.size, 1, none⟩ = some (.int .u64 0) := (cell_of_row w3 w.heap.size 1 _ _ (0, 0) H3.out).trans rfl; have c2 : w3.cell? ⟨w.heap.size, 2, none⟩ = some (.int .u64 0) := (cell_of_row w3 w.heap.size 2 _ _ (0, 0) H3.out).trans rfl; have c3 : w3.cell? ⟨w.heap.size, 3, none⟩ = some (.int .u64 0) := (cell_of_row w3 w.heap.size 3 _ _ (0, 0) H3.out).trans rfl; have f0 := frozen_of_row w3 w.heap.size 0 _ _ H3.out; have f1 := frozen_of_row w3 w.heap.size 1 _ _ H3.out; have f2 := frozen_of_row w3 w.heap.size 2 _ _ H3.out; have f3 := frozen_of_row w3 w.heap.size 3 _ _ H3.out; obtain ⟨T, hT⟩ : ∃ T, w.heap.size = T := ⟨_, rfl⟩; clear hu hb R2 K2 H2; rw [hT] at c0 c1 c2 c3 f0 f1 f2 f3 ⊢; have ET := hidden hT; clear hT; unfold E4.v))
  refine bodyPost_ret (v := u.v) (by simp [results, Tryz.results14, go_sem, E4.v, c0, c1, c2, c3]) rfl ⟨by rw [U3.out], ?_, ?_⟩
  · have k : Tr.Kp T w3 ((((w3.setCell ⟨T, 0, none⟩ (.int .u64 u.x0)).setCell ⟨T, 1, none⟩ (.int .u64 u.x1)).setCell ⟨T, 2, none⟩ (.int .u64 u.x2)).setCell ⟨T, 3, none⟩ (.int .u64 u.x3)) := (((Tr.Kp.grown (Tr.grown_set _ _ _ _)).trans (Tr.Kp.grown (Tr.grown_set _ _ _ _))).trans (Tr.Kp.grown (Tr.grown_set _ _ _ _))).trans (Tr.Kp.grown (Tr.grown_set _ _ _ _))
    exact R3.out.kp k (by have := ET.out; have := GQ.out; omega) (by have := ET.out; have := GQ.out; omega)
  · have k : Tr.Kp T w3 ((((w3.setCell ⟨T, 0, none⟩ (.int .u64 u.x0)).setCell ⟨T, 1, none⟩ (.int .u64 u.x1)).setCell ⟨T, 2, none⟩ (.int .u64 u.x2)).setCell ⟨T, 3, none⟩ (.int .u64 u.x3)) := (((Tr.Kp.grown (Tr.grown_set _ _ _ _)).trans (Tr.Kp.grown (Tr.grown_set _ _ _ _))).trans (Tr.Kp.grown (Tr.grown_set _ _ _ _))).trans (Tr.Kp.grown (Tr.grown_set _ _ _ _))
    exact kp_late K3.out k (by have := ET.out; omega)
theorem own_sub {w : World} {B C s n : Nat} {e : TypeId} {v : Value} {xs : List Value} (h : w.ownsRow B e s v n xs) (hc : C ≤ B) : w.ownsRow C e s v n xs := own_mono h hc
set_option maxRecDepth 100000 in
set_option maxHeartbeats 8000000 in
theorem list_any (bs : List UInt8) (most : Nat) (w : World) (g q : Nat) (h : Rb w g q bs 0) (hq : q < w.heap.size) (hl : bs.length ≤ 2 ^ 40) (hm : most ≤ 1048576) :
    Calls Tryz.prog 17 #[.pointer (some ⟨g, 0, none⟩), .int .i64 (most : Int), .func (.func 14) #[] #[]] w fun e w' => ∃ V, e = .returned V ∧ w'.ownsRow w.heap.size 52 4 V (ln bs most) (svs (ln bs most) (lf (bs.drop (Tr.ct bs most).2.1))) ∧ Tr.Kp g w w' := by
  have hmf : ∀ (fn : Fn) (first cap : Array Value) (w : World), (Instr.makeFunc fn first cap).run Tryz.prog w = .ok (.func fn first cap) w := fun _ _ _ _ => rfl
  have hg := h.glt
  obtain ⟨P, c, h1, h2⟩ := h
  have b1 := bl_alloc w (.cells #[.int .i64 (most : Int)] 3)
  have b2 := bl_trans b1 (bl_alloc (w.alloc (.cells #[.int .i64 (most : Int)] 3)) (.cells #[.func (.func 14) #[] #[]] 67))
  have hY : ((w.alloc (.cells #[.int .i64 (most : Int)] 3)).alloc (.cells #[.func (.func 14) #[] #[]] 67)).cell? ⟨w.heap.size, 0, none⟩ = some (.int .i64 (most : Int)) := cell_keep (Tr.box_cell w _ _) (bl_alloc _ _)
  have hX : ((w.alloc (.cells #[.int .i64 (most : Int)] 3)).alloc (.cells #[.func (.func 14) #[] #[]] 67)).cell? ⟨w.heap.size + 1, 0, none⟩ = some (.func (.func 14) #[] #[]) := by
    rw [show w.heap.size + 1 = (w.alloc (.cells #[.int .i64 (most : Int)] 3)).heap.size by simp]
    exact Tr.box_cell (w.alloc (.cells #[.int .i64 (most : Int)] 3)) (.func (.func 14) #[] #[]) 67
  have RI := hidden (Tr.readI_b most (h1.keep b2) (by omega) hX hY hm)
  have HX := hidden hX
  have KB := hidden (Tr.Kp.of (g := g) b2)
  have QB : Hid (∀ a, P = some a → a.block = q) := hidden h2
  have GQ : Hid (g < w.heap.size ∧ q < w.heap.size) := hidden ⟨hg, hq⟩
  have SZ : Hid (((w.alloc (.cells #[.int .i64 (most : Int)] 3)).alloc (.cells #[.func (.func 14) #[] #[]] 67)).heap.size = w.heap.size + 2) := hidden (by simp)
  have CM := hidden (Tr.ct_most bs most)
  have OKL := hidden (@ln_ok bs most)
  have NOL := hidden (@ln_no bs most)
  have CF := hidden (Tr.ct_fault bs most)
  have LM := hidden (show most ≤ 1048576 ∧ bs.length ≤ 2 ^ 40 from ⟨hm, hl⟩)
  generalize ln bs most = N at *
  obtain ⟨x, hx⟩ : ∃ x, Tr.ct bs most = x := ⟨_, rfl⟩
  rw [hx] at RI CM OKL NOL CF ⊢
  clear h1 h2 hg hq hl hm b1 b2 hX hY hx
  go_enter Tryz.func17, Tryz.ntmps17
  go_upto_region 3 with (first | (go_at_call 38; refine RI.out.mono ?_; rintro r w3 ⟨P', c', rfl, hr, hk, hp⟩; have R3 : Hid (Rb w3 g q (bs.drop x.2.1) (x.2.2 : Int)) := hidden ⟨P', c', hr, fun a ha => by (obtain ⟨a0, e0, e1⟩ := hp a ha; rw [e1]; exact QB.out a0 e0)⟩; have K3 := hidden (KB.out.trans hk); have H3 : Hid (w3.cell? ⟨w.heap.size + 1, 0, none⟩ = some (.func (.func 14) #[] #[]) ∧ w.heap.size + 2 ≤ w3.heap.size) := hidden ⟨by (rw [World.cell?, hk.block (w.heap.size + 1) (by rw [SZ.out]; omega) (by have := GQ.out; omega)]; exact HX.out), by (have := hk.size; rw [SZ.out] at this; exact this)⟩; clear RI hr hk hp HX KB QB SZ))
  obtain ⟨ii, hi, hz0, hz1, hz2⟩ := parts linfo
  have HI := hidden hi
  have HZ0 := hidden hz0
  have HZ1 := hidden hz1
  have HZ2 := hidden hz2
  have T1 : Hid (Tryz.prog.underlying 53 = some (.slice 52)) := hidden (by kernel_rfl)
  clear hi hz0 hz1 hz2
  obtain ⟨S, hS⟩ : ∃ S, w.heap.size = S := ⟨_, rfl⟩
  have ES := hidden hS
  rw [hS] at H3 ⊢
  clear hS
  obtain ⟨n, s, e⟩ := x
  dsimp only at *
  generalize hbs : bs.drop s = b1 at *
  have LB : Hid (b1.length ≤ 2 ^ 40) := hidden (by rw [← hbs, List.length_drop]; have := LM.out; omega)
  have EBS := hidden hbs
  clear hbs
  have nn0 : (0 : Int) ≤ (n : Int) := by omega
  by_cases he : e = 0
  case neg =>
    have hn := (CF.out he).1
    subst hn
    have HN : Hid (N = 0) := hidden (OKL.out (fun j hj => by omega))
    go_wp2_with fail
    go_loopw [8, 13] (fun v kv w' => v = .slice none 0 0 ∧ kv = .int .i64 0 ∧ Hid (Tr.Kp g w w')) (fun _ _ _ => 0)
    case atStart => exact ⟨rfl, rfl, K3⟩
    case round =>
      obtain ⟨rfl, rfl, hk⟩ := hrel
      go_wp2_with fail
      go_ret
      refine ⟨_, rfl, ?_, hk.out⟩
      rw [HN.out]
      exact World.ownsRow_nil _ _ _ _
  subst he
  go_wp2_with fail
  go_loopw [8, 13] (fun v kv w' => ∃ i : Nat, i ≤ n ∧ kv = .int .i64 (i : Int) ∧ Hid (w'.ownsRow w3.heap.size 52 4 v i (svs i (lf b1))) ∧ Hid (Rb w' g q (lb b1 i) 0) ∧ Hid (lok b1 i) ∧ Hid (Tr.Kp g w w') ∧ Hid (w'.cell? ⟨S + 1, 0, none⟩ = some (.func (.func 14) #[] #[]) ∧ w3.heap.size ≤ w'.heap.size)) (fun _ k _ => n - (intOf k).toNat)
  case atStart => exact ⟨0, by omega, rfl, hidden (World.ownsRow_nil _ _ _ _), R3, hidden (fun j hj => by omega), K3, hidden ⟨H3.out.1, Nat.le_refl _⟩⟩
  case round =>
    clear R3 K3
    obtain ⟨i, hi, rfl, hO, hR, hK, hKp, hC⟩ := hrel
    by_cases hin : i < n
    · have i0 : (0 : Int) ≤ (i : Int) := by omega
      have i1 : (i : Int) < (n : Int) := by omega
      have w9 : IntKind.i64.wrap ((i : Int) + 1) = (i : Int) + 1 := IntWalk.i64_in _ (by have := CM.out; have := LM.out; omega)
      have cX := hC.out.1
      have ON := hidden (one_any hR.out (by have := GQ.out; have := H3.out; have := hC.out; have := ES.out; omega) (by have := lb_len b1 i; have := LB.out; omega))
      have EF : Hid (lf b1 i = lst ((Tr.nm (lb b1 i) 255).1 : Int)) := hidden rfl
      have EB : Hid (lb b1 (i + 1) = (lb b1 i).drop (Tr.nm (lb b1 i) 255).2.1) := hidden rfl
      have EK : Hid ((Tr.nm (lb b1 i) 255).2.2 = 0 → lok b1 (i + 1)) := hidden (fun h0 j hj => by
        by_cases hji : j < i
        · exact hK.out j hji
        · obtain rfl : j = i := by omega
          exact h0)
      have EN : Hid ((Tr.nm (lb b1 i) 255).2.2 ≠ 0 → N = 0) := hidden (fun h0 => NOL.out (fun h => h0 (h i hin)))
      generalize Tr.nm (lb b1 i) 255 = y at *
      obtain ⟨z, hz⟩ : ∃ z, lst (y.1 : Int) = z := ⟨_, rfl⟩
      rw [hz] at ON EF
      unfold E4.v at ON
      have V1 := hidden (show ∀ k, u8.ownBlock = some k → w3.heap.size ≤ k from fun k hk => (hO.out.lt k hk).1)
      have BN : Hid (i + 1 ≤ maxLen ∧ (i + 1) * 32 ≤ 140737488355328) := hidden (by have := CM.out; have := LM.out; unfold maxLen; omega)
      have ONE : Hid (∀ u ∈ [Value.int .u64 z.x0, .int .u64 z.x1, .int .u64 z.x2, .int .u64 z.x3], u.oneCell' = true) := hidden (by simp [Value.oneCell'])
      have GG : Hid (g < w3.heap.size ∧ q < w3.heap.size ∧ S + 1 < w3.heap.size ∧ g ≠ S + 1) := hidden (by have := GQ.out; have := H3.out.2; have := ES.out; omega)
      clear hz
      by_cases hy : y.2.2 = 0
      · rw [hy] at ON
        have EK2 := hidden (EK.out hy)
        clear hy EK EN
        go_upto_region 6 with (first | (go_at_call 14; refine ON.out.mono ?_; rintro r w4 ⟨rfl, hr, hk⟩; have O4 := hidden (hk.own hO.out (fun e => by (have := V1.out g e; have := GG.out; omega))); have R4 := hidden hr; have K4 := hidden (hKp.out.trans hk); have C4 : Hid (w4.cell? ⟨S + 1, 0, none⟩ = some (.func (.func 14) #[] #[]) ∧ w3.heap.size ≤ w4.heap.size) := hidden ⟨by (rw [World.cell?, hk.block (S + 1) (by have := GG.out; have := hC.out; omega) (by have := GG.out; omega)]; exact hC.out.1), Nat.le_trans hC.out.2 hk.size⟩; clear hr hk ON hO hR hKp hC cX; have O5 := hidden (own_keep O4.out (bl_alloc w4 (.cells #[.int .u64 z.x0, .int .u64 z.x1, .int .u64 z.x2, .int .u64 z.x3] 52))); have R5 := hidden (R4.out.keep (bl_alloc w4 (.cells #[.int .u64 z.x0, .int .u64 z.x1, .int .u64 z.x2, .int .u64 z.x3] 52))); have K5 := hidden (K4.out.trans (Tr.Kp.of (bl_alloc w4 (.cells #[.int .u64 z.x0, .int .u64 z.x1, .int .u64 z.x2, .int .u64 z.x3] 52)))); have C5 : Hid ((w4.alloc (.cells #[.int .u64 z.x0, .int .u64 z.x1, .int .u64 z.x2, .int .u64 z.x3] 52)).cell? ⟨S + 1, 0, none⟩ = some (.func (.func 14) #[] #[]) ∧ w3.heap.size ≤ (w4.alloc (.cells #[.int .u64 z.x0, .int .u64 z.x1, .int .u64 z.x2, .int .u64 z.x3] 52)).heap.size) := hidden ⟨cell_keep C4.out.1 (bl_alloc _ _), Nat.le_trans C4.out.2 (by simp)⟩; have N5 := hidden (cells_newP w4 [.int .u64 z.x0, .int .u64 z.x1, .int .u64 z.x2, .int .u64 z.x3] 52); clear O4 R4 K4 C4) | (at_builtin; refine wpList_append_own_at _ rfl _ _ 53 rfl w3.heap.size 52 ii (.agg #[.int .u64 0, .int .u64 0, .int .u64 0, .int .u64 0]) 4 32 T1.out HI.out HZ0.out HZ1.out HZ2.out rfl (by decide) u8 _ _ (by rfl) O5.out ⟨w4.heap.size, 0, none⟩ 1 1 [.int .u64 z.x0, .int .u64 z.x1, .int .u64 z.x2, .int .u64 z.x3] rfl rfl N5.out ONE.out BN.out.1 BN.out.2 C5.out.2 ?_; intro v' w6 ho6 hg6 _ _; have HO := hidden ho6; have HR := hidden (rb_grown R5.out hg6 V1.out GG.out.1 GG.out.2.1); have HK := hidden (kp_grown K5.out hg6 V1.out (by have := H3.out.2; have := ES.out; omega)); have HC : Hid (w6.cell? ⟨S + 1, 0, none⟩ = some (.func (.func 14) #[] #[]) ∧ w3.heap.size ≤ w6.heap.size) := hidden ⟨hg6.cell C5.out.1 (fun e => by (have := V1.out (S + 1) e.symm; have := GG.out; omega)), Nat.le_trans C5.out.2 hg6.size⟩; clear ho6 hg6 O5 R5 K5 C5 N5))
        go_wp2_with (first | (go_at_call 41; refine (rb_err HR.out).mono ?_; rintro r w7 ⟨rfl, rfl⟩))
        go_roundw
        case rel => exact ⟨i + 1, by omega, by go_num, hidden (by rw [svs_succ, EF.out]; exact HO.out), hidden (by rw [EB.out]; exact HR.out), EK2, HK, HC⟩
        case measure => simp [intOf]; omega
      · have hy2 : ((y.2.2 : Int) != 0) = true := by simpa using hy
        have N0 := hidden (EN.out hy)
        clear hy EK EN
        go_upto_region 6 with (first | (go_at_call 14; refine ON.out.mono ?_; rintro r w4 ⟨rfl, hr, hk⟩; have O4 := hidden (hk.own hO.out (fun e => by (have := V1.out g e; have := GG.out; omega))); have R4 := hidden hr; have K4 := hidden (hKp.out.trans hk); have C4 : Hid (w4.cell? ⟨S + 1, 0, none⟩ = some (.func (.func 14) #[] #[]) ∧ w3.heap.size ≤ w4.heap.size) := hidden ⟨by (rw [World.cell?, hk.block (S + 1) (by have := GG.out; have := hC.out; omega) (by have := GG.out; omega)]; exact hC.out.1), Nat.le_trans hC.out.2 hk.size⟩; clear hr hk ON hO hR hKp hC cX; have O5 := hidden (own_keep O4.out (bl_alloc w4 (.cells #[.int .u64 z.x0, .int .u64 z.x1, .int .u64 z.x2, .int .u64 z.x3] 52))); have R5 := hidden (R4.out.keep (bl_alloc w4 (.cells #[.int .u64 z.x0, .int .u64 z.x1, .int .u64 z.x2, .int .u64 z.x3] 52))); have K5 := hidden (K4.out.trans (Tr.Kp.of (bl_alloc w4 (.cells #[.int .u64 z.x0, .int .u64 z.x1, .int .u64 z.x2, .int .u64 z.x3] 52)))); have C5 : Hid ((w4.alloc (.cells #[.int .u64 z.x0, .int .u64 z.x1, .int .u64 z.x2, .int .u64 z.x3] 52)).cell? ⟨S + 1, 0, none⟩ = some (.func (.func 14) #[] #[]) ∧ w3.heap.size ≤ (w4.alloc (.cells #[.int .u64 z.x0, .int .u64 z.x1, .int .u64 z.x2, .int .u64 z.x3] 52)).heap.size) := hidden ⟨cell_keep C4.out.1 (bl_alloc _ _), Nat.le_trans C4.out.2 (by simp)⟩; have N5 := hidden (cells_newP w4 [.int .u64 z.x0, .int .u64 z.x1, .int .u64 z.x2, .int .u64 z.x3] 52); clear O4 R4 K4 C4) | (at_builtin; refine wpList_append_own_at _ rfl _ _ 53 rfl w3.heap.size 52 ii (.agg #[.int .u64 0, .int .u64 0, .int .u64 0, .int .u64 0]) 4 32 T1.out HI.out HZ0.out HZ1.out HZ2.out rfl (by decide) u8 _ _ (by rfl) O5.out ⟨w4.heap.size, 0, none⟩ 1 1 [.int .u64 z.x0, .int .u64 z.x1, .int .u64 z.x2, .int .u64 z.x3] rfl rfl N5.out ONE.out BN.out.1 BN.out.2 C5.out.2 ?_; intro v' w6 ho6 hg6 _ _; have HR := hidden (rb_grown R5.out hg6 V1.out GG.out.1 GG.out.2.1); have HK := hidden (kp_grown K5.out hg6 V1.out (by have := H3.out.2; have := ES.out; omega)); clear ho6 hg6 O5 R5 K5 C5 N5))
        go_wp2_with (first | (go_at_call 41; refine (rb_err HR.out).mono ?_; rintro r w7 ⟨rfl, rfl⟩))
        go_ret
        exact ⟨_, rfl, by rw [N0.out]; exact World.ownsRow_nil _ _ _ _, HK.out⟩
    · obtain rfl : i = n := by omega
      have lq : ¬ (i : Int) < (i : Int) := by omega
      have HN := hidden (OKL.out hK.out)
      go_wp2_with fail
      refine bodyPost_ret (v := u8) (by simp [results, Tryz.results17, go_sem]) rfl ⟨u8, rfl, ?_, hKp.out⟩
      rw [HN.out, EBS.out]
      have hs : w.heap.size ≤ w3.heap.size := by have := H3.out.2; have := ES.out; omega
      exact own_sub hO.out hs
end Xo
end Go.Proofs.YtkfkmndhbfeagaaGreatDoor
namespace Go.Proofs.YtkfkmndhbfeagaaGreatDoor.Tr
open Go.RowKit
set_option linter.unusedVariables false
set_option maxRecDepth 100000 in
set_option maxHeartbeats 4000000 in
theorem newReader_b {w : World} {P : Option Addr} {c : Nat} {bs : List UInt8} (hB : By w P c bs) (hl : bs.length ≤ 140737488355328) : Calls Tryz.prog 13 #[.slice P bs.length c] w fun r w' => ∃ (g : Nat) (Q : Option Addr) (d : Nat), r = .returned (.pointer (some ⟨g, 0, none⟩)) ∧ Rd w' g Q d bs 0 ∧ w.heap.size ≤ g ∧ Below w.heap.size w w' ∧ (∀ a, Q = some a → w.heap.size ≤ a.block) := by
  have C := hidden (clone_any P c bs w hB hl)
  clear hB hl
  go_enter Tryz.func13, Tryz.ntmps13
  go_wp2_with (first | (go_at_call 34; refine C.out.mono ?_; rintro r w1 ⟨v1, rfl, ho, hb⟩; have hlt := ho.lt; obtain ⟨Q, d, rfl, hd⟩ := own_shape ho; have HB := hidden hb; have HQ : Hid (∀ a, Q = some a → w.heap.size ≤ a.block) := hidden (fun a ha => (hlt a.block (by rw [ha]; rfl)).1); have HR := hidden (reader_new w1 Q d bs (own_byQ ho) (fun a ha => by subst ha; rcases ho.2 with ⟨hv, _⟩ | ⟨k, cap, cur, hv, _, hk, _⟩; (· simp at hv); (· simp only [Value.slice.injEq] at hv; obtain ⟨h1, _⟩ := hv; rw [Option.some.inj h1]; exact (Array.getElem?_eq_some_iff.1 hk).1)) hd); clear ho hb hlt hd C))
  refine bodyPost_ret (v := .pointer (some ⟨w1.heap.size, 0, none⟩)) (by simp [results, Tryz.results13, go_sem]) rfl ⟨_, Q, d, rfl, HR.out, HB.out.size, bl_trans HB.out (bl_alloc w1 _), HQ.out⟩
end Go.Proofs.YtkfkmndhbfeagaaGreatDoor.Tr
namespace Go.Proofs.YtkfkmndhbfeagaaGreatDoor
namespace Xo
open Go.RowKit
set_option linter.unusedVariables false
/-- what the law has made so far: boxes, rows of bytes, rows of Line -/
structure Sw (w0 : World) (Ms : List (Nat × List Value)) (Bs Ls : List (Value × Nat × List Value)) (w : World) : Prop where
  m : Mw w0 Ms w
  b : ∀ r ∈ Bs, w.ownsRow w0.heap.size 5 1 r.1 r.2.1 r.2.2
  bd : Bs.Pairwise (fun a b => Dj a.1 b.1)
  l : ∀ r ∈ Ls, w.ownsRow w0.heap.size 52 4 r.1 r.2.1 r.2.2
  ld : Ls.Pairwise (fun a b => Dj a.1 b.1)
section
variable {w0 : World} {Ms : List (Nat × List Value)} {Bs Ls : List (Value × Nat × List Value)} {w w' : World}
theorem Sw.keep (h : Sw w0 Ms Bs Ls w) (hb : Below w.heap.size w w') : Sw w0 Ms Bs Ls w' := ⟨h.m.keep hb, fun r hr => own_keep (h.b r hr) hb, h.bd, fun r hr => own_keep (h.l r hr) hb, h.ld⟩
theorem own_fresh {base s n m s2 : Nat} {e e2 : TypeId} {v u : Value} {xs ys : List Value} (h : w.ownsRow base e s v n xs) (k : w'.ownsRow w.heap.size e2 s2 u m ys) : Dj v u := fun x hx hu => by
  have := (h.lt x hx).2
  have := (k.lt x hu).1
  omega
theorem Sw.addB (h : Sw w0 Ms Bs Ls w) (hb : Below w.heap.size w w') {v : Value} {n : Nat} {xs : List Value} (ho : w'.ownsRow w.heap.size 5 1 v n xs) : Sw w0 Ms (Bs ++ [(v, n, xs)]) Ls w' := by
  have k := h.keep hb
  refine ⟨k.m, fun r hr => ?_, ?_, k.l, k.ld⟩
  · rcases List.mem_append.1 hr with hr | hr
    · exact k.b r hr
    · rcases List.mem_singleton.1 hr with rfl
      exact own_mono ho h.m.bel.size
  · rw [List.pairwise_append]
    refine ⟨h.bd, List.pairwise_singleton _ _, fun a ha b hb => ?_⟩
    rcases List.mem_singleton.1 hb with rfl
    exact own_fresh (h.b a ha) ho
theorem Sw.addL (h : Sw w0 Ms Bs Ls w) (hb : Below w.heap.size w w') {v : Value} {n : Nat} {xs : List Value} (ho : w'.ownsRow w.heap.size 52 4 v n xs) : Sw w0 Ms Bs (Ls ++ [(v, n, xs)]) w' := by
  have k := h.keep hb
  refine ⟨k.m, k.b, k.bd, fun r hr => ?_, ?_⟩
  · rcases List.mem_append.1 hr with hr | hr
    · exact k.l r hr
    · rcases List.mem_singleton.1 hr with rfl
      exact own_mono ho h.m.bel.size
  · rw [List.pairwise_append]
    refine ⟨h.ld, List.pairwise_singleton _ _, fun a ha b hb => ?_⟩
    rcases List.mem_singleton.1 hb with rfl
    exact own_fresh (h.l a ha) ho
theorem Sw.addL2 (h : Sw w0 Ms Bs Ls w) (hb : Below w.heap.size w w') {v u : Value} {n m : Nat} {xs ys : List Value} (ho : w'.ownsRow w.heap.size 52 4 v n xs) (hp : w'.ownsRow w.heap.size 52 4 u m ys) (hd : Dj v u) : Sw w0 Ms Bs (Ls ++ [(v, n, xs), (u, m, ys)]) w' := by
  have k := h.keep hb
  refine ⟨k.m, k.b, k.bd, fun r hr => ?_, ?_⟩
  · rcases List.mem_append.1 hr with hr | hr
    · exact k.l r hr
    · simp only [List.mem_cons, List.not_mem_nil, or_false] at hr
      rcases hr with rfl | rfl
      · exact own_mono ho h.m.bel.size
      · exact own_mono hp h.m.bel.size
  · rw [List.pairwise_append]
    refine ⟨h.ld, List.pairwise_cons.2 ⟨fun b hb => ?_, List.pairwise_singleton _ _⟩, fun a ha b hb => ?_⟩
    · rcases List.mem_singleton.1 hb with rfl
      exact hd
    · simp only [List.mem_cons, List.not_mem_nil, or_false] at hb
      rcases hb with rfl | rfl
      · exact own_fresh (h.l a ha) ho
      · exact own_fresh (h.l a ha) hp
/-- a new box -/
theorem Sw.box (h : Sw w0 Ms Bs Ls w) {z cs : List Value} {t : TypeId} (hl : cs.length = z.length) : Sw w0 ((w.heap.size, cs) :: Ms) Bs Ls ((w.alloc (.cells z.toArray t)).setCells w.heap.size 0 cs) ∧ (w.alloc (.cells z.toArray t)).there w.heap.size 0 cs.toArray.size := by
  have k := h.m.new z t
  have hlt : ∀ p ∈ Ms, w.heap.size ≠ p.1 := fun p hp => Nat.ne_of_gt (h.m.r p hp).2.2.2
  have k2 := k.set (M := Ms) cs (c := w.heap.size) (o := z) (by simp) hl (fun p hp => ⟨List.mem_cons_of_mem _ hp, hlt p hp⟩)
  have hb : Below w.heap.size w ((w.alloc (.cells z.toArray t)).setCells w.heap.size 0 cs) := below_setCellsM _ cs 0 (bl_alloc w _) (Nat.le_refl _)
  exact ⟨⟨k2, fun r hr => own_keep (h.b r hr) hb, h.bd, fun r hr => own_keep (h.l r hr) hb, h.ld⟩, k.ther cs (c := w.heap.size) (o := z) (by simp) hl⟩
theorem own_not {base s n g : Nat} {e t : TypeId} {v : Value} {xs : List Value} {cur : Array Value} {f : Nat × Nat} (h : w.ownsRow base e s v n xs) (hg : w.heap[g]? = some (.cells cur t f)) (ht : e ≠ t) : v.ownBlock ≠ some g := fun hv => by
  rcases h.2 with ⟨rfl, -⟩ | ⟨k, c, cur', rfl, _, k1, _⟩
  · cases hv
  · simp only [Value.ownBlock, Option.some.injEq] at hv
    subst hv
    rw [k1] at hg
    simp only [Option.some.injEq, Obj.cells.injEq] at hg
    exact ht hg.2.1
/-- a Reader has moved on -/
theorem Sw.kp (h : Sw w0 Ms Bs Ls w) {g q : Nat} {bs : List UInt8} {e : Int} (hr : Rb w g q bs e) (k : Tr.Kp g w w') (g0 : w0.heap.size ≤ g) (hm : ∀ p ∈ Ms, p.1 ≠ g) : Sw w0 Ms Bs Ls w' := by
  obtain ⟨P, c, h1, h2⟩ := hr
  exact ⟨h.m.kp k g0 hm, fun r hr => k.own (h.b r hr) (own_not (h.b r hr) h1.at' (by decide)), h.bd, fun r hr => k.own (h.l r hr) (own_not (h.l r hr) h1.at' (by decide)), h.ld⟩
theorem Sw.kpL (h : Sw w0 Ms Bs Ls w) {g q : Nat} {bs : List UInt8} {e : Int} (hr : Rb w g q bs e) (k : Tr.Kp g w w') (g0 : w0.heap.size ≤ g) (hm : ∀ p ∈ Ms, p.1 ≠ g) {v : Value} {n : Nat} {xs : List Value} (ho : w'.ownsRow w.heap.size 52 4 v n xs) : Sw w0 Ms Bs (Ls ++ [(v, n, xs)]) w' := by
  have s := h.kp hr k g0 hm
  refine ⟨s.m, s.b, s.bd, fun r hr => ?_, ?_⟩
  · rcases List.mem_append.1 hr with hr | hr
    · exact s.l r hr
    · rcases List.mem_singleton.1 hr with rfl
      exact own_mono ho h.m.bel.size
  · rw [List.pairwise_append]
    refine ⟨h.ld, List.pairwise_singleton _ _, fun a ha b hb => ?_⟩
    rcases List.mem_singleton.1 hb with rfl
    exact own_fresh (h.l a ha) ho
end
def pOf : Value → Option Addr
  | .slice P _ _ => P
  | _ => none
def dOf : Value → Nat
  | .slice _ _ c => c
  | _ => 0
/-- rows that are named in a block -/
theorem mkAr {U : TypeId} {T sz : Nat} {w0 w : World} {B : Nat} (Rs : List (Value × Nat × List Value)) (hr : ∀ r ∈ Rs, w.ownsRow w0.heap.size T sz r.1 r.2.1 r.2.2) (hd : Rs.Pairwise (fun a b => Dj a.1 b.1)) (hbel : Below w0.heap.size w0 w) (hc : ∀ i r, Rs[i]? = some r → w.cell? ⟨B, i, none⟩ = some r.1) (hB : ∀ r ∈ Rs, ¬ r.1.ownBlock = some B) (hn : ∀ r ∈ Rs, r.2.1 ≤ 1099511627776) (h9 : Rs.length < 100) : ∃ n p d x, Aq w0 B Rs.length n p d ∧ Ar U w T sz w0 B Rs.length n p d x w := by
  have hg : ∀ i, i < Rs.length → ∃ r, r = Rs.getD i (.slice none 0 0, 0, []) ∧ Rs[i]? = some r ∧ r ∈ Rs ∧ r.1 = .slice (pOf r.1) r.2.1 (dOf r.1) := fun i hi => by
    refine ⟨Rs[i], ?_, List.getElem?_eq_getElem hi, List.getElem_mem hi, ?_⟩
    · rw [List.getD_eq_getElem?_getD, List.getElem?_eq_getElem hi]; rfl
    · obtain ⟨P, c, e⟩ := own_sh (hr _ (List.getElem_mem hi))
      rw [e]; rfl
  refine ⟨fun i => (Rs.getD i (.slice none 0 0, 0, [])).2.1, fun i => pOf (Rs.getD i (.slice none 0 0, 0, [])).1, fun i => dOf (Rs.getD i (.slice none 0 0, 0, [])).1, fun i => (Rs.getD i (.slice none 0 0, 0, [])).2.2, ⟨h9, fun i hi => ?_, fun i j hi hj hij => ?_, fun i hi => ?_⟩, ⟨hbel, fun i hi => ?_, fun i hi => ?_, Kt.refl _ _⟩⟩
  · obtain ⟨r, e, _, hm, _⟩ := hg i hi
    rw [← e]
    exact hn r hm
  · obtain ⟨r, e, h1, hm, hs⟩ := hg i hi
    obtain ⟨r', e', h1', hm', hs'⟩ := hg j hj
    rw [← e, ← e', ← hs, ← hs']
    have e1 : Rs[i] = r := Option.some.inj ((List.getElem?_eq_getElem hi).symm.trans h1)
    have e2 : Rs[j] = r' := Option.some.inj ((List.getElem?_eq_getElem hj).symm.trans h1')
    rcases Nat.lt_or_gt_of_ne hij with h | h
    · have := List.pairwise_iff_getElem.1 hd i j hi hj h
      rw [e1, e2] at this
      exact this
    · have := List.pairwise_iff_getElem.1 hd j i hj hi h
      rw [e1, e2] at this
      exact this.symm
  · obtain ⟨r, e, _, hm, hs⟩ := hg i hi
    rw [← e, ← hs]
    exact hB r hm
  · obtain ⟨r, e, h1, hm, hs⟩ := hg i hi
    rw [← e, ← hs]
    exact hc i r h1
  · obtain ⟨r, e, h1, hm, hs⟩ := hg i hi
    rw [← e, ← hs]
    exact hr r hm
theorem row_cells (w : World) (Rs : List (Value × Nat × List Value)) (t : TypeId) : ∀ i r, Rs[i]? = some r → (w.alloc (.cells (Rs.map (·.1)).toArray t)).cell? ⟨w.heap.size, i, none⟩ = some r.1 := fun i r h => by
  rw [cell_of_row _ _ i _ t (0, 0) (heap_alloc_new w _)]
  simp [h]
theorem lone_rows {w0 w : World} {Ms : List (Nat × List Value)} {Bs Ls : List (Value × Nat × List Value)} (h : Sw w0 Ms Bs Ls w) (hn : ∀ r ∈ Ls, r.2.1 ≤ 1099511627776) (h9 : Ls.length < 100) :
    Calls Tryz.prog 19 #[.slice (some ⟨w.heap.size, 0, none⟩) Ls.length Ls.length] (w.alloc (.cells (Ls.map (·.1)).toArray 53)) fun e w' => e = .returned (.bool true) ∧ Below w0.heap.size w0 w' ∧ ∀ r ∈ Bs, w'.ownsRow w0.heap.size 5 1 r.1 r.2.1 r.2.2 := by
  have k := h.keep (bl_alloc w (.cells (Ls.map (·.1)).toArray 53))
  obtain ⟨n, p, d, x, A, R⟩ := mkAr (U := 5) Ls k.l k.ld k.m.bel (row_cells w Ls 53) (fun r hr e => by have := ((h.l r hr).lt _ e).2; omega) hn h9
  refine (lone_any w0 _ w.heap.size Ls.length Ls.length n p d x A R (by simp)).mono fun e w' ⟨h1, h2, h3⟩ => ⟨h1, h2, fun r hr => h3.own (k.b r hr)⟩
theorem alone_rows {w0 w : World} {Rs : List (Value × Nat × List Value)} (hb : Below w0.heap.size w0 w) (hr : ∀ r ∈ Rs, w.ownsRow w0.heap.size 5 1 r.1 r.2.1 r.2.2) (hd : Rs.Pairwise (fun a b => Dj a.1 b.1)) (hn : ∀ r ∈ Rs, r.2.1 ≤ 1099511627776) (h9 : Rs.length < 100) :
    Calls Tryz.prog 20 #[.slice (some ⟨w.heap.size, 0, none⟩) Rs.length Rs.length] (w.alloc (.cells (Rs.map (·.1)).toArray 29)) fun e w' => e = .returned (.bool true) ∧ Below w0.heap.size w0 w' := by
  have k := bl_alloc w (.cells (Rs.map (·.1)).toArray 29)
  obtain ⟨n, p, d, x, A, R⟩ := mkAr (U := 52) Rs (fun r h => own_keep (hr r h) k) hd (bl_trans hb k) (row_cells w Rs 29) (fun r h e => by have := ((hr r h).lt _ e).2; omega) hn h9
  exact (alone_any w0 _ w.heap.size Rs.length Rs.length n p d x A R (by simp)).mono fun e w' ⟨h1, h2, _⟩ => ⟨h1, h2⟩
end Xo
end Go.Proofs.YtkfkmndhbfeagaaGreatDoor
namespace Go.Proofs.YtkfkmndhbfeagaaGreatDoor
namespace Xo
open Go.RowKit
set_option linter.unusedVariables false
theorem wpinfoO : (Tryz.prog.info? 28).map (·.size) = some 38 := by kernel_rfl
theorem wpList_build125 {ops : Array Oper} {rest : List Oper} {o : Oper} {a : Act} {w : World} {Q : Exit → Act → World → Prop} (hg : o.guard = none) (ho : o.op = .build 47 #[]) (h : wpList Tryz.prog ops Q rest (a.put o.dst (.agg z125.toArray)) w) : wpList Tryz.prog ops Q (o :: rest) a w :=
  wpList_buildC hg 47 #[] ho z125.toArray (by kernel_rfl) h
theorem reader_rb {w x : World} {g d : Nat} {Q : Option Addr} {bs : List UInt8} (h : Tr.Rd w g Q d bs 0) (h0 : 0 < bs.length) (hq : ∀ a, Q = some a → x.heap.size ≤ a.block) : ∃ q, Rb w g q bs 0 ∧ x.heap.size ≤ q ∧ q < w.heap.size := by
  obtain ⟨b, o, rfl⟩ := h.by'.none' h0
  exact ⟨b, ⟨_, _, h, fun a ha => by rw [← Option.some.inj ha]⟩, hq _ rfl, (h.fr _ rfl).2⟩
theorem own_by {w : World} {base c : Nat} {P : Option Addr} {bs : List UInt8} (h : w.ownsRow base 5 1 (.slice P bs.length c) bs.length (Tr.cb bs)) : Tr.By w P c bs := Tr.own_byQ h
theorem same_yes {x : World} {P Q : Option Addr} {c d : Nat} {A : List UInt8} (h1 : Tr.By x P c A) (h2 : Tr.By x Q d A) : Calls Tryz.prog 18 #[.slice P A.length c, .slice Q A.length d] x fun e w' => e = .returned (.bool true) ∧ w' = x :=
  (Tr.same_any P Q c d A A x h1 h2).mono fun e w' ⟨h3, h4⟩ => ⟨by rw [h3]; simp, h4⟩
theorem same_zero {x : World} {P Q : Option Addr} {c d : Nat} {A : List UInt8} (hA : A = []) (h1 : Tr.By x P c A) (h2 : Tr.By x Q d []) : Calls Tryz.prog 18 #[.slice P A.length c, .slice Q 0 d] x fun e w' => e = .returned (.bool true) ∧ w' = x := by
  subst hA
  exact same_yes h1 h2
theorem hx_len (bs : List UInt8) : (Tr.hx bs).length = 2 * bs.length := by
  induction bs with
  | nil => rfl
  | cons b bs ih => unfold Tr.hx at ih ⊢; rw [List.flatMap_cons, List.length_append, ih, List.length_cons, List.length_cons, List.length_cons, List.length_nil]; omega
set_option maxRecDepth 100000 in
set_option maxHeartbeats 64000000 in
theorem own_A (s l r : Nat → E4) (LP RP : Option Addr) (n cL cR : Nat) (bs : List UInt8) (BP : Option Addr) (cB nn : Nat) (w : World) (hT : Tb w) (hH : Hg w) (hn : n ≤ 1048576) (h10 : n ≤ 10) (os : ∀ k, k < 9 → (s k).ok) (ol : ∀ k, k < n → (l k).ok) (or : ∀ k, k < n → (r k).ok) (hL : Lm w LP n l) (hR : Lm w RP n r) (hb : Tr.By w BP cB bs) (lb : bs.length ≤ 1048576) (hnn : nn < 2 ^ 64) :
    Calls Tryz.prog 3 #[.agg (pc s (.slice LP n cL) (.slice RP n cR)).toArray, .slice BP bs.length cB, .int .u64 (nn : Int)] w fun e w' => e = .returned (.bool true) ∧ Below w.heap.size w w' := by
  obtain ⟨Q1, hQ1⟩ : ∃ P, P = pc s (.slice LP n cL) (.slice RP n cR) := ⟨_, rfl⟩
  have a28 : Hid (Q1[28]? = some (.slice LP n cL) ∧ Q1[29]? = some (.slice RP n cR) ∧ Q1.length = 38) := hidden (by rw [hQ1]; exact ⟨rfl, rfl, rfl⟩)
  obtain ⟨X, hX⟩ : ∃ X, pe n s l r = X := ⟨_, rfl⟩
  have lX : X.length = 32 * (9 + 2 * n) := by rw [← hX, pe_len]
  have XB : Hid (X.length ≤ 1000) := hidden (by rw [lX]; omega)
  have BYT : Hid (∀ x, Below w.heap.size w x → Calls Tryz.prog 4 #[.agg Q1.toArray] x fun e w' => ∃ G c : Nat, e = .returned (.slice (some ⟨G, 0, none⟩) X.length c) ∧ w'.ownsRow x.heap.size 5 1 (.slice (some ⟨G, 0, none⟩) X.length c) X.length (Tr.cb X) ∧ Below x.heap.size x w') := hidden (fun x h => by rw [hQ1, lX, ← hX]; exact bytes_wide s l r LP RP n n n cL cR x (by omega) (Nat.le_refl _) (Nat.le_refl _) (.inl rfl) os ol or (hL.keep h) (hR.keep h))
  have ENC : Hid (∀ x P1 c1 P2 c2, Below w.heap.size w x → Lm x P1 n l → Lm x P2 n r → (∀ a, P1 = some a → a.block < x.heap.size) → (∀ a, P2 = some a → a.block < x.heap.size) → Calls Tryz.prog 6 #[.agg (pc s (.slice P1 n c1) (.slice P2 n c2)).toArray] x fun e w' => ∃ V, e = .returned (.tuple #[V, .int .i64 0]) ∧ w'.ownsRow x.heap.size 5 1 V X.length (Tr.cb X) ∧ Below x.heap.size x w') := hidden (fun x P1 c1 P2 c2 h k1 k2 b1 b2 => by rw [← hX]; exact (enc_ok s l r P1 P2 n c1 c2 x (hT.keep h) h10 os ol or k1 k2 b1 b2).mono fun e w' ⟨G, h1, h2, h3⟩ => ⟨_, h1, h2, h3⟩)
  have DX : DOk X n := ⟨h10, lX, fun j hj => by rw [← hX]; exact (back_st n s l r j hj).1⟩
  have DEC : Hid (∀ x P c, Below w.heap.size w x → Tr.By x P c X → Calls Tryz.prog 8 #[.slice P X.length c] x fun e w' => ∃ (s f1 f2 : Nat → E4) (V1 V2 : Value) (er : Int), e = .returned (.tuple #[.agg (pc s V1 V2).toArray, .int .i64 er]) ∧ Below x.heap.size x w' ∧ w'.ownsRow x.heap.size 52 4 V1 n (svs n f1) ∧ w'.ownsRow x.heap.size 52 4 V2 n (svs n f2) ∧ Dj V1 V2 ∧ er = 0) := hidden (fun x P c h hy => (dec_own P c X x (hT.keep h) hy (by omega)).mono fun e w' ⟨s, f1, f2, V1, V2, n1, er, h1, h2, h3, h4, h5, h6, h7⟩ => by
    rcases h7 with ⟨h8, h9⟩ | ⟨_, _, h9⟩
    · obtain rfl : n1 = n := by have := h9.2.1; have := DX.2.1; omega
      exact ⟨s, f1, f2, V1, V2, er, h1, h2, h3, h4, h5, h8⟩
    · exact absurd DX (h9 n))
  have LIN : Hid (∀ x, Below w.heap.size w x → Calls Tryz.prog 7 #[.agg Q1.toArray] x fun e w' => ∃ P1 c1 P2 c2, e = .returned (.agg (pc s (.slice P1 n c1) (.slice P2 n c2)).toArray) ∧ Lm w' P1 n l ∧ Lm w' P2 n r ∧ (∀ a, P1 = some a → a.block < w'.heap.size) ∧ (∀ a, P2 = some a → a.block < w'.heap.size) ∧ Below x.heap.size x w') := hidden (fun x h => by rw [hQ1]; exact (line_any s l r LP RP n n cL cR x (by omega) (by omega) (hL.keep h) (hR.keep h)).mono fun e w' ⟨P1, c1, P2, c2, h1, h2, h3, h4⟩ => ⟨P1, c1, P2, c2, h1, (own_lm h2).1, (own_lm h3).1, (own_lm h2).2, (own_lm h3).2, h4⟩)
  have HBY := hidden (fun x (h : Below w.heap.size w x) => hb.keep h)
  have LB := hidden lb
  have HEX : Hid (∀ x, Below w.heap.size w x → Calls Tryz.prog 10 #[.slice BP bs.length cB] x fun e w' => e = .returned (.string (Tr.sb (Tr.hx bs))) ∧ Below x.heap.size x w') := hidden (fun x h => Tr.hex_any BP cB bs x (hb.keep h) (by omega))
  have UNH : Hid (∀ x, Calls Tryz.prog 9 #[.string (Tr.sb (Tr.hx bs))] x fun e w' => ∃ (v : Value) (k : Nat), e = .returned (.tuple #[v, .int .i64 (k : Int)]) ∧ w'.ownsRow x.heap.size 5 1 v bs.length (Tr.cb bs) ∧ Below x.heap.size x w') := hidden (fun x => (Tr.unhex_any (Tr.hx bs) x (by rw [hx_len]; omega)).mono fun e w' ⟨v, k, h1, h2, h3⟩ => ⟨v, k, h1, by unfold Tr.UhR at h2; rw [Tr.uh_hx] at h2; exact h2.2, h3⟩)
  obtain ⟨NB, hNB⟩ : ∃ l, bs ++ Tr.vn nn = l := ⟨_, rfl⟩
  have ANM : Hid (∀ x, Below w.heap.size w x → Calls Tryz.prog 11 #[.slice BP bs.length cB, .int .u64 (nn : Int)] x fun e w' => ∃ v, e = .returned v ∧ w'.ownsRow x.heap.size 5 1 v NB.length (Tr.cb NB) ∧ Below x.heap.size x w') := hidden (fun x h => by rw [← hNB]; exact Tr.appNum_any BP cB bs nn x (hb.keep h) (by omega) hnn)
  have NBL : Hid (NB.length ≤ 1048600) := hidden (by rw [← hNB, List.length_append]; have := (Tr.vn_len nn).2; omega)
  obtain ⟨FB, hFB⟩ : ∃ l, [] ++ (Tr.vn bs.length ++ bs) = l := ⟨_, rfl⟩
  have ABY : Hid (∀ x, Below w.heap.size w x → Calls Tryz.prog 12 #[.slice none 0 0, .slice BP bs.length cB] x fun e w' => ∃ v, e = .returned v ∧ w'.ownsRow x.heap.size 5 1 v FB.length (Tr.cb FB) ∧ Below x.heap.size x w') := hidden (fun x h => by rw [← hFB]; exact Tr.appBytes_any none BP 0 cB [] bs x (Tr.by_none x) (hb.keep h) (by simp only [List.length_nil]; omega))
  have FBL : Hid (FB.length ≤ 1048600 ∧ 0 < FB.length) := hidden (by rw [← hFB, List.nil_append, List.length_append]; have := Tr.vn_len bs.length; omega)
  have NRD : Hid (∀ x P c, Tr.By x P c FB → Calls Tryz.prog 13 #[.slice P FB.length c] x fun r w' => ∃ g q : Nat, r = .returned (.pointer (some ⟨g, 0, none⟩)) ∧ Rb w' g q FB 0 ∧ x.heap.size ≤ g ∧ x.heap.size ≤ q ∧ q < w'.heap.size ∧ Below x.heap.size x w') := hidden (fun x P c h => (Tr.newReader_b h (by have := FBL.out; omega)).mono fun e w' ⟨g, Q, d, h1, h2, h3, h4, h5⟩ => by
    obtain ⟨q, k1, k2, k3⟩ := reader_rb (x := x) h2 FBL.out.2 h5
    exact ⟨g, q, h1, k1, h3, k2, k3, h4⟩)
  obtain ⟨NL, hNL⟩ : ∃ k, ln FB bs.length = k := ⟨_, rfl⟩
  obtain ⟨fl, hfl⟩ : ∃ f, lf (FB.drop (Tr.ct FB bs.length).2.1) = f := ⟨_, rfl⟩
  have NLB : Hid (NL ≤ 1048576) := hidden (by rw [← hNL]; exact Nat.le_trans (ln_le _ _) lb)
  have LST : Hid (∀ x g q, Rb x g q FB 0 → q < x.heap.size → Calls Tryz.prog 17 #[.pointer (some ⟨g, 0, none⟩), .int .i64 (bs.length : Int), .func (.func 14) #[] #[]] x fun e w' => ∃ V, e = .returned V ∧ w'.ownsRow x.heap.size 52 4 V NL (svs NL fl) ∧ Tr.Kp g x w') := hidden (fun x g q h hq => by rw [← hNL, ← hfl]; exact list_any FB bs.length x g q h hq (by have := FBL.out; omega) lb)
  have UW : Hid (Tryz.prog.underlying 28 = _) := hidden Tryz.underlying28
  have UP : Hid (Tryz.prog.underlying 55 = _) := hidden Tryz.underlying55
  have I1 : Hid ((Tryz.prog.info? 28).map (·.size) = some Q1.length) := hidden (by rw [a28.out.2.2]; exact wpinfoO)
  have n10 : ¬ (10 : Int) < (n : Int) := by omega
  rw [← hQ1]
  have S1 : Hid (Sw w [(w.heap.size, Q1)] [] [] (w.alloc (.cells Q1.toArray 28))) := hidden ⟨(Mw.start w).new Q1 28, fun r hr => (by cases hr), List.Pairwise.nil, fun r hr => (by cases hr), List.Pairwise.nil⟩
  have NBD : Hid (n ≤ 1048576) := hidden hn
  have N10 := hidden h10
  clear hQ1 hT hH hn h10 lX os ol or hL hR hb lb hnn hX DX hNB hFB hNL hfl
  go_enter Tryz.func3, Tryz.ntmps3
  go_upto_region 1 with fail
  generalize w.alloc (.cells Q1.toArray 28) = w1 at *
  obtain ⟨T3, hT3⟩ : ∃ T, w.heap.size = T := ⟨_, rfl⟩
  rw [hT3] at S1 ⊢
  have ET := hidden hT3
  clear hT3
  go_upto_region 2 with (first | refine wpList_load_mid rfl 28 _ rfl T3 0 (by rfl) Q1 _ (S1.out.m.r (T3, Q1) (by simp)).1 UW.out rfl I1.out ?_ | (go_at_call 4; refine (BYT.out _ S1.out.m.bel).mono ?_; rintro e w2 ⟨GW, cW, rfl, ho, hb⟩; have S2 : Hid (Sw w [(T3, Q1)] [(.slice (some ⟨GW, 0, none⟩) X.length cW, X.length, Tr.cb X)] [] w2) := hidden (S1.out.addB hb ho); clear ho hb BYT S1))
  have x28 := (S2.out.m.r (T3, Q1) (by simp)).1 28 _ a28.out.1
  have x29 := (S2.out.m.r (T3, Q1) (by simp)).1 29 _ a28.out.2.1
  simp only [Nat.zero_add] at x28 x29
  go_upto_region 5 with fail
  clear x28 x29
  go_upto_region 6 with (first | refine wpList_load_mid rfl 28 _ rfl T3 0 (by rfl) Q1 _ (S2.out.m.r (T3, Q1) (by simp)).1 UW.out rfl I1.out ?_ | (go_at_call 7; refine (LIN.out _ S2.out.m.bel).mono ?_; rintro e wap ⟨L1, d1, L2, d2, rfl, k1, k2, b1, b2, hb⟩; have SA := hidden (S2.out.keep hb); have EC := hidden (ENC.out wap L1 d1 L2 d2 SA.out.m.bel k1 k2 b1 b2); clear k1 k2 b1 b2 hb S2) | (go_at_call 6; refine EC.out.mono ?_; rintro e wp ⟨V, rfl, ho, hb⟩; obtain ⟨Pp, cp, rfl⟩ := own_sh ho; have Sp : Hid (Sw w [(T3, Q1)] [(.slice (some ⟨GW, 0, none⟩) X.length cW, X.length, Tr.cb X), (.slice Pp X.length cp, X.length, Tr.cb X)] [] wp) := hidden (SA.out.addB hb ho); clear ho hb EC SA))
  go_upto_region 7 with (first | refine wpList_load_mid rfl 28 _ rfl T3 0 (by rfl) Q1 _ (Sp.out.m.r (T3, Q1) (by simp)).1 UW.out rfl I1.out ?_ | (go_at_call 7; refine (LIN.out _ Sp.out.m.bel).mono ?_; rintro e waq ⟨L1, d1, L2, d2, rfl, k1, k2, b1, b2, hb⟩; have SA := hidden (Sp.out.keep hb); have EC := hidden (ENC.out waq L1 d1 L2 d2 SA.out.m.bel k1 k2 b1 b2); clear k1 k2 b1 b2 hb Sp) | (go_at_call 6; refine EC.out.mono ?_; rintro e wq ⟨V, rfl, ho, hb⟩; obtain ⟨Pq, cq, rfl⟩ := own_sh ho; have Sq : Hid (Sw w [(T3, Q1)] [(.slice (some ⟨GW, 0, none⟩) X.length cW, X.length, Tr.cb X), (.slice Pp X.length cp, X.length, Tr.cb X), (.slice Pq X.length cq, X.length, Tr.cb X)] [] wq) := hidden (SA.out.addB hb ho); clear ho hb EC SA))
  clear LIN ENC
  have DCx := hidden (DEC.out _ Pp cp Sq.out.m.bel (own_by (Sq.out.b (.slice Pp X.length cp, X.length, Tr.cb X) (by simp))))
  go_upto_region 8 with (first | (go_at_call 8; refine DCx.out.mono ?_; rintro e wax ⟨sx, f1, f2, V1, V2, erx, rfl, hb, ho1, ho2, hdj, her⟩; obtain ⟨P1, c1, rfl⟩ := own_sh ho1; obtain ⟨P2, c2, rfl⟩ := own_sh ho2; have SA : Hid (Sw w [(T3, Q1)] [(.slice (some ⟨GW, 0, none⟩) X.length cW, X.length, Tr.cb X), (.slice Pp X.length cp, X.length, Tr.cb X), (.slice Pq X.length cq, X.length, Tr.cb X)] [(.slice P1 n c1, n, svs n f1), (.slice P2 n c2, n, svs n f2)] wax) := hidden (Sq.out.addL2 hb ho1 ho2 hdj); have ERx := hidden her; obtain ⟨Qx, hQ⟩ : ∃ P, pc sx (.slice P1 n c1) (.slice P2 n c2) = P := ⟨_, rfl⟩; have bbx : Hid (Qx[28]? = some (.slice P1 n c1) ∧ Qx[29]? = some (.slice P2 n c2) ∧ Qx.length = 38) := hidden (by rw [← hQ]; exact ⟨rfl, rfl, rfl⟩); have OQ : Hid (Qx.toArray.all (·.oneCell') = true) := hidden (by rw [← hQ]; exact pc_one _ _ _ _ _ _ _); rw [hQ]; have BX := hidden (SA.out.box (z := pcv zero4 zero4 zero4 zero4 zero4 zero4 zero4 zero4 zero4 (.slice none 0 0) (.slice none 0 0)) (cs := Qx) (t := 55) (by rw [bbx.out.2.2]; rfl)); have IQ : Hid ((Tryz.prog.info? 55).map (·.size) = some Qx.toArray.size) := hidden (by rw [List.size_toArray, bbx.out.2.2]; exact pinfo); clear hQ ho1 ho2 hdj her hb DCx Sq) | refine wpList_allocP rfl rfl ?_ | refine wpList_store_mid rfl 55 _ _ rfl wax.heap.size 0 Qx.toArray (by rfl) (by rfl) BX.out.2 IQ.out OQ.out ?_)
  have SB : Hid (Sw w ((wax.heap.size, Qx) :: [(T3, Q1)]) [(.slice (some ⟨GW, 0, none⟩) X.length cW, X.length, Tr.cb X), (.slice Pp X.length cp, X.length, Tr.cb X), (.slice Pq X.length cq, X.length, Tr.cb X)] [(.slice P1 n c1, n, svs n f1), (.slice P2 n c2, n, svs n f2)] ((wax.alloc (.cells (pcv zero4 zero4 zero4 zero4 zero4 zero4 zero4 zero4 zero4 (.slice none 0 0) (.slice none 0 0)).toArray 55)).setCells wax.heap.size 0 Qx)) := hidden BX.out.1
  generalize (wax.alloc (.cells (pcv zero4 zero4 zero4 zero4 zero4 zero4 zero4 zero4 zero4 (.slice none 0 0) (.slice none 0 0)).toArray 55)).setCells wax.heap.size 0 Qx = wx at *
  generalize wax.heap.size = Tx at *
  have Sx : Hid (Sw w [(Tx, Qx), (T3, Q1)] [(.slice (some ⟨GW, 0, none⟩) X.length cW, X.length, Tr.cb X), (.slice Pp X.length cp, X.length, Tr.cb X), (.slice Pq X.length cq, X.length, Tr.cb X)] [(.slice P1 n c1, n, svs n f1), (.slice P2 n c2, n, svs n f2)] wx) := SB
  clear SB SA BX IQ OQ
  have DCy := hidden (DEC.out _ Pp cp Sx.out.m.bel (own_by (Sx.out.b (.slice Pp X.length cp, X.length, Tr.cb X) (by simp))))
  go_upto_region 9 with (first | (go_at_call 8; refine DCy.out.mono ?_; rintro e way ⟨sy, f3, f4, V1, V2, ery, rfl, hb, ho1, ho2, hdj, her⟩; obtain ⟨P3, c3, rfl⟩ := own_sh ho1; obtain ⟨P4, c4, rfl⟩ := own_sh ho2; have SA : Hid (Sw w [(Tx, Qx), (T3, Q1)] [(.slice (some ⟨GW, 0, none⟩) X.length cW, X.length, Tr.cb X), (.slice Pp X.length cp, X.length, Tr.cb X), (.slice Pq X.length cq, X.length, Tr.cb X)] [(.slice P1 n c1, n, svs n f1), (.slice P2 n c2, n, svs n f2), (.slice P3 n c3, n, svs n f3), (.slice P4 n c4, n, svs n f4)] way) := hidden (Sx.out.addL2 hb ho1 ho2 hdj); have ERy := hidden her; obtain ⟨Qy, hQ⟩ : ∃ P, pc sy (.slice P3 n c3) (.slice P4 n c4) = P := ⟨_, rfl⟩; have bby : Hid (Qy[28]? = some (.slice P3 n c3) ∧ Qy[29]? = some (.slice P4 n c4) ∧ Qy.length = 38) := hidden (by rw [← hQ]; exact ⟨rfl, rfl, rfl⟩); have OQ : Hid (Qy.toArray.all (·.oneCell') = true) := hidden (by rw [← hQ]; exact pc_one _ _ _ _ _ _ _); rw [hQ]; have BX := hidden (SA.out.box (z := pcv zero4 zero4 zero4 zero4 zero4 zero4 zero4 zero4 zero4 (.slice none 0 0) (.slice none 0 0)) (cs := Qy) (t := 55) (by rw [bby.out.2.2]; rfl)); have IQ : Hid ((Tryz.prog.info? 55).map (·.size) = some Qy.toArray.size) := hidden (by rw [List.size_toArray, bby.out.2.2]; exact pinfo); clear hQ ho1 ho2 hdj her hb DCy Sx) | refine wpList_allocP rfl rfl ?_ | refine wpList_store_mid rfl 55 _ _ rfl way.heap.size 0 Qy.toArray (by rfl) (by rfl) BX.out.2 IQ.out OQ.out ?_)
  have SB : Hid (Sw w ((way.heap.size, Qy) :: [(Tx, Qx), (T3, Q1)]) [(.slice (some ⟨GW, 0, none⟩) X.length cW, X.length, Tr.cb X), (.slice Pp X.length cp, X.length, Tr.cb X), (.slice Pq X.length cq, X.length, Tr.cb X)] [(.slice P1 n c1, n, svs n f1), (.slice P2 n c2, n, svs n f2), (.slice P3 n c3, n, svs n f3), (.slice P4 n c4, n, svs n f4)] ((way.alloc (.cells (pcv zero4 zero4 zero4 zero4 zero4 zero4 zero4 zero4 zero4 (.slice none 0 0) (.slice none 0 0)).toArray 55)).setCells way.heap.size 0 Qy)) := hidden BX.out.1
  generalize (way.alloc (.cells (pcv zero4 zero4 zero4 zero4 zero4 zero4 zero4 zero4 zero4 (.slice none 0 0) (.slice none 0 0)).toArray 55)).setCells way.heap.size 0 Qy = wy at *
  generalize way.heap.size = Ty at *
  have Sy : Hid (Sw w [(Ty, Qy), (Tx, Qx), (T3, Q1)] [(.slice (some ⟨GW, 0, none⟩) X.length cW, X.length, Tr.cb X), (.slice Pp X.length cp, X.length, Tr.cb X), (.slice Pq X.length cq, X.length, Tr.cb X)] [(.slice P1 n c1, n, svs n f1), (.slice P2 n c2, n, svs n f2), (.slice P3 n c3, n, svs n f3), (.slice P4 n c4, n, svs n f4)] wy) := SB
  clear SB SA BX IQ OQ
  clear DEC
  go_upto_region 10 with (first | (go_at_call 10; refine (HEX.out _ Sy.out.m.bel).mono ?_; rintro e wah ⟨rfl, hb⟩; have SA := hidden (Sy.out.keep hb); clear hb Sy) | (go_at_call 9; refine (UNH.out _).mono ?_; rintro e wh ⟨V, kkh, rfl, ho, hb⟩; obtain ⟨Ph, ch, rfl⟩ := own_sh ho; have Sh : Hid (Sw w [(Ty, Qy), (Tx, Qx), (T3, Q1)] [(.slice (some ⟨GW, 0, none⟩) X.length cW, X.length, Tr.cb X), (.slice Pp X.length cp, X.length, Tr.cb X), (.slice Pq X.length cq, X.length, Tr.cb X), (.slice Ph bs.length ch, bs.length, Tr.cb bs)] [(.slice P1 n c1, n, svs n f1), (.slice P2 n c2, n, svs n f2), (.slice P3 n c3, n, svs n f3), (.slice P4 n c4, n, svs n f4)] wh) := hidden (SA.out.addB hb ho); clear ho hb SA))
  go_upto_region 11 with (first | (go_at_call 10; refine (HEX.out _ Sh.out.m.bel).mono ?_; rintro e wai ⟨rfl, hb⟩; have SA := hidden (Sh.out.keep hb); clear hb Sh) | (go_at_call 9; refine (UNH.out _).mono ?_; rintro e wi ⟨V, kki, rfl, ho, hb⟩; obtain ⟨Pi, ci, rfl⟩ := own_sh ho; have Si : Hid (Sw w [(Ty, Qy), (Tx, Qx), (T3, Q1)] [(.slice (some ⟨GW, 0, none⟩) X.length cW, X.length, Tr.cb X), (.slice Pp X.length cp, X.length, Tr.cb X), (.slice Pq X.length cq, X.length, Tr.cb X), (.slice Ph bs.length ch, bs.length, Tr.cb bs), (.slice Pi bs.length ci, bs.length, Tr.cb bs)] [(.slice P1 n c1, n, svs n f1), (.slice P2 n c2, n, svs n f2), (.slice P3 n c3, n, svs n f3), (.slice P4 n c4, n, svs n f4)] wi) := hidden (SA.out.addB hb ho); clear ho hb SA))
  clear HEX UNH
  go_upto_region 12 with (first | (go_at_call 11; refine (ANM.out _ Si.out.m.bel).mono ?_; rintro e wc ⟨V, rfl, ho, hb⟩; obtain ⟨Pc, cc, rfl⟩ := own_sh ho; have Sc : Hid (Sw w [(Ty, Qy), (Tx, Qx), (T3, Q1)] [(.slice (some ⟨GW, 0, none⟩) X.length cW, X.length, Tr.cb X), (.slice Pp X.length cp, X.length, Tr.cb X), (.slice Pq X.length cq, X.length, Tr.cb X), (.slice Ph bs.length ch, bs.length, Tr.cb bs), (.slice Pi bs.length ci, bs.length, Tr.cb bs), (.slice Pc NB.length cc, NB.length, Tr.cb NB)] [(.slice P1 n c1, n, svs n f1), (.slice P2 n c2, n, svs n f2), (.slice P3 n c3, n, svs n f3), (.slice P4 n c4, n, svs n f4)] wc) := hidden (Si.out.addB hb ho); clear ho hb Si) | (go_at_call 11; refine (ANM.out _ Sc.out.m.bel).mono ?_; rintro e wd ⟨V, rfl, ho, hb⟩; obtain ⟨Pd, cd, rfl⟩ := own_sh ho; have Sd : Hid (Sw w [(Ty, Qy), (Tx, Qx), (T3, Q1)] [(.slice (some ⟨GW, 0, none⟩) X.length cW, X.length, Tr.cb X), (.slice Pp X.length cp, X.length, Tr.cb X), (.slice Pq X.length cq, X.length, Tr.cb X), (.slice Ph bs.length ch, bs.length, Tr.cb bs), (.slice Pi bs.length ci, bs.length, Tr.cb bs), (.slice Pc NB.length cc, NB.length, Tr.cb NB), (.slice Pd NB.length cd, NB.length, Tr.cb NB)] [(.slice P1 n c1, n, svs n f1), (.slice P2 n c2, n, svs n f2), (.slice P3 n c3, n, svs n f3), (.slice P4 n c4, n, svs n f4)] wd) := hidden (Sc.out.addB hb ho); clear ho hb Sc))
  go_upto_region 13 with (first | (go_at_call 12; refine (ABY.out _ Sd.out.m.bel).mono ?_; rintro e ws ⟨V, rfl, ho, hb⟩; obtain ⟨Ps, cs, rfl⟩ := own_sh ho; have Ss : Hid (Sw w [(Ty, Qy), (Tx, Qx), (T3, Q1)] [(.slice (some ⟨GW, 0, none⟩) X.length cW, X.length, Tr.cb X), (.slice Pp X.length cp, X.length, Tr.cb X), (.slice Pq X.length cq, X.length, Tr.cb X), (.slice Ph bs.length ch, bs.length, Tr.cb bs), (.slice Pi bs.length ci, bs.length, Tr.cb bs), (.slice Pc NB.length cc, NB.length, Tr.cb NB), (.slice Pd NB.length cd, NB.length, Tr.cb NB), (.slice Ps FB.length cs, FB.length, Tr.cb FB)] [(.slice P1 n c1, n, svs n f1), (.slice P2 n c2, n, svs n f2), (.slice P3 n c3, n, svs n f3), (.slice P4 n c4, n, svs n f4)] ws) := hidden (Sd.out.addB hb ho); clear ho hb Sd) | (go_at_call 12; refine (ABY.out _ Ss.out.m.bel).mono ?_; rintro e wt ⟨V, rfl, ho, hb⟩; obtain ⟨Pt, ct, rfl⟩ := own_sh ho; have St : Hid (Sw w [(Ty, Qy), (Tx, Qx), (T3, Q1)] [(.slice (some ⟨GW, 0, none⟩) X.length cW, X.length, Tr.cb X), (.slice Pp X.length cp, X.length, Tr.cb X), (.slice Pq X.length cq, X.length, Tr.cb X), (.slice Ph bs.length ch, bs.length, Tr.cb bs), (.slice Pi bs.length ci, bs.length, Tr.cb bs), (.slice Pc NB.length cc, NB.length, Tr.cb NB), (.slice Pd NB.length cd, NB.length, Tr.cb NB), (.slice Ps FB.length cs, FB.length, Tr.cb FB), (.slice Pt FB.length ct, FB.length, Tr.cb FB)] [(.slice P1 n c1, n, svs n f1), (.slice P2 n c2, n, svs n f2), (.slice P3 n c3, n, svs n f3), (.slice P4 n c4, n, svs n f4)] wt) := hidden (Ss.out.addB hb ho); clear ho hb Ss))
  clear ANM ABY
  have BS := hidden (fun x (h : Sw w [(Ty, Qy), (Tx, Qx), (T3, Q1)] [(.slice (some ⟨GW, 0, none⟩) X.length cW, X.length, Tr.cb X), (.slice Pp X.length cp, X.length, Tr.cb X), (.slice Pq X.length cq, X.length, Tr.cb X), (.slice Ph bs.length ch, bs.length, Tr.cb bs), (.slice Pi bs.length ci, bs.length, Tr.cb bs), (.slice Pc NB.length cc, NB.length, Tr.cb NB), (.slice Pd NB.length cd, NB.length, Tr.cb NB), (.slice Ps FB.length cs, FB.length, Tr.cb FB), (.slice Pt FB.length ct, FB.length, Tr.cb FB)] [(.slice P1 n c1, n, svs n f1), (.slice P2 n c2, n, svs n f2), (.slice P3 n c3, n, svs n f3), (.slice P4 n c4, n, svs n f4)] x) => own_by (h.b (.slice Ps FB.length cs, FB.length, Tr.cb FB) (by simp)))
  have MSZ := hidden (fun x (h : Sw w [(Ty, Qy), (Tx, Qx), (T3, Q1)] [(.slice (some ⟨GW, 0, none⟩) X.length cW, X.length, Tr.cb X), (.slice Pp X.length cp, X.length, Tr.cb X), (.slice Pq X.length cq, X.length, Tr.cb X), (.slice Ph bs.length ch, bs.length, Tr.cb bs), (.slice Pi bs.length ci, bs.length, Tr.cb bs), (.slice Pc NB.length cc, NB.length, Tr.cb NB), (.slice Pd NB.length cd, NB.length, Tr.cb NB), (.slice Ps FB.length cs, FB.length, Tr.cb FB), (.slice Pt FB.length ct, FB.length, Tr.cb FB)] [(.slice P1 n c1, n, svs n f1), (.slice P2 n c2, n, svs n f2), (.slice P3 n c3, n, svs n f3), (.slice P4 n c4, n, svs n f4)] x) (g : Nat) (hg : x.heap.size ≤ g) => (show ∀ p ∈ [(Ty, Qy), (Tx, Qx), (T3, Q1)], p.1 ≠ g from fun p hp => Nat.ne_of_lt (Nat.lt_of_lt_of_le (h.m.r p hp).2.2.2 hg)))
  go_upto_region 15 with (first | (go_at_call 13; refine (NRD.out _ Ps cs (BS.out _ St.out)).mono ?_; rintro e wu ⟨g1, q1, rfl, hr, h1, h2, h3, hb⟩; have Su := hidden (St.out.keep hb); have R1 := hidden hr; have G1 : Hid (w.heap.size ≤ g1 ∧ q1 < wu.heap.size ∧ g1 < wu.heap.size) := hidden ⟨Nat.le_trans St.out.m.bel.size h1, h3, hr.glt⟩; have MG1 := hidden (MSZ.out _ St.out g1 h1); clear hr h1 h2 h3 hb St) | (go_at_call 13; refine (NRD.out _ Ps cs (BS.out _ Su.out)).mono ?_; rintro e wv ⟨g2, q2, rfl, hr, h1, h2, h3, hb⟩; have Sv := hidden (Su.out.keep hb); replace R1 := hidden (R1.out.keep hb); have R2 := hidden hr; have G2 : Hid (w.heap.size ≤ g2 ∧ q2 < wv.heap.size ∧ g2 ≠ g1 ∧ q2 ≠ g1 ∧ q1 < wv.heap.size) := hidden (by (have a1 := G1.out; have a2 := hb.size; have a3 := Su.out.m.bel.size; omega)); have MG2 := hidden (MSZ.out _ Su.out g2 h1); clear hr h1 h2 h3 hb Su))
  clear NRD BS MSZ
  go_upto_region 16 with (first | (go_at_call 17; refine (LST.out _ g1 q1 R1.out G2.out.2.2.2.2).mono ?_; rintro e wk ⟨V, rfl, ho, hk⟩; obtain ⟨Pk, ck, rfl⟩ := own_sh ho; have Sk : Hid (Sw w [(Ty, Qy), (Tx, Qx), (T3, Q1)] [(.slice (some ⟨GW, 0, none⟩) X.length cW, X.length, Tr.cb X), (.slice Pp X.length cp, X.length, Tr.cb X), (.slice Pq X.length cq, X.length, Tr.cb X), (.slice Ph bs.length ch, bs.length, Tr.cb bs), (.slice Pi bs.length ci, bs.length, Tr.cb bs), (.slice Pc NB.length cc, NB.length, Tr.cb NB), (.slice Pd NB.length cd, NB.length, Tr.cb NB), (.slice Ps FB.length cs, FB.length, Tr.cb FB), (.slice Pt FB.length ct, FB.length, Tr.cb FB)] [(.slice P1 n c1, n, svs n f1), (.slice P2 n c2, n, svs n f2), (.slice P3 n c3, n, svs n f3), (.slice P4 n c4, n, svs n f4), (.slice Pk NL ck, NL, svs NL fl)] wk) := hidden (Sv.out.kpL R1.out hk G1.out.1 MG1.out ho); have R3 := hidden (R2.out.kp hk G2.out.2.2.1 G2.out.2.2.2.1); have G3 : Hid (q2 < wk.heap.size) := hidden (Nat.lt_of_lt_of_le G2.out.2.1 hk.size); clear ho hk R1 R2 Sv) | (go_at_call 17; refine (LST.out _ g2 q2 R3.out G3.out).mono ?_; rintro e wl ⟨V, rfl, ho, hk⟩; obtain ⟨Pl, cl, rfl⟩ := own_sh ho; have Sl : Hid (Sw w [(Ty, Qy), (Tx, Qx), (T3, Q1)] [(.slice (some ⟨GW, 0, none⟩) X.length cW, X.length, Tr.cb X), (.slice Pp X.length cp, X.length, Tr.cb X), (.slice Pq X.length cq, X.length, Tr.cb X), (.slice Ph bs.length ch, bs.length, Tr.cb bs), (.slice Pi bs.length ci, bs.length, Tr.cb bs), (.slice Pc NB.length cc, NB.length, Tr.cb NB), (.slice Pd NB.length cd, NB.length, Tr.cb NB), (.slice Ps FB.length cs, FB.length, Tr.cb FB), (.slice Pt FB.length ct, FB.length, Tr.cb FB)] [(.slice P1 n c1, n, svs n f1), (.slice P2 n c2, n, svs n f2), (.slice P3 n c3, n, svs n f3), (.slice P4 n c4, n, svs n f4), (.slice Pk NL ck, NL, svs NL fl), (.slice Pl NL cl, NL, svs NL fl)] wl) := hidden (Sk.out.kpL R3.out hk G2.out.1 MG2.out ho); clear ho hk R3 Sk))
  clear LST G1 G2 G3 MG1 MG2
  have Z0 := hidden (same_yes (own_by (Sl.out.b (.slice Pp X.length cp, X.length, Tr.cb X) (by simp))) (own_by (Sl.out.b (.slice (some ⟨GW, 0, none⟩) X.length cW, X.length, Tr.cb X) (by simp))))
  have Z1 := hidden (same_yes (own_by (Sl.out.b (.slice Pq X.length cq, X.length, Tr.cb X) (by simp))) (own_by (Sl.out.b (.slice (some ⟨GW, 0, none⟩) X.length cW, X.length, Tr.cb X) (by simp))))
  have Z2 := hidden (same_yes (own_by (Sl.out.b (.slice Ph bs.length ch, bs.length, Tr.cb bs) (by simp))) (HBY.out _ Sl.out.m.bel))
  have Z3 := hidden (same_yes (own_by (Sl.out.b (.slice Pi bs.length ci, bs.length, Tr.cb bs) (by simp))) (HBY.out _ Sl.out.m.bel))
  have Z4 := hidden (same_yes (own_by (Sl.out.b (.slice Pc NB.length cc, NB.length, Tr.cb NB) (by simp))) (own_by (Sl.out.b (.slice Pd NB.length cd, NB.length, Tr.cb NB) (by simp))))
  have Z5 := hidden (same_yes (own_by (Sl.out.b (.slice Ps FB.length cs, FB.length, Tr.cb FB) (by simp))) (own_by (Sl.out.b (.slice Pt FB.length ct, FB.length, Tr.cb FB) (by simp))))
  go_upto_region 18 with (first | (go_at_call 18; refine Z0.out.mono ?_; rintro e wz ⟨rfl, rfl⟩; clear Z0) | (go_at_call 18; refine Z1.out.mono ?_; rintro e wz ⟨rfl, rfl⟩; clear Z1) | (go_at_call 18; refine Z2.out.mono ?_; rintro e wz ⟨rfl, rfl⟩; clear Z2) | (go_at_call 18; refine Z3.out.mono ?_; rintro e wz ⟨rfl, rfl⟩; clear Z3) | (go_at_call 18; refine Z4.out.mono ?_; rintro e wz ⟨rfl, rfl⟩; clear Z4) | (go_at_call 18; refine Z5.out.mono ?_; rintro e wz ⟨rfl, rfl⟩; clear Z5))
  have y0 := (Sl.out.m.r (T3, Q1) (by simp)).1 28 _ a28.out.1
  have y1 := (Sl.out.m.r (Tx, Qx) (by simp)).1 28 _ bbx.out.1
  have y2 := (Sl.out.m.r (Tx, Qx) (by simp)).1 29 _ bbx.out.2.1
  have y3 := (Sl.out.m.r (Ty, Qy) (by simp)).1 28 _ bby.out.1
  have y4 := (Sl.out.m.r (Ty, Qy) (by simp)).1 29 _ bby.out.2.1
  simp only [Nat.zero_add] at y0 y1 y2 y3 y4
  have e0 := ERx.out
  subst e0
  go_upto_region 20 with fail
  clear y0 y1 y2 y3 y4
  go_wp2_with fail
  go_loopw [29] (fun kv w' => ∃ j : Nat, j ≤ NL ∧ kv = .int .i64 (j : Int) ∧ Hid (Sw w [(Ty, Qy), (Tx, Qx), (T3, Q1)] [(.slice (some ⟨GW, 0, none⟩) X.length cW, X.length, Tr.cb X), (.slice Pp X.length cp, X.length, Tr.cb X), (.slice Pq X.length cq, X.length, Tr.cb X), (.slice Ph bs.length ch, bs.length, Tr.cb bs), (.slice Pi bs.length ci, bs.length, Tr.cb bs), (.slice Pc NB.length cc, NB.length, Tr.cb NB), (.slice Pd NB.length cd, NB.length, Tr.cb NB), (.slice Ps FB.length cs, FB.length, Tr.cb FB), (.slice Pt FB.length ct, FB.length, Tr.cb FB)] [(.slice P1 n c1, n, svs n f1), (.slice P2 n c2, n, svs n f2), (.slice P3 n c3, n, svs n f3), (.slice P4 n c4, n, svs n f4), (.slice Pk NL ck, NL, svs NL fl), (.slice Pl NL cl, NL, svs NL fl)] w')) (fun k _ => NL - (intOf k).toNat)
  case atStart => exact ⟨0, by omega, rfl, Sl⟩
  case round =>
    clear Sl
    obtain ⟨j, hj, rfl, Sl⟩ := hrel
    by_cases hjn : j < NL
    · have j0 : (0 : Int) ≤ (j : Int) := by omega
      have j1 : (j : Int) < (NL : Int) := by omega
      have w9 : IntKind.i64.wrap ((j : Int) + 1) = (j : Int) + 1 := IntWalk.i64_in _ (by have := NLB.out; omega)
      obtain ⟨⟨kb, ko, k1, k2⟩, _⟩ := own_lm (Sl.out.l (.slice Pk NL ck, NL, svs NL fl) (by simp))
      obtain ⟨⟨lb, lo, l1, l2⟩, _⟩ := own_lm (Sl.out.l (.slice Pl NL cl, NL, svs NL fl) (by simp))
      obtain rfl := k1 (by omega)
      obtain rfl := l1 (by omega)
      have rk := k2 (by omega)
      have rl := l2 (by omega)
      have ck0 := rk.c0 j hjn
      have cl0 := rl.c0 j hjn
      have ck1 := rk.c1 j hjn
      have cl1 := rl.c1 j hjn
      have ck2 := rk.c2 j hjn
      have cl2 := rl.c2 j hjn
      have ck3 := rk.c3 j hjn
      have cl3 := rl.c3 j hjn
      have qw := fun w => (eqL (fl j) (fl j) w).trans (by rw [E4.same_self] : _ = Result.ok true w)
      simp only [E4.v] at qw
      generalize fl j = z at *
      have NX := hidden (Sl.out.keep (Tr.drew_blW wr))
      clear Sl k1 k2 l1 l2 rk rl
      go_upto_region 23 with fail
      go_big_region
      go_wp2_with fail
      go_roundw
      case rel => exact ⟨j + 1, by omega, by go_num, NX⟩
      case measure => simp [intOf]; omega
    · obtain rfl : j = NL := by omega
      have lq : ¬ (j : Int) < (j : Int) := by omega
      have y1 := (Sl.out.m.r (Tx, Qx) (by simp)).1 28 _ bbx.out.1
      have y2 := (Sl.out.m.r (Tx, Qx) (by simp)).1 29 _ bbx.out.2.1
      have y3 := (Sl.out.m.r (Ty, Qy) (by simp)).1 28 _ bby.out.1
      have y4 := (Sl.out.m.r (Ty, Qy) (by simp)).1 29 _ bby.out.2.1
      simp only [Nat.zero_add] at y1 y2 y3 y4
      have SJ : Hid (Sw w [(Ty, Qy), (Tx, Qx), (T3, Q1)] [(.slice (some ⟨GW, 0, none⟩) X.length cW, X.length, Tr.cb X), (.slice Pp X.length cp, X.length, Tr.cb X), (.slice Pq X.length cq, X.length, Tr.cb X), (.slice Ph bs.length ch, bs.length, Tr.cb bs), (.slice Pi bs.length ci, bs.length, Tr.cb bs), (.slice Pc NB.length cc, NB.length, Tr.cb NB), (.slice Pd NB.length cd, NB.length, Tr.cb NB), (.slice Ps FB.length cs, FB.length, Tr.cb FB), (.slice Pt FB.length ct, FB.length, Tr.cb FB)] [(.slice P1 n c1, n, svs n f1), (.slice P2 n c2, n, svs n f2), (.slice P3 n c3, n, svs n f3), (.slice P4 n c4, n, svs n f4), (.slice Pk j ck, j, svs j fl), (.slice Pl j cl, j, svs j fl)] wr) := Sl
      have LB6 : ∀ r ∈ [(.slice P1 n c1, n, svs n f1), (.slice P2 n c2, n, svs n f2), (.slice P3 n c3, n, svs n f3), (.slice P4 n c4, n, svs n f4), (.slice Pk j ck, j, svs j fl), (.slice Pl j cl, j, svs j fl)], (r : Value × Nat × List Value).2.1 ≤ 1099511627776 := by
        intro r hr
        simp only [List.mem_cons, List.not_mem_nil, or_false] at hr
        rcases hr with rfl | rfl | rfl | rfl | rfl | rfl
        · exact Nat.le_trans N10.out (by decide)
        · exact Nat.le_trans N10.out (by decide)
        · exact Nat.le_trans N10.out (by decide)
        · exact Nat.le_trans N10.out (by decide)
        · exact Nat.le_trans NLB.out (by decide)
        · exact Nat.le_trans NLB.out (by decide)
      have LON0 := lone_rows SJ.out LB6 (by simp)
      simp only [List.length_cons, List.length_nil, List.map_cons, List.map_nil, Nat.reduceAdd] at LON0
      have LON := hidden LON0
      clear LON0 LB6
      have BD : Hid (List.Pairwise (fun (a b : Value × Nat × List Value) => Dj a.1 b.1) [(.slice Pp X.length cp, X.length, Tr.cb X), (.slice Pq X.length cq, X.length, Tr.cb X), (.slice Ph bs.length ch, bs.length, Tr.cb bs), (.slice Pi bs.length ci, bs.length, Tr.cb bs), (.slice Pc NB.length cc, NB.length, Tr.cb NB), (.slice Pd NB.length cd, NB.length, Tr.cb NB), (.slice Ps FB.length cs, FB.length, Tr.cb FB), (.slice Pt FB.length ct, FB.length, Tr.cb FB)]) := hidden (List.pairwise_cons.1 SJ.out.bd).2
      have BB8 : ∀ r ∈ [(.slice Pp X.length cp, X.length, Tr.cb X), (.slice Pq X.length cq, X.length, Tr.cb X), (.slice Ph bs.length ch, bs.length, Tr.cb bs), (.slice Pi bs.length ci, bs.length, Tr.cb bs), (.slice Pc NB.length cc, NB.length, Tr.cb NB), (.slice Pd NB.length cd, NB.length, Tr.cb NB), (.slice Ps FB.length cs, FB.length, Tr.cb FB), (.slice Pt FB.length ct, FB.length, Tr.cb FB)], (r : Value × Nat × List Value).2.1 ≤ 1099511627776 := by
        intro r hr
        simp only [List.mem_cons, List.not_mem_nil, or_false] at hr
        rcases hr with rfl | rfl | rfl | rfl | rfl | rfl | rfl | rfl
        · exact Nat.le_trans XB.out (by decide)
        · exact Nat.le_trans XB.out (by decide)
        · exact Nat.le_trans LB.out (by decide)
        · exact Nat.le_trans LB.out (by decide)
        · exact Nat.le_trans NBL.out (by decide)
        · exact Nat.le_trans NBL.out (by decide)
        · exact Nat.le_trans FBL.out.1 (by decide)
        · exact Nat.le_trans FBL.out.1 (by decide)
      have ALO := hidden (fun x (hb : Below w.heap.size w x) (hr : ∀ r ∈ [(.slice (some ⟨GW, 0, none⟩) X.length cW, X.length, Tr.cb X), (.slice Pp X.length cp, X.length, Tr.cb X), (.slice Pq X.length cq, X.length, Tr.cb X), (.slice Ph bs.length ch, bs.length, Tr.cb bs), (.slice Pi bs.length ci, bs.length, Tr.cb bs), (.slice Pc NB.length cc, NB.length, Tr.cb NB), (.slice Pd NB.length cd, NB.length, Tr.cb NB), (.slice Ps FB.length cs, FB.length, Tr.cb FB), (.slice Pt FB.length ct, FB.length, Tr.cb FB)], x.ownsRow w.heap.size 5 1 (r : Value × Nat × List Value).1 r.2.1 r.2.2) => alone_rows (Rs := [(.slice Pp X.length cp, X.length, Tr.cb X), (.slice Pq X.length cq, X.length, Tr.cb X), (.slice Ph bs.length ch, bs.length, Tr.cb bs), (.slice Pi bs.length ci, bs.length, Tr.cb bs), (.slice Pc NB.length cc, NB.length, Tr.cb NB), (.slice Pd NB.length cd, NB.length, Tr.cb NB), (.slice Ps FB.length cs, FB.length, Tr.cb FB), (.slice Pt FB.length ct, FB.length, Tr.cb FB)]) hb (fun r h => hr r (List.mem_cons_of_mem _ h)) BD.out BB8 (by simp))
      simp only [List.length_cons, List.length_nil, List.map_cons, List.map_nil, Nat.reduceAdd] at ALO
      clear BB8
      clear Sl SJ BD
      go_wp2_with (first | (go_at_call 19; refine LON.out.mono ?_; rintro e wo ⟨rfl, hb, hr⟩; have AC := hidden (ALO.out wo hb hr); clear hb hr LON ALO y1 y2 y3 y4) | (go_at_call 20; refine AC.out.mono ?_; rintro e wp ⟨rfl, hb⟩; have BE := hidden hb; clear hb AC))
      go_ret
      exact ⟨rfl, BE.out⟩
set_option maxRecDepth 100000 in
set_option maxHeartbeats 64000000 in
theorem own_B1 (s l r : Nat → E4) (LP RP : Option Addr) (n q cL cR : Nat) (bs : List UInt8) (BP : Option Addr) (cB nn : Nat) (w : World) (hT : Tb w) (hH : Hg w) (hn : n ≤ 1048576) (hq : q ≤ 1048576) (hne : n ≠ q) (os : ∀ k, k < 9 → (s k).ok) (ol : ∀ k, k < n → (l k).ok) (or : ∀ k, k < q → (r k).ok) (hL : Lm w LP n l) (hR : Lm w RP q r) (hb : Tr.By w BP cB bs) (lb : bs.length ≤ 1048576) (hnn : nn < 2 ^ 64) :
    Calls Tryz.prog 3 #[.agg (pc s (.slice LP n cL) (.slice RP q cR)).toArray, .slice BP bs.length cB, .int .u64 (nn : Int)] w fun e w' => e = .returned (.bool true) ∧ Below w.heap.size w w' := by
  obtain ⟨Q1, hQ1⟩ : ∃ P, P = pc s (.slice LP n cL) (.slice RP q cR) := ⟨_, rfl⟩
  have a28 : Hid (Q1[28]? = some (.slice LP n cL) ∧ Q1[29]? = some (.slice RP q cR) ∧ Q1.length = 38) := hidden (by rw [hQ1]; exact ⟨rfl, rfl, rfl⟩)
  obtain ⟨X, hX⟩ : ∃ X : List UInt8, X = [] := ⟨_, rfl⟩
  have X0 := hidden hX
  have XB : Hid (X.length ≤ 1000) := hidden (by rw [hX]; simp)
  have BYT : Hid (∀ x, Below w.heap.size w x → Calls Tryz.prog 4 #[.agg Q1.toArray] x fun e w' => ∃ v, e = .returned v ∧ Below x.heap.size x w') := hidden (fun x h => by rw [hQ1]; exact (bytes_wide s l r LP RP (min n q) n q cL cR x (by omega) (by omega) (by omega) (by omega) os (fun k hk => ol k (by omega)) (fun k hk => or k (by omega)) (hL.keep h) (hR.keep h)).mono fun e w' ⟨G, c, h1, _, h3⟩ => ⟨_, h1, h3⟩)
  have ENZ : Hid (∀ x, Below w.heap.size w x → Calls Tryz.prog 5 #[.agg z125.toArray] x fun e w' => ∃ G c : Nat, e = .returned (.slice (some ⟨G, 0, none⟩) 288 c) ∧ w'.ownsRow x.heap.size 5 1 (.slice (some ⟨G, 0, none⟩) 0 c) 0 [] ∧ Below x.heap.size x w') := hidden (fun x h => (encodeZ x (hH.keep h)).mono fun e w' ⟨G, c, h1, ⟨xs, h2⟩, h3⟩ => ⟨G, c, h1, own_front (n := 0) (xs := []) (ys := xs) h2 rfl (by omega), h3⟩)
  have ENC : Hid (∀ x P1 c1 P2 c2, Below w.heap.size w x → Lm x P1 n l → Lm x P2 q r → (∀ a, P1 = some a → a.block < x.heap.size) → (∀ a, P2 = some a → a.block < x.heap.size) → Calls Tryz.prog 6 #[.agg (pc s (.slice P1 n c1) (.slice P2 q c2)).toArray] x fun e w' => ∃ V, e = .returned (.tuple #[V, .int .i64 2]) ∧ w'.ownsRow x.heap.size 5 1 V X.length (Tr.cb X) ∧ Below x.heap.size x w') := hidden (fun x P1 c1 P2 c2 h k1 k2 b1 b2 => (enc_no s P1 P2 n q c1 c2 x (.inl hne)).mono fun e w' ⟨h1, h2⟩ => ⟨_, h1, by rw [hX]; exact World.ownsRow_nil _ _ _ _, h2⟩)
  have DX : ∀ k, ¬ DOk X k := fun k h => by have := h.2.1; rw [hX] at this; simp at this; omega
  have DEC : Hid (∀ x P c, Below w.heap.size w x → Tr.By x P c X → Calls Tryz.prog 8 #[.slice P X.length c] x fun e w' => ∃ (s f1 f2 : Nat → E4) (V1 V2 : Value) (er : Int), e = .returned (.tuple #[.agg (pc s V1 V2).toArray, .int .i64 er]) ∧ Below x.heap.size x w' ∧ w'.ownsRow x.heap.size 52 4 V1 0 (svs 0 f1) ∧ w'.ownsRow x.heap.size 52 4 V2 0 (svs 0 f2) ∧ Dj V1 V2 ∧ er ≠ 0) := hidden (fun x P c h hy => (dec_own P c X x (hT.keep h) hy (by have := XB.out; omega)).mono fun e w' ⟨s, f1, f2, V1, V2, n1, er, h1, h2, h3, h4, h5, h6, h7⟩ => by
    rcases h7 with ⟨_, h9⟩ | ⟨h8, h9, _⟩
    · exact absurd h9 (DX n1)
    · subst h9
      exact ⟨s, f1, f2, V1, V2, er, h1, h2, h3, h4, h5, h8⟩)
  have LIN : Hid (∀ x, Below w.heap.size w x → Calls Tryz.prog 7 #[.agg Q1.toArray] x fun e w' => ∃ P1 c1 P2 c2, e = .returned (.agg (pc s (.slice P1 n c1) (.slice P2 q c2)).toArray) ∧ Lm w' P1 n l ∧ Lm w' P2 q r ∧ (∀ a, P1 = some a → a.block < w'.heap.size) ∧ (∀ a, P2 = some a → a.block < w'.heap.size) ∧ Below x.heap.size x w') := hidden (fun x h => by rw [hQ1]; exact (line_any s l r LP RP n q cL cR x (by omega) (by omega) (hL.keep h) (hR.keep h)).mono fun e w' ⟨P1, c1, P2, c2, h1, h2, h3, h4⟩ => ⟨P1, c1, P2, c2, h1, (own_lm h2).1, (own_lm h3).1, (own_lm h2).2, (own_lm h3).2, h4⟩)
  have HBY := hidden (fun x (h : Below w.heap.size w x) => hb.keep h)
  have LB := hidden lb
  have HEX : Hid (∀ x, Below w.heap.size w x → Calls Tryz.prog 10 #[.slice BP bs.length cB] x fun e w' => e = .returned (.string (Tr.sb (Tr.hx bs))) ∧ Below x.heap.size x w') := hidden (fun x h => Tr.hex_any BP cB bs x (hb.keep h) (by omega))
  have UNH : Hid (∀ x, Calls Tryz.prog 9 #[.string (Tr.sb (Tr.hx bs))] x fun e w' => ∃ (v : Value) (k : Nat), e = .returned (.tuple #[v, .int .i64 (k : Int)]) ∧ w'.ownsRow x.heap.size 5 1 v bs.length (Tr.cb bs) ∧ Below x.heap.size x w') := hidden (fun x => (Tr.unhex_any (Tr.hx bs) x (by rw [hx_len]; omega)).mono fun e w' ⟨v, k, h1, h2, h3⟩ => ⟨v, k, h1, by unfold Tr.UhR at h2; rw [Tr.uh_hx] at h2; exact h2.2, h3⟩)
  obtain ⟨NB, hNB⟩ : ∃ l, bs ++ Tr.vn nn = l := ⟨_, rfl⟩
  have ANM : Hid (∀ x, Below w.heap.size w x → Calls Tryz.prog 11 #[.slice BP bs.length cB, .int .u64 (nn : Int)] x fun e w' => ∃ v, e = .returned v ∧ w'.ownsRow x.heap.size 5 1 v NB.length (Tr.cb NB) ∧ Below x.heap.size x w') := hidden (fun x h => by rw [← hNB]; exact Tr.appNum_any BP cB bs nn x (hb.keep h) (by omega) hnn)
  have NBL : Hid (NB.length ≤ 1048600) := hidden (by rw [← hNB, List.length_append]; have := (Tr.vn_len nn).2; omega)
  obtain ⟨FB, hFB⟩ : ∃ l, [] ++ (Tr.vn bs.length ++ bs) = l := ⟨_, rfl⟩
  have ABY : Hid (∀ x, Below w.heap.size w x → Calls Tryz.prog 12 #[.slice none 0 0, .slice BP bs.length cB] x fun e w' => ∃ v, e = .returned v ∧ w'.ownsRow x.heap.size 5 1 v FB.length (Tr.cb FB) ∧ Below x.heap.size x w') := hidden (fun x h => by rw [← hFB]; exact Tr.appBytes_any none BP 0 cB [] bs x (Tr.by_none x) (hb.keep h) (by simp only [List.length_nil]; omega))
  have FBL : Hid (FB.length ≤ 1048600 ∧ 0 < FB.length) := hidden (by rw [← hFB, List.nil_append, List.length_append]; have := Tr.vn_len bs.length; omega)
  have NRD : Hid (∀ x P c, Tr.By x P c FB → Calls Tryz.prog 13 #[.slice P FB.length c] x fun r w' => ∃ g q : Nat, r = .returned (.pointer (some ⟨g, 0, none⟩)) ∧ Rb w' g q FB 0 ∧ x.heap.size ≤ g ∧ x.heap.size ≤ q ∧ q < w'.heap.size ∧ Below x.heap.size x w') := hidden (fun x P c h => (Tr.newReader_b h (by have := FBL.out; omega)).mono fun e w' ⟨g, Q, d, h1, h2, h3, h4, h5⟩ => by
    obtain ⟨q, k1, k2, k3⟩ := reader_rb (x := x) h2 FBL.out.2 h5
    exact ⟨g, q, h1, k1, h3, k2, k3, h4⟩)
  obtain ⟨NL, hNL⟩ : ∃ k, ln FB bs.length = k := ⟨_, rfl⟩
  obtain ⟨fl, hfl⟩ : ∃ f, lf (FB.drop (Tr.ct FB bs.length).2.1) = f := ⟨_, rfl⟩
  have NLB : Hid (NL ≤ 1048576) := hidden (by rw [← hNL]; exact Nat.le_trans (ln_le _ _) lb)
  have LST : Hid (∀ x g q, Rb x g q FB 0 → q < x.heap.size → Calls Tryz.prog 17 #[.pointer (some ⟨g, 0, none⟩), .int .i64 (bs.length : Int), .func (.func 14) #[] #[]] x fun e w' => ∃ V, e = .returned V ∧ w'.ownsRow x.heap.size 52 4 V NL (svs NL fl) ∧ Tr.Kp g x w') := hidden (fun x g q h hq => by rw [← hNL, ← hfl]; exact list_any FB bs.length x g q h hq (by have := FBL.out; omega) lb)
  have UW : Hid (Tryz.prog.underlying 28 = _) := hidden Tryz.underlying28
  have UP : Hid (Tryz.prog.underlying 55 = _) := hidden Tryz.underlying55
  have I1 : Hid ((Tryz.prog.info? 28).map (·.size) = some Q1.length) := hidden (by rw [a28.out.2.2]; exact wpinfoO)
  have nne : ((n : Int) != (q : Int)) = true := by simp; omega
  rw [← hQ1]
  have S1 : Hid (Sw w [(w.heap.size, Q1)] [] [] (w.alloc (.cells Q1.toArray 28))) := hidden ⟨(Mw.start w).new Q1 28, fun r hr => (by cases hr), List.Pairwise.nil, fun r hr => (by cases hr), List.Pairwise.nil⟩
  have NBD : Hid (n ≤ 1048576) := hidden hn
  clear hQ1 hT hH hn hq hne os ol or hL hR hb lb hnn hX DX hNB hFB hNL hfl
  go_enter Tryz.func3, Tryz.ntmps3
  go_upto_region 1 with fail
  generalize w.alloc (.cells Q1.toArray 28) = w1 at *
  obtain ⟨T3, hT3⟩ : ∃ T, w.heap.size = T := ⟨_, rfl⟩
  rw [hT3] at S1 ⊢
  have ET := hidden hT3
  clear hT3
  go_upto_region 2 with (first | refine wpList_load_mid rfl 28 _ rfl T3 0 (by rfl) Q1 _ (S1.out.m.r (T3, Q1) (by simp)).1 UW.out rfl I1.out ?_ | (go_at_call 4; refine (BYT.out _ S1.out.m.bel).mono ?_; rintro e w2 ⟨vW, rfl, hb⟩; have S2 := hidden (S1.out.keep hb); clear hb BYT S1))
  have x28 := (S2.out.m.r (T3, Q1) (by simp)).1 28 _ a28.out.1
  have x29 := (S2.out.m.r (T3, Q1) (by simp)).1 29 _ a28.out.2.1
  simp only [Nat.zero_add] at x28 x29
  go_upto_region 4 with (first | refine wpList_build125 rfl rfl ?_ | (go_at_call 5; refine (ENZ.out _ S2.out.m.bel).mono ?_; rintro e w3 ⟨GW, cW, rfl, ho, hb⟩; have S3 : Hid (Sw w [(T3, Q1)] [(.slice (some ⟨GW, 0, none⟩) 0 cW, 0, [])] [] w3) := hidden (S2.out.addB hb ho); clear ho hb ENZ S2 x28 x29))
  go_upto_region 5 with fail
  replace S2 := S3
  go_upto_region 6 with (first | refine wpList_load_mid rfl 28 _ rfl T3 0 (by rfl) Q1 _ (S2.out.m.r (T3, Q1) (by simp)).1 UW.out rfl I1.out ?_ | (go_at_call 7; refine (LIN.out _ S2.out.m.bel).mono ?_; rintro e wap ⟨L1, d1, L2, d2, rfl, k1, k2, b1, b2, hb⟩; have SA := hidden (S2.out.keep hb); have EC := hidden (ENC.out wap L1 d1 L2 d2 SA.out.m.bel k1 k2 b1 b2); clear k1 k2 b1 b2 hb S2) | (go_at_call 6; refine EC.out.mono ?_; rintro e wp ⟨V, rfl, ho, hb⟩; obtain ⟨Pp, cp, rfl⟩ := own_sh ho; have Sp : Hid (Sw w [(T3, Q1)] [(.slice (some ⟨GW, 0, none⟩) 0 cW, 0, []), (.slice Pp X.length cp, X.length, Tr.cb X)] [] wp) := hidden (SA.out.addB hb ho); clear ho hb EC SA))
  go_upto_region 7 with (first | refine wpList_load_mid rfl 28 _ rfl T3 0 (by rfl) Q1 _ (Sp.out.m.r (T3, Q1) (by simp)).1 UW.out rfl I1.out ?_ | (go_at_call 7; refine (LIN.out _ Sp.out.m.bel).mono ?_; rintro e waq ⟨L1, d1, L2, d2, rfl, k1, k2, b1, b2, hb⟩; have SA := hidden (Sp.out.keep hb); have EC := hidden (ENC.out waq L1 d1 L2 d2 SA.out.m.bel k1 k2 b1 b2); clear k1 k2 b1 b2 hb Sp) | (go_at_call 6; refine EC.out.mono ?_; rintro e wq ⟨V, rfl, ho, hb⟩; obtain ⟨Pq, cq, rfl⟩ := own_sh ho; have Sq : Hid (Sw w [(T3, Q1)] [(.slice (some ⟨GW, 0, none⟩) 0 cW, 0, []), (.slice Pp X.length cp, X.length, Tr.cb X), (.slice Pq X.length cq, X.length, Tr.cb X)] [] wq) := hidden (SA.out.addB hb ho); clear ho hb EC SA))
  clear LIN ENC
  have DCx := hidden (DEC.out _ Pp cp Sq.out.m.bel (own_by (Sq.out.b (.slice Pp X.length cp, X.length, Tr.cb X) (by simp))))
  go_upto_region 8 with (first | (go_at_call 8; refine DCx.out.mono ?_; rintro e wax ⟨sx, f1, f2, V1, V2, erx, rfl, hb, ho1, ho2, hdj, her⟩; obtain ⟨P1, c1, rfl⟩ := own_sh ho1; obtain ⟨P2, c2, rfl⟩ := own_sh ho2; have SA : Hid (Sw w [(T3, Q1)] [(.slice (some ⟨GW, 0, none⟩) 0 cW, 0, []), (.slice Pp X.length cp, X.length, Tr.cb X), (.slice Pq X.length cq, X.length, Tr.cb X)] [(.slice P1 0 c1, 0, svs 0 f1), (.slice P2 0 c2, 0, svs 0 f2)] wax) := hidden (Sq.out.addL2 hb ho1 ho2 hdj); have ERx := hidden her; obtain ⟨Qx, hQ⟩ : ∃ P, pc sx (.slice P1 0 c1) (.slice P2 0 c2) = P := ⟨_, rfl⟩; have bbx : Hid (Qx[28]? = some (.slice P1 0 c1) ∧ Qx[29]? = some (.slice P2 0 c2) ∧ Qx.length = 38) := hidden (by rw [← hQ]; exact ⟨rfl, rfl, rfl⟩); have OQ : Hid (Qx.toArray.all (·.oneCell') = true) := hidden (by rw [← hQ]; exact pc_one _ _ _ _ _ _ _); rw [hQ]; have BX := hidden (SA.out.box (z := pcv zero4 zero4 zero4 zero4 zero4 zero4 zero4 zero4 zero4 (.slice none 0 0) (.slice none 0 0)) (cs := Qx) (t := 55) (by rw [bbx.out.2.2]; rfl)); have IQ : Hid ((Tryz.prog.info? 55).map (·.size) = some Qx.toArray.size) := hidden (by rw [List.size_toArray, bbx.out.2.2]; exact pinfo); clear hQ ho1 ho2 hdj her hb DCx Sq) | refine wpList_allocP rfl rfl ?_ | refine wpList_store_mid rfl 55 _ _ rfl wax.heap.size 0 Qx.toArray (by rfl) (by rfl) BX.out.2 IQ.out OQ.out ?_)
  have SB : Hid (Sw w ((wax.heap.size, Qx) :: [(T3, Q1)]) [(.slice (some ⟨GW, 0, none⟩) 0 cW, 0, []), (.slice Pp X.length cp, X.length, Tr.cb X), (.slice Pq X.length cq, X.length, Tr.cb X)] [(.slice P1 0 c1, 0, svs 0 f1), (.slice P2 0 c2, 0, svs 0 f2)] ((wax.alloc (.cells (pcv zero4 zero4 zero4 zero4 zero4 zero4 zero4 zero4 zero4 (.slice none 0 0) (.slice none 0 0)).toArray 55)).setCells wax.heap.size 0 Qx)) := hidden BX.out.1
  generalize (wax.alloc (.cells (pcv zero4 zero4 zero4 zero4 zero4 zero4 zero4 zero4 zero4 (.slice none 0 0) (.slice none 0 0)).toArray 55)).setCells wax.heap.size 0 Qx = wx at *
  generalize wax.heap.size = Tx at *
  have Sx : Hid (Sw w [(Tx, Qx), (T3, Q1)] [(.slice (some ⟨GW, 0, none⟩) 0 cW, 0, []), (.slice Pp X.length cp, X.length, Tr.cb X), (.slice Pq X.length cq, X.length, Tr.cb X)] [(.slice P1 0 c1, 0, svs 0 f1), (.slice P2 0 c2, 0, svs 0 f2)] wx) := SB
  clear SB SA BX IQ OQ
  have DCy := hidden (DEC.out _ Pp cp Sx.out.m.bel (own_by (Sx.out.b (.slice Pp X.length cp, X.length, Tr.cb X) (by simp))))
  go_upto_region 9 with (first | (go_at_call 8; refine DCy.out.mono ?_; rintro e way ⟨sy, f3, f4, V1, V2, ery, rfl, hb, ho1, ho2, hdj, her⟩; obtain ⟨P3, c3, rfl⟩ := own_sh ho1; obtain ⟨P4, c4, rfl⟩ := own_sh ho2; have SA : Hid (Sw w [(Tx, Qx), (T3, Q1)] [(.slice (some ⟨GW, 0, none⟩) 0 cW, 0, []), (.slice Pp X.length cp, X.length, Tr.cb X), (.slice Pq X.length cq, X.length, Tr.cb X)] [(.slice P1 0 c1, 0, svs 0 f1), (.slice P2 0 c2, 0, svs 0 f2), (.slice P3 0 c3, 0, svs 0 f3), (.slice P4 0 c4, 0, svs 0 f4)] way) := hidden (Sx.out.addL2 hb ho1 ho2 hdj); have ERy := hidden her; obtain ⟨Qy, hQ⟩ : ∃ P, pc sy (.slice P3 0 c3) (.slice P4 0 c4) = P := ⟨_, rfl⟩; have bby : Hid (Qy[28]? = some (.slice P3 0 c3) ∧ Qy[29]? = some (.slice P4 0 c4) ∧ Qy.length = 38) := hidden (by rw [← hQ]; exact ⟨rfl, rfl, rfl⟩); have OQ : Hid (Qy.toArray.all (·.oneCell') = true) := hidden (by rw [← hQ]; exact pc_one _ _ _ _ _ _ _); rw [hQ]; have BX := hidden (SA.out.box (z := pcv zero4 zero4 zero4 zero4 zero4 zero4 zero4 zero4 zero4 (.slice none 0 0) (.slice none 0 0)) (cs := Qy) (t := 55) (by rw [bby.out.2.2]; rfl)); have IQ : Hid ((Tryz.prog.info? 55).map (·.size) = some Qy.toArray.size) := hidden (by rw [List.size_toArray, bby.out.2.2]; exact pinfo); clear hQ ho1 ho2 hdj her hb DCy Sx) | refine wpList_allocP rfl rfl ?_ | refine wpList_store_mid rfl 55 _ _ rfl way.heap.size 0 Qy.toArray (by rfl) (by rfl) BX.out.2 IQ.out OQ.out ?_)
  have SB : Hid (Sw w ((way.heap.size, Qy) :: [(Tx, Qx), (T3, Q1)]) [(.slice (some ⟨GW, 0, none⟩) 0 cW, 0, []), (.slice Pp X.length cp, X.length, Tr.cb X), (.slice Pq X.length cq, X.length, Tr.cb X)] [(.slice P1 0 c1, 0, svs 0 f1), (.slice P2 0 c2, 0, svs 0 f2), (.slice P3 0 c3, 0, svs 0 f3), (.slice P4 0 c4, 0, svs 0 f4)] ((way.alloc (.cells (pcv zero4 zero4 zero4 zero4 zero4 zero4 zero4 zero4 zero4 (.slice none 0 0) (.slice none 0 0)).toArray 55)).setCells way.heap.size 0 Qy)) := hidden BX.out.1
  generalize (way.alloc (.cells (pcv zero4 zero4 zero4 zero4 zero4 zero4 zero4 zero4 zero4 (.slice none 0 0) (.slice none 0 0)).toArray 55)).setCells way.heap.size 0 Qy = wy at *
  generalize way.heap.size = Ty at *
  have Sy : Hid (Sw w [(Ty, Qy), (Tx, Qx), (T3, Q1)] [(.slice (some ⟨GW, 0, none⟩) 0 cW, 0, []), (.slice Pp X.length cp, X.length, Tr.cb X), (.slice Pq X.length cq, X.length, Tr.cb X)] [(.slice P1 0 c1, 0, svs 0 f1), (.slice P2 0 c2, 0, svs 0 f2), (.slice P3 0 c3, 0, svs 0 f3), (.slice P4 0 c4, 0, svs 0 f4)] wy) := SB
  clear SB SA BX IQ OQ
  clear DEC
  go_upto_region 10 with (first | (go_at_call 10; refine (HEX.out _ Sy.out.m.bel).mono ?_; rintro e wah ⟨rfl, hb⟩; have SA := hidden (Sy.out.keep hb); clear hb Sy) | (go_at_call 9; refine (UNH.out _).mono ?_; rintro e wh ⟨V, kkh, rfl, ho, hb⟩; obtain ⟨Ph, ch, rfl⟩ := own_sh ho; have Sh : Hid (Sw w [(Ty, Qy), (Tx, Qx), (T3, Q1)] [(.slice (some ⟨GW, 0, none⟩) 0 cW, 0, []), (.slice Pp X.length cp, X.length, Tr.cb X), (.slice Pq X.length cq, X.length, Tr.cb X), (.slice Ph bs.length ch, bs.length, Tr.cb bs)] [(.slice P1 0 c1, 0, svs 0 f1), (.slice P2 0 c2, 0, svs 0 f2), (.slice P3 0 c3, 0, svs 0 f3), (.slice P4 0 c4, 0, svs 0 f4)] wh) := hidden (SA.out.addB hb ho); clear ho hb SA))
  go_upto_region 11 with (first | (go_at_call 10; refine (HEX.out _ Sh.out.m.bel).mono ?_; rintro e wai ⟨rfl, hb⟩; have SA := hidden (Sh.out.keep hb); clear hb Sh) | (go_at_call 9; refine (UNH.out _).mono ?_; rintro e wi ⟨V, kki, rfl, ho, hb⟩; obtain ⟨Pi, ci, rfl⟩ := own_sh ho; have Si : Hid (Sw w [(Ty, Qy), (Tx, Qx), (T3, Q1)] [(.slice (some ⟨GW, 0, none⟩) 0 cW, 0, []), (.slice Pp X.length cp, X.length, Tr.cb X), (.slice Pq X.length cq, X.length, Tr.cb X), (.slice Ph bs.length ch, bs.length, Tr.cb bs), (.slice Pi bs.length ci, bs.length, Tr.cb bs)] [(.slice P1 0 c1, 0, svs 0 f1), (.slice P2 0 c2, 0, svs 0 f2), (.slice P3 0 c3, 0, svs 0 f3), (.slice P4 0 c4, 0, svs 0 f4)] wi) := hidden (SA.out.addB hb ho); clear ho hb SA))
  clear HEX UNH
  go_upto_region 12 with (first | (go_at_call 11; refine (ANM.out _ Si.out.m.bel).mono ?_; rintro e wc ⟨V, rfl, ho, hb⟩; obtain ⟨Pc, cc, rfl⟩ := own_sh ho; have Sc : Hid (Sw w [(Ty, Qy), (Tx, Qx), (T3, Q1)] [(.slice (some ⟨GW, 0, none⟩) 0 cW, 0, []), (.slice Pp X.length cp, X.length, Tr.cb X), (.slice Pq X.length cq, X.length, Tr.cb X), (.slice Ph bs.length ch, bs.length, Tr.cb bs), (.slice Pi bs.length ci, bs.length, Tr.cb bs), (.slice Pc NB.length cc, NB.length, Tr.cb NB)] [(.slice P1 0 c1, 0, svs 0 f1), (.slice P2 0 c2, 0, svs 0 f2), (.slice P3 0 c3, 0, svs 0 f3), (.slice P4 0 c4, 0, svs 0 f4)] wc) := hidden (Si.out.addB hb ho); clear ho hb Si) | (go_at_call 11; refine (ANM.out _ Sc.out.m.bel).mono ?_; rintro e wd ⟨V, rfl, ho, hb⟩; obtain ⟨Pd, cd, rfl⟩ := own_sh ho; have Sd : Hid (Sw w [(Ty, Qy), (Tx, Qx), (T3, Q1)] [(.slice (some ⟨GW, 0, none⟩) 0 cW, 0, []), (.slice Pp X.length cp, X.length, Tr.cb X), (.slice Pq X.length cq, X.length, Tr.cb X), (.slice Ph bs.length ch, bs.length, Tr.cb bs), (.slice Pi bs.length ci, bs.length, Tr.cb bs), (.slice Pc NB.length cc, NB.length, Tr.cb NB), (.slice Pd NB.length cd, NB.length, Tr.cb NB)] [(.slice P1 0 c1, 0, svs 0 f1), (.slice P2 0 c2, 0, svs 0 f2), (.slice P3 0 c3, 0, svs 0 f3), (.slice P4 0 c4, 0, svs 0 f4)] wd) := hidden (Sc.out.addB hb ho); clear ho hb Sc))
  go_upto_region 13 with (first | (go_at_call 12; refine (ABY.out _ Sd.out.m.bel).mono ?_; rintro e ws ⟨V, rfl, ho, hb⟩; obtain ⟨Ps, cs, rfl⟩ := own_sh ho; have Ss : Hid (Sw w [(Ty, Qy), (Tx, Qx), (T3, Q1)] [(.slice (some ⟨GW, 0, none⟩) 0 cW, 0, []), (.slice Pp X.length cp, X.length, Tr.cb X), (.slice Pq X.length cq, X.length, Tr.cb X), (.slice Ph bs.length ch, bs.length, Tr.cb bs), (.slice Pi bs.length ci, bs.length, Tr.cb bs), (.slice Pc NB.length cc, NB.length, Tr.cb NB), (.slice Pd NB.length cd, NB.length, Tr.cb NB), (.slice Ps FB.length cs, FB.length, Tr.cb FB)] [(.slice P1 0 c1, 0, svs 0 f1), (.slice P2 0 c2, 0, svs 0 f2), (.slice P3 0 c3, 0, svs 0 f3), (.slice P4 0 c4, 0, svs 0 f4)] ws) := hidden (Sd.out.addB hb ho); clear ho hb Sd) | (go_at_call 12; refine (ABY.out _ Ss.out.m.bel).mono ?_; rintro e wt ⟨V, rfl, ho, hb⟩; obtain ⟨Pt, ct, rfl⟩ := own_sh ho; have St : Hid (Sw w [(Ty, Qy), (Tx, Qx), (T3, Q1)] [(.slice (some ⟨GW, 0, none⟩) 0 cW, 0, []), (.slice Pp X.length cp, X.length, Tr.cb X), (.slice Pq X.length cq, X.length, Tr.cb X), (.slice Ph bs.length ch, bs.length, Tr.cb bs), (.slice Pi bs.length ci, bs.length, Tr.cb bs), (.slice Pc NB.length cc, NB.length, Tr.cb NB), (.slice Pd NB.length cd, NB.length, Tr.cb NB), (.slice Ps FB.length cs, FB.length, Tr.cb FB), (.slice Pt FB.length ct, FB.length, Tr.cb FB)] [(.slice P1 0 c1, 0, svs 0 f1), (.slice P2 0 c2, 0, svs 0 f2), (.slice P3 0 c3, 0, svs 0 f3), (.slice P4 0 c4, 0, svs 0 f4)] wt) := hidden (Ss.out.addB hb ho); clear ho hb Ss))
  clear ANM ABY
  have BS := hidden (fun x (h : Sw w [(Ty, Qy), (Tx, Qx), (T3, Q1)] [(.slice (some ⟨GW, 0, none⟩) 0 cW, 0, []), (.slice Pp X.length cp, X.length, Tr.cb X), (.slice Pq X.length cq, X.length, Tr.cb X), (.slice Ph bs.length ch, bs.length, Tr.cb bs), (.slice Pi bs.length ci, bs.length, Tr.cb bs), (.slice Pc NB.length cc, NB.length, Tr.cb NB), (.slice Pd NB.length cd, NB.length, Tr.cb NB), (.slice Ps FB.length cs, FB.length, Tr.cb FB), (.slice Pt FB.length ct, FB.length, Tr.cb FB)] [(.slice P1 0 c1, 0, svs 0 f1), (.slice P2 0 c2, 0, svs 0 f2), (.slice P3 0 c3, 0, svs 0 f3), (.slice P4 0 c4, 0, svs 0 f4)] x) => own_by (h.b (.slice Ps FB.length cs, FB.length, Tr.cb FB) (by simp)))
  have MSZ := hidden (fun x (h : Sw w [(Ty, Qy), (Tx, Qx), (T3, Q1)] [(.slice (some ⟨GW, 0, none⟩) 0 cW, 0, []), (.slice Pp X.length cp, X.length, Tr.cb X), (.slice Pq X.length cq, X.length, Tr.cb X), (.slice Ph bs.length ch, bs.length, Tr.cb bs), (.slice Pi bs.length ci, bs.length, Tr.cb bs), (.slice Pc NB.length cc, NB.length, Tr.cb NB), (.slice Pd NB.length cd, NB.length, Tr.cb NB), (.slice Ps FB.length cs, FB.length, Tr.cb FB), (.slice Pt FB.length ct, FB.length, Tr.cb FB)] [(.slice P1 0 c1, 0, svs 0 f1), (.slice P2 0 c2, 0, svs 0 f2), (.slice P3 0 c3, 0, svs 0 f3), (.slice P4 0 c4, 0, svs 0 f4)] x) (g : Nat) (hg : x.heap.size ≤ g) => (show ∀ p ∈ [(Ty, Qy), (Tx, Qx), (T3, Q1)], p.1 ≠ g from fun p hp => Nat.ne_of_lt (Nat.lt_of_lt_of_le (h.m.r p hp).2.2.2 hg)))
  go_upto_region 15 with (first | (go_at_call 13; refine (NRD.out _ Ps cs (BS.out _ St.out)).mono ?_; rintro e wu ⟨g1, q1, rfl, hr, h1, h2, h3, hb⟩; have Su := hidden (St.out.keep hb); have R1 := hidden hr; have G1 : Hid (w.heap.size ≤ g1 ∧ q1 < wu.heap.size ∧ g1 < wu.heap.size) := hidden ⟨Nat.le_trans St.out.m.bel.size h1, h3, hr.glt⟩; have MG1 := hidden (MSZ.out _ St.out g1 h1); clear hr h1 h2 h3 hb St) | (go_at_call 13; refine (NRD.out _ Ps cs (BS.out _ Su.out)).mono ?_; rintro e wv ⟨g2, q2, rfl, hr, h1, h2, h3, hb⟩; have Sv := hidden (Su.out.keep hb); replace R1 := hidden (R1.out.keep hb); have R2 := hidden hr; have G2 : Hid (w.heap.size ≤ g2 ∧ q2 < wv.heap.size ∧ g2 ≠ g1 ∧ q2 ≠ g1 ∧ q1 < wv.heap.size) := hidden (by (have a1 := G1.out; have a2 := hb.size; have a3 := Su.out.m.bel.size; omega)); have MG2 := hidden (MSZ.out _ Su.out g2 h1); clear hr h1 h2 h3 hb Su))
  clear NRD BS MSZ
  go_upto_region 16 with (first | (go_at_call 17; refine (LST.out _ g1 q1 R1.out G2.out.2.2.2.2).mono ?_; rintro e wk ⟨V, rfl, ho, hk⟩; obtain ⟨Pk, ck, rfl⟩ := own_sh ho; have Sk : Hid (Sw w [(Ty, Qy), (Tx, Qx), (T3, Q1)] [(.slice (some ⟨GW, 0, none⟩) 0 cW, 0, []), (.slice Pp X.length cp, X.length, Tr.cb X), (.slice Pq X.length cq, X.length, Tr.cb X), (.slice Ph bs.length ch, bs.length, Tr.cb bs), (.slice Pi bs.length ci, bs.length, Tr.cb bs), (.slice Pc NB.length cc, NB.length, Tr.cb NB), (.slice Pd NB.length cd, NB.length, Tr.cb NB), (.slice Ps FB.length cs, FB.length, Tr.cb FB), (.slice Pt FB.length ct, FB.length, Tr.cb FB)] [(.slice P1 0 c1, 0, svs 0 f1), (.slice P2 0 c2, 0, svs 0 f2), (.slice P3 0 c3, 0, svs 0 f3), (.slice P4 0 c4, 0, svs 0 f4), (.slice Pk NL ck, NL, svs NL fl)] wk) := hidden (Sv.out.kpL R1.out hk G1.out.1 MG1.out ho); have R3 := hidden (R2.out.kp hk G2.out.2.2.1 G2.out.2.2.2.1); have G3 : Hid (q2 < wk.heap.size) := hidden (Nat.lt_of_lt_of_le G2.out.2.1 hk.size); clear ho hk R1 R2 Sv) | (go_at_call 17; refine (LST.out _ g2 q2 R3.out G3.out).mono ?_; rintro e wl ⟨V, rfl, ho, hk⟩; obtain ⟨Pl, cl, rfl⟩ := own_sh ho; have Sl : Hid (Sw w [(Ty, Qy), (Tx, Qx), (T3, Q1)] [(.slice (some ⟨GW, 0, none⟩) 0 cW, 0, []), (.slice Pp X.length cp, X.length, Tr.cb X), (.slice Pq X.length cq, X.length, Tr.cb X), (.slice Ph bs.length ch, bs.length, Tr.cb bs), (.slice Pi bs.length ci, bs.length, Tr.cb bs), (.slice Pc NB.length cc, NB.length, Tr.cb NB), (.slice Pd NB.length cd, NB.length, Tr.cb NB), (.slice Ps FB.length cs, FB.length, Tr.cb FB), (.slice Pt FB.length ct, FB.length, Tr.cb FB)] [(.slice P1 0 c1, 0, svs 0 f1), (.slice P2 0 c2, 0, svs 0 f2), (.slice P3 0 c3, 0, svs 0 f3), (.slice P4 0 c4, 0, svs 0 f4), (.slice Pk NL ck, NL, svs NL fl), (.slice Pl NL cl, NL, svs NL fl)] wl) := hidden (Sk.out.kpL R3.out hk G2.out.1 MG2.out ho); clear ho hk R3 Sk))
  clear LST G1 G2 G3 MG1 MG2
  have Z0 := hidden (same_zero X0.out (own_by (Sl.out.b (.slice Pp X.length cp, X.length, Tr.cb X) (by simp))) (own_by (bs := []) (Sl.out.b (.slice (some ⟨GW, 0, none⟩) 0 cW, 0, []) (by simp))))
  have Z1 := hidden (same_zero X0.out (own_by (Sl.out.b (.slice Pq X.length cq, X.length, Tr.cb X) (by simp))) (own_by (bs := []) (Sl.out.b (.slice (some ⟨GW, 0, none⟩) 0 cW, 0, []) (by simp))))
  have Z2 := hidden (same_yes (own_by (Sl.out.b (.slice Ph bs.length ch, bs.length, Tr.cb bs) (by simp))) (HBY.out _ Sl.out.m.bel))
  have Z3 := hidden (same_yes (own_by (Sl.out.b (.slice Pi bs.length ci, bs.length, Tr.cb bs) (by simp))) (HBY.out _ Sl.out.m.bel))
  have Z4 := hidden (same_yes (own_by (Sl.out.b (.slice Pc NB.length cc, NB.length, Tr.cb NB) (by simp))) (own_by (Sl.out.b (.slice Pd NB.length cd, NB.length, Tr.cb NB) (by simp))))
  have Z5 := hidden (same_yes (own_by (Sl.out.b (.slice Ps FB.length cs, FB.length, Tr.cb FB) (by simp))) (own_by (Sl.out.b (.slice Pt FB.length ct, FB.length, Tr.cb FB) (by simp))))
  go_upto_region 18 with (first | (go_at_call 18; refine Z0.out.mono ?_; rintro e wz ⟨rfl, rfl⟩; clear Z0) | (go_at_call 18; refine Z1.out.mono ?_; rintro e wz ⟨rfl, rfl⟩; clear Z1) | (go_at_call 18; refine Z2.out.mono ?_; rintro e wz ⟨rfl, rfl⟩; clear Z2) | (go_at_call 18; refine Z3.out.mono ?_; rintro e wz ⟨rfl, rfl⟩; clear Z3) | (go_at_call 18; refine Z4.out.mono ?_; rintro e wz ⟨rfl, rfl⟩; clear Z4) | (go_at_call 18; refine Z5.out.mono ?_; rintro e wz ⟨rfl, rfl⟩; clear Z5))
  go_upto_region 20 with fail
  go_wp2_with fail
  go_loopw [29] (fun kv w' => ∃ j : Nat, j ≤ NL ∧ kv = .int .i64 (j : Int) ∧ Hid (Sw w [(Ty, Qy), (Tx, Qx), (T3, Q1)] [(.slice (some ⟨GW, 0, none⟩) 0 cW, 0, []), (.slice Pp X.length cp, X.length, Tr.cb X), (.slice Pq X.length cq, X.length, Tr.cb X), (.slice Ph bs.length ch, bs.length, Tr.cb bs), (.slice Pi bs.length ci, bs.length, Tr.cb bs), (.slice Pc NB.length cc, NB.length, Tr.cb NB), (.slice Pd NB.length cd, NB.length, Tr.cb NB), (.slice Ps FB.length cs, FB.length, Tr.cb FB), (.slice Pt FB.length ct, FB.length, Tr.cb FB)] [(.slice P1 0 c1, 0, svs 0 f1), (.slice P2 0 c2, 0, svs 0 f2), (.slice P3 0 c3, 0, svs 0 f3), (.slice P4 0 c4, 0, svs 0 f4), (.slice Pk NL ck, NL, svs NL fl), (.slice Pl NL cl, NL, svs NL fl)] w')) (fun k _ => NL - (intOf k).toNat)
  case atStart => exact ⟨0, by omega, rfl, Sl⟩
  case round =>
    clear Sl
    obtain ⟨j, hj, rfl, Sl⟩ := hrel
    by_cases hjn : j < NL
    · have j0 : (0 : Int) ≤ (j : Int) := by omega
      have j1 : (j : Int) < (NL : Int) := by omega
      have w9 : IntKind.i64.wrap ((j : Int) + 1) = (j : Int) + 1 := IntWalk.i64_in _ (by have := NLB.out; omega)
      obtain ⟨⟨kb, ko, k1, k2⟩, _⟩ := own_lm (Sl.out.l (.slice Pk NL ck, NL, svs NL fl) (by simp))
      obtain ⟨⟨lb, lo, l1, l2⟩, _⟩ := own_lm (Sl.out.l (.slice Pl NL cl, NL, svs NL fl) (by simp))
      obtain rfl := k1 (by omega)
      obtain rfl := l1 (by omega)
      have rk := k2 (by omega)
      have rl := l2 (by omega)
      have ck0 := rk.c0 j hjn
      have cl0 := rl.c0 j hjn
      have ck1 := rk.c1 j hjn
      have cl1 := rl.c1 j hjn
      have ck2 := rk.c2 j hjn
      have cl2 := rl.c2 j hjn
      have ck3 := rk.c3 j hjn
      have cl3 := rl.c3 j hjn
      have qw := fun w => (eqL (fl j) (fl j) w).trans (by rw [E4.same_self] : _ = Result.ok true w)
      simp only [E4.v] at qw
      generalize fl j = z at *
      have NX := hidden (Sl.out.keep (Tr.drew_blW wr))
      clear Sl k1 k2 l1 l2 rk rl
      go_upto_region 23 with fail
      go_big_region
      go_wp2_with fail
      go_roundw
      case rel => exact ⟨j + 1, by omega, by go_num, NX⟩
      case measure => simp [intOf]; omega
    · obtain rfl : j = NL := by omega
      have lq : ¬ (j : Int) < (j : Int) := by omega
      have y1 := (Sl.out.m.r (Tx, Qx) (by simp)).1 28 _ bbx.out.1
      have y2 := (Sl.out.m.r (Tx, Qx) (by simp)).1 29 _ bbx.out.2.1
      have y3 := (Sl.out.m.r (Ty, Qy) (by simp)).1 28 _ bby.out.1
      have y4 := (Sl.out.m.r (Ty, Qy) (by simp)).1 29 _ bby.out.2.1
      simp only [Nat.zero_add] at y1 y2 y3 y4
      have SJ : Hid (Sw w [(Ty, Qy), (Tx, Qx), (T3, Q1)] [(.slice (some ⟨GW, 0, none⟩) 0 cW, 0, []), (.slice Pp X.length cp, X.length, Tr.cb X), (.slice Pq X.length cq, X.length, Tr.cb X), (.slice Ph bs.length ch, bs.length, Tr.cb bs), (.slice Pi bs.length ci, bs.length, Tr.cb bs), (.slice Pc NB.length cc, NB.length, Tr.cb NB), (.slice Pd NB.length cd, NB.length, Tr.cb NB), (.slice Ps FB.length cs, FB.length, Tr.cb FB), (.slice Pt FB.length ct, FB.length, Tr.cb FB)] [(.slice P1 0 c1, 0, svs 0 f1), (.slice P2 0 c2, 0, svs 0 f2), (.slice P3 0 c3, 0, svs 0 f3), (.slice P4 0 c4, 0, svs 0 f4), (.slice Pk j ck, j, svs j fl), (.slice Pl j cl, j, svs j fl)] wr) := Sl
      have LB6 : ∀ r ∈ [(.slice P1 0 c1, 0, svs 0 f1), (.slice P2 0 c2, 0, svs 0 f2), (.slice P3 0 c3, 0, svs 0 f3), (.slice P4 0 c4, 0, svs 0 f4), (.slice Pk j ck, j, svs j fl), (.slice Pl j cl, j, svs j fl)], (r : Value × Nat × List Value).2.1 ≤ 1099511627776 := by
        intro r hr
        simp only [List.mem_cons, List.not_mem_nil, or_false] at hr
        rcases hr with rfl | rfl | rfl | rfl | rfl | rfl
        · exact Nat.zero_le _
        · exact Nat.zero_le _
        · exact Nat.zero_le _
        · exact Nat.zero_le _
        · exact Nat.le_trans NLB.out (by decide)
        · exact Nat.le_trans NLB.out (by decide)
      have LON0 := lone_rows SJ.out LB6 (by simp)
      simp only [List.length_cons, List.length_nil, List.map_cons, List.map_nil, Nat.reduceAdd] at LON0
      have LON := hidden LON0
      clear LON0 LB6
      have BD : Hid (List.Pairwise (fun (a b : Value × Nat × List Value) => Dj a.1 b.1) [(.slice Pp X.length cp, X.length, Tr.cb X), (.slice Pq X.length cq, X.length, Tr.cb X), (.slice Ph bs.length ch, bs.length, Tr.cb bs), (.slice Pi bs.length ci, bs.length, Tr.cb bs), (.slice Pc NB.length cc, NB.length, Tr.cb NB), (.slice Pd NB.length cd, NB.length, Tr.cb NB), (.slice Ps FB.length cs, FB.length, Tr.cb FB), (.slice Pt FB.length ct, FB.length, Tr.cb FB)]) := hidden (List.pairwise_cons.1 SJ.out.bd).2
      have BB8 : ∀ r ∈ [(.slice Pp X.length cp, X.length, Tr.cb X), (.slice Pq X.length cq, X.length, Tr.cb X), (.slice Ph bs.length ch, bs.length, Tr.cb bs), (.slice Pi bs.length ci, bs.length, Tr.cb bs), (.slice Pc NB.length cc, NB.length, Tr.cb NB), (.slice Pd NB.length cd, NB.length, Tr.cb NB), (.slice Ps FB.length cs, FB.length, Tr.cb FB), (.slice Pt FB.length ct, FB.length, Tr.cb FB)], (r : Value × Nat × List Value).2.1 ≤ 1099511627776 := by
        intro r hr
        simp only [List.mem_cons, List.not_mem_nil, or_false] at hr
        rcases hr with rfl | rfl | rfl | rfl | rfl | rfl | rfl | rfl
        · exact Nat.le_trans XB.out (by decide)
        · exact Nat.le_trans XB.out (by decide)
        · exact Nat.le_trans LB.out (by decide)
        · exact Nat.le_trans LB.out (by decide)
        · exact Nat.le_trans NBL.out (by decide)
        · exact Nat.le_trans NBL.out (by decide)
        · exact Nat.le_trans FBL.out.1 (by decide)
        · exact Nat.le_trans FBL.out.1 (by decide)
      have ALO := hidden (fun x (hb : Below w.heap.size w x) (hr : ∀ r ∈ [(.slice (some ⟨GW, 0, none⟩) 0 cW, 0, []), (.slice Pp X.length cp, X.length, Tr.cb X), (.slice Pq X.length cq, X.length, Tr.cb X), (.slice Ph bs.length ch, bs.length, Tr.cb bs), (.slice Pi bs.length ci, bs.length, Tr.cb bs), (.slice Pc NB.length cc, NB.length, Tr.cb NB), (.slice Pd NB.length cd, NB.length, Tr.cb NB), (.slice Ps FB.length cs, FB.length, Tr.cb FB), (.slice Pt FB.length ct, FB.length, Tr.cb FB)], x.ownsRow w.heap.size 5 1 (r : Value × Nat × List Value).1 r.2.1 r.2.2) => alone_rows (Rs := [(.slice Pp X.length cp, X.length, Tr.cb X), (.slice Pq X.length cq, X.length, Tr.cb X), (.slice Ph bs.length ch, bs.length, Tr.cb bs), (.slice Pi bs.length ci, bs.length, Tr.cb bs), (.slice Pc NB.length cc, NB.length, Tr.cb NB), (.slice Pd NB.length cd, NB.length, Tr.cb NB), (.slice Ps FB.length cs, FB.length, Tr.cb FB), (.slice Pt FB.length ct, FB.length, Tr.cb FB)]) hb (fun r h => hr r (List.mem_cons_of_mem _ h)) BD.out BB8 (by simp))
      simp only [List.length_cons, List.length_nil, List.map_cons, List.map_nil, Nat.reduceAdd] at ALO
      clear BB8
      clear Sl SJ BD
      go_wp2_with (first | (go_at_call 19; refine LON.out.mono ?_; rintro e wo ⟨rfl, hb, hr⟩; have AC := hidden (ALO.out wo hb hr); clear hb hr LON ALO y1 y2 y3 y4) | (go_at_call 20; refine AC.out.mono ?_; rintro e wp ⟨rfl, hb⟩; have BE := hidden hb; clear hb AC))
      go_ret
      exact ⟨rfl, BE.out⟩
set_option maxRecDepth 100000 in
set_option maxHeartbeats 64000000 in
theorem own_B2 (s l r : Nat → E4) (LP RP : Option Addr) (n cL cR : Nat) (bs : List UInt8) (BP : Option Addr) (cB nn : Nat) (w : World) (hT : Tb w) (hH : Hg w) (hn : n ≤ 1048576) (h10 : 10 < n) (os : ∀ k, k < 9 → (s k).ok) (ol : ∀ k, k < n → (l k).ok) (or : ∀ k, k < n → (r k).ok) (hL : Lm w LP n l) (hR : Lm w RP n r) (hb : Tr.By w BP cB bs) (lb : bs.length ≤ 1048576) (hnn : nn < 2 ^ 64) :
    Calls Tryz.prog 3 #[.agg (pc s (.slice LP n cL) (.slice RP n cR)).toArray, .slice BP bs.length cB, .int .u64 (nn : Int)] w fun e w' => e = .returned (.bool true) ∧ Below w.heap.size w w' := by
  obtain ⟨Q1, hQ1⟩ : ∃ P, P = pc s (.slice LP n cL) (.slice RP n cR) := ⟨_, rfl⟩
  have a28 : Hid (Q1[28]? = some (.slice LP n cL) ∧ Q1[29]? = some (.slice RP n cR) ∧ Q1.length = 38) := hidden (by rw [hQ1]; exact ⟨rfl, rfl, rfl⟩)
  obtain ⟨X, hX⟩ : ∃ X : List UInt8, X = [] := ⟨_, rfl⟩
  have X0 := hidden hX
  have XB : Hid (X.length ≤ 1000) := hidden (by rw [hX]; simp)
  have BYT : Hid (∀ x, Below w.heap.size w x → Calls Tryz.prog 4 #[.agg Q1.toArray] x fun e w' => ∃ v, e = .returned v ∧ Below x.heap.size x w') := hidden (fun x h => by rw [hQ1]; exact (bytes_wide s l r LP RP n n n cL cR x (by omega) (by omega) (by omega) (by omega) os (fun k hk => ol k (by omega)) (fun k hk => or k (by omega)) (hL.keep h) (hR.keep h)).mono fun e w' ⟨G, c, h1, _, h3⟩ => ⟨_, h1, h3⟩)
  have ENZ : Hid (∀ x, Below w.heap.size w x → Calls Tryz.prog 5 #[.agg z125.toArray] x fun e w' => ∃ G c : Nat, e = .returned (.slice (some ⟨G, 0, none⟩) 288 c) ∧ w'.ownsRow x.heap.size 5 1 (.slice (some ⟨G, 0, none⟩) 0 c) 0 [] ∧ Below x.heap.size x w') := hidden (fun x h => (encodeZ x (hH.keep h)).mono fun e w' ⟨G, c, h1, ⟨xs, h2⟩, h3⟩ => ⟨G, c, h1, own_front (n := 0) (xs := []) (ys := xs) h2 rfl (by omega), h3⟩)
  have ENC : Hid (∀ x P1 c1 P2 c2, Below w.heap.size w x → Lm x P1 n l → Lm x P2 n r → (∀ a, P1 = some a → a.block < x.heap.size) → (∀ a, P2 = some a → a.block < x.heap.size) → Calls Tryz.prog 6 #[.agg (pc s (.slice P1 n c1) (.slice P2 n c2)).toArray] x fun e w' => ∃ V, e = .returned (.tuple #[V, .int .i64 2]) ∧ w'.ownsRow x.heap.size 5 1 V X.length (Tr.cb X) ∧ Below x.heap.size x w') := hidden (fun x P1 c1 P2 c2 h k1 k2 b1 b2 => (enc_no s P1 P2 n n c1 c2 x (.inr h10)).mono fun e w' ⟨h1, h2⟩ => ⟨_, h1, by rw [hX]; exact World.ownsRow_nil _ _ _ _, h2⟩)
  have DX : ∀ k, ¬ DOk X k := fun k h => by have := h.2.1; rw [hX] at this; simp at this; omega
  have DEC : Hid (∀ x P c, Below w.heap.size w x → Tr.By x P c X → Calls Tryz.prog 8 #[.slice P X.length c] x fun e w' => ∃ (s f1 f2 : Nat → E4) (V1 V2 : Value) (er : Int), e = .returned (.tuple #[.agg (pc s V1 V2).toArray, .int .i64 er]) ∧ Below x.heap.size x w' ∧ w'.ownsRow x.heap.size 52 4 V1 0 (svs 0 f1) ∧ w'.ownsRow x.heap.size 52 4 V2 0 (svs 0 f2) ∧ Dj V1 V2 ∧ er ≠ 0) := hidden (fun x P c h hy => (dec_own P c X x (hT.keep h) hy (by have := XB.out; omega)).mono fun e w' ⟨s, f1, f2, V1, V2, n1, er, h1, h2, h3, h4, h5, h6, h7⟩ => by
    rcases h7 with ⟨_, h9⟩ | ⟨h8, h9, _⟩
    · exact absurd h9 (DX n1)
    · subst h9
      exact ⟨s, f1, f2, V1, V2, er, h1, h2, h3, h4, h5, h8⟩)
  have LIN : Hid (∀ x, Below w.heap.size w x → Calls Tryz.prog 7 #[.agg Q1.toArray] x fun e w' => ∃ P1 c1 P2 c2, e = .returned (.agg (pc s (.slice P1 n c1) (.slice P2 n c2)).toArray) ∧ Lm w' P1 n l ∧ Lm w' P2 n r ∧ (∀ a, P1 = some a → a.block < w'.heap.size) ∧ (∀ a, P2 = some a → a.block < w'.heap.size) ∧ Below x.heap.size x w') := hidden (fun x h => by rw [hQ1]; exact (line_any s l r LP RP n n cL cR x (by omega) (by omega) (hL.keep h) (hR.keep h)).mono fun e w' ⟨P1, c1, P2, c2, h1, h2, h3, h4⟩ => ⟨P1, c1, P2, c2, h1, (own_lm h2).1, (own_lm h3).1, (own_lm h2).2, (own_lm h3).2, h4⟩)
  have HBY := hidden (fun x (h : Below w.heap.size w x) => hb.keep h)
  have LB := hidden lb
  have HEX : Hid (∀ x, Below w.heap.size w x → Calls Tryz.prog 10 #[.slice BP bs.length cB] x fun e w' => e = .returned (.string (Tr.sb (Tr.hx bs))) ∧ Below x.heap.size x w') := hidden (fun x h => Tr.hex_any BP cB bs x (hb.keep h) (by omega))
  have UNH : Hid (∀ x, Calls Tryz.prog 9 #[.string (Tr.sb (Tr.hx bs))] x fun e w' => ∃ (v : Value) (k : Nat), e = .returned (.tuple #[v, .int .i64 (k : Int)]) ∧ w'.ownsRow x.heap.size 5 1 v bs.length (Tr.cb bs) ∧ Below x.heap.size x w') := hidden (fun x => (Tr.unhex_any (Tr.hx bs) x (by rw [hx_len]; omega)).mono fun e w' ⟨v, k, h1, h2, h3⟩ => ⟨v, k, h1, by unfold Tr.UhR at h2; rw [Tr.uh_hx] at h2; exact h2.2, h3⟩)
  obtain ⟨NB, hNB⟩ : ∃ l, bs ++ Tr.vn nn = l := ⟨_, rfl⟩
  have ANM : Hid (∀ x, Below w.heap.size w x → Calls Tryz.prog 11 #[.slice BP bs.length cB, .int .u64 (nn : Int)] x fun e w' => ∃ v, e = .returned v ∧ w'.ownsRow x.heap.size 5 1 v NB.length (Tr.cb NB) ∧ Below x.heap.size x w') := hidden (fun x h => by rw [← hNB]; exact Tr.appNum_any BP cB bs nn x (hb.keep h) (by omega) hnn)
  have NBL : Hid (NB.length ≤ 1048600) := hidden (by rw [← hNB, List.length_append]; have := (Tr.vn_len nn).2; omega)
  obtain ⟨FB, hFB⟩ : ∃ l, [] ++ (Tr.vn bs.length ++ bs) = l := ⟨_, rfl⟩
  have ABY : Hid (∀ x, Below w.heap.size w x → Calls Tryz.prog 12 #[.slice none 0 0, .slice BP bs.length cB] x fun e w' => ∃ v, e = .returned v ∧ w'.ownsRow x.heap.size 5 1 v FB.length (Tr.cb FB) ∧ Below x.heap.size x w') := hidden (fun x h => by rw [← hFB]; exact Tr.appBytes_any none BP 0 cB [] bs x (Tr.by_none x) (hb.keep h) (by simp only [List.length_nil]; omega))
  have FBL : Hid (FB.length ≤ 1048600 ∧ 0 < FB.length) := hidden (by rw [← hFB, List.nil_append, List.length_append]; have := Tr.vn_len bs.length; omega)
  have NRD : Hid (∀ x P c, Tr.By x P c FB → Calls Tryz.prog 13 #[.slice P FB.length c] x fun r w' => ∃ g q : Nat, r = .returned (.pointer (some ⟨g, 0, none⟩)) ∧ Rb w' g q FB 0 ∧ x.heap.size ≤ g ∧ x.heap.size ≤ q ∧ q < w'.heap.size ∧ Below x.heap.size x w') := hidden (fun x P c h => (Tr.newReader_b h (by have := FBL.out; omega)).mono fun e w' ⟨g, Q, d, h1, h2, h3, h4, h5⟩ => by
    obtain ⟨q, k1, k2, k3⟩ := reader_rb (x := x) h2 FBL.out.2 h5
    exact ⟨g, q, h1, k1, h3, k2, k3, h4⟩)
  obtain ⟨NL, hNL⟩ : ∃ k, ln FB bs.length = k := ⟨_, rfl⟩
  obtain ⟨fl, hfl⟩ : ∃ f, lf (FB.drop (Tr.ct FB bs.length).2.1) = f := ⟨_, rfl⟩
  have NLB : Hid (NL ≤ 1048576) := hidden (by rw [← hNL]; exact Nat.le_trans (ln_le _ _) lb)
  have LST : Hid (∀ x g q, Rb x g q FB 0 → q < x.heap.size → Calls Tryz.prog 17 #[.pointer (some ⟨g, 0, none⟩), .int .i64 (bs.length : Int), .func (.func 14) #[] #[]] x fun e w' => ∃ V, e = .returned V ∧ w'.ownsRow x.heap.size 52 4 V NL (svs NL fl) ∧ Tr.Kp g x w') := hidden (fun x g q h hq => by rw [← hNL, ← hfl]; exact list_any FB bs.length x g q h hq (by have := FBL.out; omega) lb)
  have UW : Hid (Tryz.prog.underlying 28 = _) := hidden Tryz.underlying28
  have UP : Hid (Tryz.prog.underlying 55 = _) := hidden Tryz.underlying55
  have I1 : Hid ((Tryz.prog.info? 28).map (·.size) = some Q1.length) := hidden (by rw [a28.out.2.2]; exact wpinfoO)
  have n10 : (10 : Int) < (n : Int) := by omega
  rw [← hQ1]
  have S1 : Hid (Sw w [(w.heap.size, Q1)] [] [] (w.alloc (.cells Q1.toArray 28))) := hidden ⟨(Mw.start w).new Q1 28, fun r hr => (by cases hr), List.Pairwise.nil, fun r hr => (by cases hr), List.Pairwise.nil⟩
  have NBD : Hid (n ≤ 1048576) := hidden hn
  clear hQ1 hT hH hn h10 os ol or hL hR hb lb hnn hX DX hNB hFB hNL hfl
  go_enter Tryz.func3, Tryz.ntmps3
  go_upto_region 1 with fail
  generalize w.alloc (.cells Q1.toArray 28) = w1 at *
  obtain ⟨T3, hT3⟩ : ∃ T, w.heap.size = T := ⟨_, rfl⟩
  rw [hT3] at S1 ⊢
  have ET := hidden hT3
  clear hT3
  go_upto_region 2 with (first | refine wpList_load_mid rfl 28 _ rfl T3 0 (by rfl) Q1 _ (S1.out.m.r (T3, Q1) (by simp)).1 UW.out rfl I1.out ?_ | (go_at_call 4; refine (BYT.out _ S1.out.m.bel).mono ?_; rintro e w2 ⟨vW, rfl, hb⟩; have S2 := hidden (S1.out.keep hb); clear hb BYT S1))
  have x28 := (S2.out.m.r (T3, Q1) (by simp)).1 28 _ a28.out.1
  have x29 := (S2.out.m.r (T3, Q1) (by simp)).1 29 _ a28.out.2.1
  simp only [Nat.zero_add] at x28 x29
  go_upto_region 4 with (first | refine wpList_build125 rfl rfl ?_ | (go_at_call 5; refine (ENZ.out _ S2.out.m.bel).mono ?_; rintro e w3 ⟨GW, cW, rfl, ho, hb⟩; have S3 : Hid (Sw w [(T3, Q1)] [(.slice (some ⟨GW, 0, none⟩) 0 cW, 0, [])] [] w3) := hidden (S2.out.addB hb ho); clear ho hb ENZ S2 x28 x29))
  go_upto_region 5 with fail
  replace S2 := S3
  go_upto_region 6 with (first | refine wpList_load_mid rfl 28 _ rfl T3 0 (by rfl) Q1 _ (S2.out.m.r (T3, Q1) (by simp)).1 UW.out rfl I1.out ?_ | (go_at_call 7; refine (LIN.out _ S2.out.m.bel).mono ?_; rintro e wap ⟨L1, d1, L2, d2, rfl, k1, k2, b1, b2, hb⟩; have SA := hidden (S2.out.keep hb); have EC := hidden (ENC.out wap L1 d1 L2 d2 SA.out.m.bel k1 k2 b1 b2); clear k1 k2 b1 b2 hb S2) | (go_at_call 6; refine EC.out.mono ?_; rintro e wp ⟨V, rfl, ho, hb⟩; obtain ⟨Pp, cp, rfl⟩ := own_sh ho; have Sp : Hid (Sw w [(T3, Q1)] [(.slice (some ⟨GW, 0, none⟩) 0 cW, 0, []), (.slice Pp X.length cp, X.length, Tr.cb X)] [] wp) := hidden (SA.out.addB hb ho); clear ho hb EC SA))
  go_upto_region 7 with (first | refine wpList_load_mid rfl 28 _ rfl T3 0 (by rfl) Q1 _ (Sp.out.m.r (T3, Q1) (by simp)).1 UW.out rfl I1.out ?_ | (go_at_call 7; refine (LIN.out _ Sp.out.m.bel).mono ?_; rintro e waq ⟨L1, d1, L2, d2, rfl, k1, k2, b1, b2, hb⟩; have SA := hidden (Sp.out.keep hb); have EC := hidden (ENC.out waq L1 d1 L2 d2 SA.out.m.bel k1 k2 b1 b2); clear k1 k2 b1 b2 hb Sp) | (go_at_call 6; refine EC.out.mono ?_; rintro e wq ⟨V, rfl, ho, hb⟩; obtain ⟨Pq, cq, rfl⟩ := own_sh ho; have Sq : Hid (Sw w [(T3, Q1)] [(.slice (some ⟨GW, 0, none⟩) 0 cW, 0, []), (.slice Pp X.length cp, X.length, Tr.cb X), (.slice Pq X.length cq, X.length, Tr.cb X)] [] wq) := hidden (SA.out.addB hb ho); clear ho hb EC SA))
  clear LIN ENC
  have DCx := hidden (DEC.out _ Pp cp Sq.out.m.bel (own_by (Sq.out.b (.slice Pp X.length cp, X.length, Tr.cb X) (by simp))))
  go_upto_region 8 with (first | (go_at_call 8; refine DCx.out.mono ?_; rintro e wax ⟨sx, f1, f2, V1, V2, erx, rfl, hb, ho1, ho2, hdj, her⟩; obtain ⟨P1, c1, rfl⟩ := own_sh ho1; obtain ⟨P2, c2, rfl⟩ := own_sh ho2; have SA : Hid (Sw w [(T3, Q1)] [(.slice (some ⟨GW, 0, none⟩) 0 cW, 0, []), (.slice Pp X.length cp, X.length, Tr.cb X), (.slice Pq X.length cq, X.length, Tr.cb X)] [(.slice P1 0 c1, 0, svs 0 f1), (.slice P2 0 c2, 0, svs 0 f2)] wax) := hidden (Sq.out.addL2 hb ho1 ho2 hdj); have ERx := hidden her; obtain ⟨Qx, hQ⟩ : ∃ P, pc sx (.slice P1 0 c1) (.slice P2 0 c2) = P := ⟨_, rfl⟩; have bbx : Hid (Qx[28]? = some (.slice P1 0 c1) ∧ Qx[29]? = some (.slice P2 0 c2) ∧ Qx.length = 38) := hidden (by rw [← hQ]; exact ⟨rfl, rfl, rfl⟩); have OQ : Hid (Qx.toArray.all (·.oneCell') = true) := hidden (by rw [← hQ]; exact pc_one _ _ _ _ _ _ _); rw [hQ]; have BX := hidden (SA.out.box (z := pcv zero4 zero4 zero4 zero4 zero4 zero4 zero4 zero4 zero4 (.slice none 0 0) (.slice none 0 0)) (cs := Qx) (t := 55) (by rw [bbx.out.2.2]; rfl)); have IQ : Hid ((Tryz.prog.info? 55).map (·.size) = some Qx.toArray.size) := hidden (by rw [List.size_toArray, bbx.out.2.2]; exact pinfo); clear hQ ho1 ho2 hdj her hb DCx Sq) | refine wpList_allocP rfl rfl ?_ | refine wpList_store_mid rfl 55 _ _ rfl wax.heap.size 0 Qx.toArray (by rfl) (by rfl) BX.out.2 IQ.out OQ.out ?_)
  have SB : Hid (Sw w ((wax.heap.size, Qx) :: [(T3, Q1)]) [(.slice (some ⟨GW, 0, none⟩) 0 cW, 0, []), (.slice Pp X.length cp, X.length, Tr.cb X), (.slice Pq X.length cq, X.length, Tr.cb X)] [(.slice P1 0 c1, 0, svs 0 f1), (.slice P2 0 c2, 0, svs 0 f2)] ((wax.alloc (.cells (pcv zero4 zero4 zero4 zero4 zero4 zero4 zero4 zero4 zero4 (.slice none 0 0) (.slice none 0 0)).toArray 55)).setCells wax.heap.size 0 Qx)) := hidden BX.out.1
  generalize (wax.alloc (.cells (pcv zero4 zero4 zero4 zero4 zero4 zero4 zero4 zero4 zero4 (.slice none 0 0) (.slice none 0 0)).toArray 55)).setCells wax.heap.size 0 Qx = wx at *
  generalize wax.heap.size = Tx at *
  have Sx : Hid (Sw w [(Tx, Qx), (T3, Q1)] [(.slice (some ⟨GW, 0, none⟩) 0 cW, 0, []), (.slice Pp X.length cp, X.length, Tr.cb X), (.slice Pq X.length cq, X.length, Tr.cb X)] [(.slice P1 0 c1, 0, svs 0 f1), (.slice P2 0 c2, 0, svs 0 f2)] wx) := SB
  clear SB SA BX IQ OQ
  have DCy := hidden (DEC.out _ Pp cp Sx.out.m.bel (own_by (Sx.out.b (.slice Pp X.length cp, X.length, Tr.cb X) (by simp))))
  go_upto_region 9 with (first | (go_at_call 8; refine DCy.out.mono ?_; rintro e way ⟨sy, f3, f4, V1, V2, ery, rfl, hb, ho1, ho2, hdj, her⟩; obtain ⟨P3, c3, rfl⟩ := own_sh ho1; obtain ⟨P4, c4, rfl⟩ := own_sh ho2; have SA : Hid (Sw w [(Tx, Qx), (T3, Q1)] [(.slice (some ⟨GW, 0, none⟩) 0 cW, 0, []), (.slice Pp X.length cp, X.length, Tr.cb X), (.slice Pq X.length cq, X.length, Tr.cb X)] [(.slice P1 0 c1, 0, svs 0 f1), (.slice P2 0 c2, 0, svs 0 f2), (.slice P3 0 c3, 0, svs 0 f3), (.slice P4 0 c4, 0, svs 0 f4)] way) := hidden (Sx.out.addL2 hb ho1 ho2 hdj); have ERy := hidden her; obtain ⟨Qy, hQ⟩ : ∃ P, pc sy (.slice P3 0 c3) (.slice P4 0 c4) = P := ⟨_, rfl⟩; have bby : Hid (Qy[28]? = some (.slice P3 0 c3) ∧ Qy[29]? = some (.slice P4 0 c4) ∧ Qy.length = 38) := hidden (by rw [← hQ]; exact ⟨rfl, rfl, rfl⟩); have OQ : Hid (Qy.toArray.all (·.oneCell') = true) := hidden (by rw [← hQ]; exact pc_one _ _ _ _ _ _ _); rw [hQ]; have BX := hidden (SA.out.box (z := pcv zero4 zero4 zero4 zero4 zero4 zero4 zero4 zero4 zero4 (.slice none 0 0) (.slice none 0 0)) (cs := Qy) (t := 55) (by rw [bby.out.2.2]; rfl)); have IQ : Hid ((Tryz.prog.info? 55).map (·.size) = some Qy.toArray.size) := hidden (by rw [List.size_toArray, bby.out.2.2]; exact pinfo); clear hQ ho1 ho2 hdj her hb DCy Sx) | refine wpList_allocP rfl rfl ?_ | refine wpList_store_mid rfl 55 _ _ rfl way.heap.size 0 Qy.toArray (by rfl) (by rfl) BX.out.2 IQ.out OQ.out ?_)
  have SB : Hid (Sw w ((way.heap.size, Qy) :: [(Tx, Qx), (T3, Q1)]) [(.slice (some ⟨GW, 0, none⟩) 0 cW, 0, []), (.slice Pp X.length cp, X.length, Tr.cb X), (.slice Pq X.length cq, X.length, Tr.cb X)] [(.slice P1 0 c1, 0, svs 0 f1), (.slice P2 0 c2, 0, svs 0 f2), (.slice P3 0 c3, 0, svs 0 f3), (.slice P4 0 c4, 0, svs 0 f4)] ((way.alloc (.cells (pcv zero4 zero4 zero4 zero4 zero4 zero4 zero4 zero4 zero4 (.slice none 0 0) (.slice none 0 0)).toArray 55)).setCells way.heap.size 0 Qy)) := hidden BX.out.1
  generalize (way.alloc (.cells (pcv zero4 zero4 zero4 zero4 zero4 zero4 zero4 zero4 zero4 (.slice none 0 0) (.slice none 0 0)).toArray 55)).setCells way.heap.size 0 Qy = wy at *
  generalize way.heap.size = Ty at *
  have Sy : Hid (Sw w [(Ty, Qy), (Tx, Qx), (T3, Q1)] [(.slice (some ⟨GW, 0, none⟩) 0 cW, 0, []), (.slice Pp X.length cp, X.length, Tr.cb X), (.slice Pq X.length cq, X.length, Tr.cb X)] [(.slice P1 0 c1, 0, svs 0 f1), (.slice P2 0 c2, 0, svs 0 f2), (.slice P3 0 c3, 0, svs 0 f3), (.slice P4 0 c4, 0, svs 0 f4)] wy) := SB
  clear SB SA BX IQ OQ
  clear DEC
  go_upto_region 10 with (first | (go_at_call 10; refine (HEX.out _ Sy.out.m.bel).mono ?_; rintro e wah ⟨rfl, hb⟩; have SA := hidden (Sy.out.keep hb); clear hb Sy) | (go_at_call 9; refine (UNH.out _).mono ?_; rintro e wh ⟨V, kkh, rfl, ho, hb⟩; obtain ⟨Ph, ch, rfl⟩ := own_sh ho; have Sh : Hid (Sw w [(Ty, Qy), (Tx, Qx), (T3, Q1)] [(.slice (some ⟨GW, 0, none⟩) 0 cW, 0, []), (.slice Pp X.length cp, X.length, Tr.cb X), (.slice Pq X.length cq, X.length, Tr.cb X), (.slice Ph bs.length ch, bs.length, Tr.cb bs)] [(.slice P1 0 c1, 0, svs 0 f1), (.slice P2 0 c2, 0, svs 0 f2), (.slice P3 0 c3, 0, svs 0 f3), (.slice P4 0 c4, 0, svs 0 f4)] wh) := hidden (SA.out.addB hb ho); clear ho hb SA))
  go_upto_region 11 with (first | (go_at_call 10; refine (HEX.out _ Sh.out.m.bel).mono ?_; rintro e wai ⟨rfl, hb⟩; have SA := hidden (Sh.out.keep hb); clear hb Sh) | (go_at_call 9; refine (UNH.out _).mono ?_; rintro e wi ⟨V, kki, rfl, ho, hb⟩; obtain ⟨Pi, ci, rfl⟩ := own_sh ho; have Si : Hid (Sw w [(Ty, Qy), (Tx, Qx), (T3, Q1)] [(.slice (some ⟨GW, 0, none⟩) 0 cW, 0, []), (.slice Pp X.length cp, X.length, Tr.cb X), (.slice Pq X.length cq, X.length, Tr.cb X), (.slice Ph bs.length ch, bs.length, Tr.cb bs), (.slice Pi bs.length ci, bs.length, Tr.cb bs)] [(.slice P1 0 c1, 0, svs 0 f1), (.slice P2 0 c2, 0, svs 0 f2), (.slice P3 0 c3, 0, svs 0 f3), (.slice P4 0 c4, 0, svs 0 f4)] wi) := hidden (SA.out.addB hb ho); clear ho hb SA))
  clear HEX UNH
  go_upto_region 12 with (first | (go_at_call 11; refine (ANM.out _ Si.out.m.bel).mono ?_; rintro e wc ⟨V, rfl, ho, hb⟩; obtain ⟨Pc, cc, rfl⟩ := own_sh ho; have Sc : Hid (Sw w [(Ty, Qy), (Tx, Qx), (T3, Q1)] [(.slice (some ⟨GW, 0, none⟩) 0 cW, 0, []), (.slice Pp X.length cp, X.length, Tr.cb X), (.slice Pq X.length cq, X.length, Tr.cb X), (.slice Ph bs.length ch, bs.length, Tr.cb bs), (.slice Pi bs.length ci, bs.length, Tr.cb bs), (.slice Pc NB.length cc, NB.length, Tr.cb NB)] [(.slice P1 0 c1, 0, svs 0 f1), (.slice P2 0 c2, 0, svs 0 f2), (.slice P3 0 c3, 0, svs 0 f3), (.slice P4 0 c4, 0, svs 0 f4)] wc) := hidden (Si.out.addB hb ho); clear ho hb Si) | (go_at_call 11; refine (ANM.out _ Sc.out.m.bel).mono ?_; rintro e wd ⟨V, rfl, ho, hb⟩; obtain ⟨Pd, cd, rfl⟩ := own_sh ho; have Sd : Hid (Sw w [(Ty, Qy), (Tx, Qx), (T3, Q1)] [(.slice (some ⟨GW, 0, none⟩) 0 cW, 0, []), (.slice Pp X.length cp, X.length, Tr.cb X), (.slice Pq X.length cq, X.length, Tr.cb X), (.slice Ph bs.length ch, bs.length, Tr.cb bs), (.slice Pi bs.length ci, bs.length, Tr.cb bs), (.slice Pc NB.length cc, NB.length, Tr.cb NB), (.slice Pd NB.length cd, NB.length, Tr.cb NB)] [(.slice P1 0 c1, 0, svs 0 f1), (.slice P2 0 c2, 0, svs 0 f2), (.slice P3 0 c3, 0, svs 0 f3), (.slice P4 0 c4, 0, svs 0 f4)] wd) := hidden (Sc.out.addB hb ho); clear ho hb Sc))
  go_upto_region 13 with (first | (go_at_call 12; refine (ABY.out _ Sd.out.m.bel).mono ?_; rintro e ws ⟨V, rfl, ho, hb⟩; obtain ⟨Ps, cs, rfl⟩ := own_sh ho; have Ss : Hid (Sw w [(Ty, Qy), (Tx, Qx), (T3, Q1)] [(.slice (some ⟨GW, 0, none⟩) 0 cW, 0, []), (.slice Pp X.length cp, X.length, Tr.cb X), (.slice Pq X.length cq, X.length, Tr.cb X), (.slice Ph bs.length ch, bs.length, Tr.cb bs), (.slice Pi bs.length ci, bs.length, Tr.cb bs), (.slice Pc NB.length cc, NB.length, Tr.cb NB), (.slice Pd NB.length cd, NB.length, Tr.cb NB), (.slice Ps FB.length cs, FB.length, Tr.cb FB)] [(.slice P1 0 c1, 0, svs 0 f1), (.slice P2 0 c2, 0, svs 0 f2), (.slice P3 0 c3, 0, svs 0 f3), (.slice P4 0 c4, 0, svs 0 f4)] ws) := hidden (Sd.out.addB hb ho); clear ho hb Sd) | (go_at_call 12; refine (ABY.out _ Ss.out.m.bel).mono ?_; rintro e wt ⟨V, rfl, ho, hb⟩; obtain ⟨Pt, ct, rfl⟩ := own_sh ho; have St : Hid (Sw w [(Ty, Qy), (Tx, Qx), (T3, Q1)] [(.slice (some ⟨GW, 0, none⟩) 0 cW, 0, []), (.slice Pp X.length cp, X.length, Tr.cb X), (.slice Pq X.length cq, X.length, Tr.cb X), (.slice Ph bs.length ch, bs.length, Tr.cb bs), (.slice Pi bs.length ci, bs.length, Tr.cb bs), (.slice Pc NB.length cc, NB.length, Tr.cb NB), (.slice Pd NB.length cd, NB.length, Tr.cb NB), (.slice Ps FB.length cs, FB.length, Tr.cb FB), (.slice Pt FB.length ct, FB.length, Tr.cb FB)] [(.slice P1 0 c1, 0, svs 0 f1), (.slice P2 0 c2, 0, svs 0 f2), (.slice P3 0 c3, 0, svs 0 f3), (.slice P4 0 c4, 0, svs 0 f4)] wt) := hidden (Ss.out.addB hb ho); clear ho hb Ss))
  clear ANM ABY
  have BS := hidden (fun x (h : Sw w [(Ty, Qy), (Tx, Qx), (T3, Q1)] [(.slice (some ⟨GW, 0, none⟩) 0 cW, 0, []), (.slice Pp X.length cp, X.length, Tr.cb X), (.slice Pq X.length cq, X.length, Tr.cb X), (.slice Ph bs.length ch, bs.length, Tr.cb bs), (.slice Pi bs.length ci, bs.length, Tr.cb bs), (.slice Pc NB.length cc, NB.length, Tr.cb NB), (.slice Pd NB.length cd, NB.length, Tr.cb NB), (.slice Ps FB.length cs, FB.length, Tr.cb FB), (.slice Pt FB.length ct, FB.length, Tr.cb FB)] [(.slice P1 0 c1, 0, svs 0 f1), (.slice P2 0 c2, 0, svs 0 f2), (.slice P3 0 c3, 0, svs 0 f3), (.slice P4 0 c4, 0, svs 0 f4)] x) => own_by (h.b (.slice Ps FB.length cs, FB.length, Tr.cb FB) (by simp)))
  have MSZ := hidden (fun x (h : Sw w [(Ty, Qy), (Tx, Qx), (T3, Q1)] [(.slice (some ⟨GW, 0, none⟩) 0 cW, 0, []), (.slice Pp X.length cp, X.length, Tr.cb X), (.slice Pq X.length cq, X.length, Tr.cb X), (.slice Ph bs.length ch, bs.length, Tr.cb bs), (.slice Pi bs.length ci, bs.length, Tr.cb bs), (.slice Pc NB.length cc, NB.length, Tr.cb NB), (.slice Pd NB.length cd, NB.length, Tr.cb NB), (.slice Ps FB.length cs, FB.length, Tr.cb FB), (.slice Pt FB.length ct, FB.length, Tr.cb FB)] [(.slice P1 0 c1, 0, svs 0 f1), (.slice P2 0 c2, 0, svs 0 f2), (.slice P3 0 c3, 0, svs 0 f3), (.slice P4 0 c4, 0, svs 0 f4)] x) (g : Nat) (hg : x.heap.size ≤ g) => (show ∀ p ∈ [(Ty, Qy), (Tx, Qx), (T3, Q1)], p.1 ≠ g from fun p hp => Nat.ne_of_lt (Nat.lt_of_lt_of_le (h.m.r p hp).2.2.2 hg)))
  go_upto_region 15 with (first | (go_at_call 13; refine (NRD.out _ Ps cs (BS.out _ St.out)).mono ?_; rintro e wu ⟨g1, q1, rfl, hr, h1, h2, h3, hb⟩; have Su := hidden (St.out.keep hb); have R1 := hidden hr; have G1 : Hid (w.heap.size ≤ g1 ∧ q1 < wu.heap.size ∧ g1 < wu.heap.size) := hidden ⟨Nat.le_trans St.out.m.bel.size h1, h3, hr.glt⟩; have MG1 := hidden (MSZ.out _ St.out g1 h1); clear hr h1 h2 h3 hb St) | (go_at_call 13; refine (NRD.out _ Ps cs (BS.out _ Su.out)).mono ?_; rintro e wv ⟨g2, q2, rfl, hr, h1, h2, h3, hb⟩; have Sv := hidden (Su.out.keep hb); replace R1 := hidden (R1.out.keep hb); have R2 := hidden hr; have G2 : Hid (w.heap.size ≤ g2 ∧ q2 < wv.heap.size ∧ g2 ≠ g1 ∧ q2 ≠ g1 ∧ q1 < wv.heap.size) := hidden (by (have a1 := G1.out; have a2 := hb.size; have a3 := Su.out.m.bel.size; omega)); have MG2 := hidden (MSZ.out _ Su.out g2 h1); clear hr h1 h2 h3 hb Su))
  clear NRD BS MSZ
  go_upto_region 16 with (first | (go_at_call 17; refine (LST.out _ g1 q1 R1.out G2.out.2.2.2.2).mono ?_; rintro e wk ⟨V, rfl, ho, hk⟩; obtain ⟨Pk, ck, rfl⟩ := own_sh ho; have Sk : Hid (Sw w [(Ty, Qy), (Tx, Qx), (T3, Q1)] [(.slice (some ⟨GW, 0, none⟩) 0 cW, 0, []), (.slice Pp X.length cp, X.length, Tr.cb X), (.slice Pq X.length cq, X.length, Tr.cb X), (.slice Ph bs.length ch, bs.length, Tr.cb bs), (.slice Pi bs.length ci, bs.length, Tr.cb bs), (.slice Pc NB.length cc, NB.length, Tr.cb NB), (.slice Pd NB.length cd, NB.length, Tr.cb NB), (.slice Ps FB.length cs, FB.length, Tr.cb FB), (.slice Pt FB.length ct, FB.length, Tr.cb FB)] [(.slice P1 0 c1, 0, svs 0 f1), (.slice P2 0 c2, 0, svs 0 f2), (.slice P3 0 c3, 0, svs 0 f3), (.slice P4 0 c4, 0, svs 0 f4), (.slice Pk NL ck, NL, svs NL fl)] wk) := hidden (Sv.out.kpL R1.out hk G1.out.1 MG1.out ho); have R3 := hidden (R2.out.kp hk G2.out.2.2.1 G2.out.2.2.2.1); have G3 : Hid (q2 < wk.heap.size) := hidden (Nat.lt_of_lt_of_le G2.out.2.1 hk.size); clear ho hk R1 R2 Sv) | (go_at_call 17; refine (LST.out _ g2 q2 R3.out G3.out).mono ?_; rintro e wl ⟨V, rfl, ho, hk⟩; obtain ⟨Pl, cl, rfl⟩ := own_sh ho; have Sl : Hid (Sw w [(Ty, Qy), (Tx, Qx), (T3, Q1)] [(.slice (some ⟨GW, 0, none⟩) 0 cW, 0, []), (.slice Pp X.length cp, X.length, Tr.cb X), (.slice Pq X.length cq, X.length, Tr.cb X), (.slice Ph bs.length ch, bs.length, Tr.cb bs), (.slice Pi bs.length ci, bs.length, Tr.cb bs), (.slice Pc NB.length cc, NB.length, Tr.cb NB), (.slice Pd NB.length cd, NB.length, Tr.cb NB), (.slice Ps FB.length cs, FB.length, Tr.cb FB), (.slice Pt FB.length ct, FB.length, Tr.cb FB)] [(.slice P1 0 c1, 0, svs 0 f1), (.slice P2 0 c2, 0, svs 0 f2), (.slice P3 0 c3, 0, svs 0 f3), (.slice P4 0 c4, 0, svs 0 f4), (.slice Pk NL ck, NL, svs NL fl), (.slice Pl NL cl, NL, svs NL fl)] wl) := hidden (Sk.out.kpL R3.out hk G2.out.1 MG2.out ho); clear ho hk R3 Sk))
  clear LST G1 G2 G3 MG1 MG2
  have Z0 := hidden (same_zero X0.out (own_by (Sl.out.b (.slice Pp X.length cp, X.length, Tr.cb X) (by simp))) (own_by (bs := []) (Sl.out.b (.slice (some ⟨GW, 0, none⟩) 0 cW, 0, []) (by simp))))
  have Z1 := hidden (same_zero X0.out (own_by (Sl.out.b (.slice Pq X.length cq, X.length, Tr.cb X) (by simp))) (own_by (bs := []) (Sl.out.b (.slice (some ⟨GW, 0, none⟩) 0 cW, 0, []) (by simp))))
  have Z2 := hidden (same_yes (own_by (Sl.out.b (.slice Ph bs.length ch, bs.length, Tr.cb bs) (by simp))) (HBY.out _ Sl.out.m.bel))
  have Z3 := hidden (same_yes (own_by (Sl.out.b (.slice Pi bs.length ci, bs.length, Tr.cb bs) (by simp))) (HBY.out _ Sl.out.m.bel))
  have Z4 := hidden (same_yes (own_by (Sl.out.b (.slice Pc NB.length cc, NB.length, Tr.cb NB) (by simp))) (own_by (Sl.out.b (.slice Pd NB.length cd, NB.length, Tr.cb NB) (by simp))))
  have Z5 := hidden (same_yes (own_by (Sl.out.b (.slice Ps FB.length cs, FB.length, Tr.cb FB) (by simp))) (own_by (Sl.out.b (.slice Pt FB.length ct, FB.length, Tr.cb FB) (by simp))))
  go_upto_region 18 with (first | (go_at_call 18; refine Z0.out.mono ?_; rintro e wz ⟨rfl, rfl⟩; clear Z0) | (go_at_call 18; refine Z1.out.mono ?_; rintro e wz ⟨rfl, rfl⟩; clear Z1) | (go_at_call 18; refine Z2.out.mono ?_; rintro e wz ⟨rfl, rfl⟩; clear Z2) | (go_at_call 18; refine Z3.out.mono ?_; rintro e wz ⟨rfl, rfl⟩; clear Z3) | (go_at_call 18; refine Z4.out.mono ?_; rintro e wz ⟨rfl, rfl⟩; clear Z4) | (go_at_call 18; refine Z5.out.mono ?_; rintro e wz ⟨rfl, rfl⟩; clear Z5))
  go_upto_region 20 with fail
  go_wp2_with fail
  go_loopw [29] (fun kv w' => ∃ j : Nat, j ≤ NL ∧ kv = .int .i64 (j : Int) ∧ Hid (Sw w [(Ty, Qy), (Tx, Qx), (T3, Q1)] [(.slice (some ⟨GW, 0, none⟩) 0 cW, 0, []), (.slice Pp X.length cp, X.length, Tr.cb X), (.slice Pq X.length cq, X.length, Tr.cb X), (.slice Ph bs.length ch, bs.length, Tr.cb bs), (.slice Pi bs.length ci, bs.length, Tr.cb bs), (.slice Pc NB.length cc, NB.length, Tr.cb NB), (.slice Pd NB.length cd, NB.length, Tr.cb NB), (.slice Ps FB.length cs, FB.length, Tr.cb FB), (.slice Pt FB.length ct, FB.length, Tr.cb FB)] [(.slice P1 0 c1, 0, svs 0 f1), (.slice P2 0 c2, 0, svs 0 f2), (.slice P3 0 c3, 0, svs 0 f3), (.slice P4 0 c4, 0, svs 0 f4), (.slice Pk NL ck, NL, svs NL fl), (.slice Pl NL cl, NL, svs NL fl)] w')) (fun k _ => NL - (intOf k).toNat)
  case atStart => exact ⟨0, by omega, rfl, Sl⟩
  case round =>
    clear Sl
    obtain ⟨j, hj, rfl, Sl⟩ := hrel
    by_cases hjn : j < NL
    · have j0 : (0 : Int) ≤ (j : Int) := by omega
      have j1 : (j : Int) < (NL : Int) := by omega
      have w9 : IntKind.i64.wrap ((j : Int) + 1) = (j : Int) + 1 := IntWalk.i64_in _ (by have := NLB.out; omega)
      obtain ⟨⟨kb, ko, k1, k2⟩, _⟩ := own_lm (Sl.out.l (.slice Pk NL ck, NL, svs NL fl) (by simp))
      obtain ⟨⟨lb, lo, l1, l2⟩, _⟩ := own_lm (Sl.out.l (.slice Pl NL cl, NL, svs NL fl) (by simp))
      obtain rfl := k1 (by omega)
      obtain rfl := l1 (by omega)
      have rk := k2 (by omega)
      have rl := l2 (by omega)
      have ck0 := rk.c0 j hjn
      have cl0 := rl.c0 j hjn
      have ck1 := rk.c1 j hjn
      have cl1 := rl.c1 j hjn
      have ck2 := rk.c2 j hjn
      have cl2 := rl.c2 j hjn
      have ck3 := rk.c3 j hjn
      have cl3 := rl.c3 j hjn
      have qw := fun w => (eqL (fl j) (fl j) w).trans (by rw [E4.same_self] : _ = Result.ok true w)
      simp only [E4.v] at qw
      generalize fl j = z at *
      have NX := hidden (Sl.out.keep (Tr.drew_blW wr))
      clear Sl k1 k2 l1 l2 rk rl
      go_upto_region 23 with fail
      go_big_region
      go_wp2_with fail
      go_roundw
      case rel => exact ⟨j + 1, by omega, by go_num, NX⟩
      case measure => simp [intOf]; omega
    · obtain rfl : j = NL := by omega
      have lq : ¬ (j : Int) < (j : Int) := by omega
      have y1 := (Sl.out.m.r (Tx, Qx) (by simp)).1 28 _ bbx.out.1
      have y2 := (Sl.out.m.r (Tx, Qx) (by simp)).1 29 _ bbx.out.2.1
      have y3 := (Sl.out.m.r (Ty, Qy) (by simp)).1 28 _ bby.out.1
      have y4 := (Sl.out.m.r (Ty, Qy) (by simp)).1 29 _ bby.out.2.1
      simp only [Nat.zero_add] at y1 y2 y3 y4
      have SJ : Hid (Sw w [(Ty, Qy), (Tx, Qx), (T3, Q1)] [(.slice (some ⟨GW, 0, none⟩) 0 cW, 0, []), (.slice Pp X.length cp, X.length, Tr.cb X), (.slice Pq X.length cq, X.length, Tr.cb X), (.slice Ph bs.length ch, bs.length, Tr.cb bs), (.slice Pi bs.length ci, bs.length, Tr.cb bs), (.slice Pc NB.length cc, NB.length, Tr.cb NB), (.slice Pd NB.length cd, NB.length, Tr.cb NB), (.slice Ps FB.length cs, FB.length, Tr.cb FB), (.slice Pt FB.length ct, FB.length, Tr.cb FB)] [(.slice P1 0 c1, 0, svs 0 f1), (.slice P2 0 c2, 0, svs 0 f2), (.slice P3 0 c3, 0, svs 0 f3), (.slice P4 0 c4, 0, svs 0 f4), (.slice Pk j ck, j, svs j fl), (.slice Pl j cl, j, svs j fl)] wr) := Sl
      have LB6 : ∀ r ∈ [(.slice P1 0 c1, 0, svs 0 f1), (.slice P2 0 c2, 0, svs 0 f2), (.slice P3 0 c3, 0, svs 0 f3), (.slice P4 0 c4, 0, svs 0 f4), (.slice Pk j ck, j, svs j fl), (.slice Pl j cl, j, svs j fl)], (r : Value × Nat × List Value).2.1 ≤ 1099511627776 := by
        intro r hr
        simp only [List.mem_cons, List.not_mem_nil, or_false] at hr
        rcases hr with rfl | rfl | rfl | rfl | rfl | rfl
        · exact Nat.zero_le _
        · exact Nat.zero_le _
        · exact Nat.zero_le _
        · exact Nat.zero_le _
        · exact Nat.le_trans NLB.out (by decide)
        · exact Nat.le_trans NLB.out (by decide)
      have LON0 := lone_rows SJ.out LB6 (by simp)
      simp only [List.length_cons, List.length_nil, List.map_cons, List.map_nil, Nat.reduceAdd] at LON0
      have LON := hidden LON0
      clear LON0 LB6
      have BD : Hid (List.Pairwise (fun (a b : Value × Nat × List Value) => Dj a.1 b.1) [(.slice Pp X.length cp, X.length, Tr.cb X), (.slice Pq X.length cq, X.length, Tr.cb X), (.slice Ph bs.length ch, bs.length, Tr.cb bs), (.slice Pi bs.length ci, bs.length, Tr.cb bs), (.slice Pc NB.length cc, NB.length, Tr.cb NB), (.slice Pd NB.length cd, NB.length, Tr.cb NB), (.slice Ps FB.length cs, FB.length, Tr.cb FB), (.slice Pt FB.length ct, FB.length, Tr.cb FB)]) := hidden (List.pairwise_cons.1 SJ.out.bd).2
      have BB8 : ∀ r ∈ [(.slice Pp X.length cp, X.length, Tr.cb X), (.slice Pq X.length cq, X.length, Tr.cb X), (.slice Ph bs.length ch, bs.length, Tr.cb bs), (.slice Pi bs.length ci, bs.length, Tr.cb bs), (.slice Pc NB.length cc, NB.length, Tr.cb NB), (.slice Pd NB.length cd, NB.length, Tr.cb NB), (.slice Ps FB.length cs, FB.length, Tr.cb FB), (.slice Pt FB.length ct, FB.length, Tr.cb FB)], (r : Value × Nat × List Value).2.1 ≤ 1099511627776 := by
        intro r hr
        simp only [List.mem_cons, List.not_mem_nil, or_false] at hr
        rcases hr with rfl | rfl | rfl | rfl | rfl | rfl | rfl | rfl
        · exact Nat.le_trans XB.out (by decide)
        · exact Nat.le_trans XB.out (by decide)
        · exact Nat.le_trans LB.out (by decide)
        · exact Nat.le_trans LB.out (by decide)
        · exact Nat.le_trans NBL.out (by decide)
        · exact Nat.le_trans NBL.out (by decide)
        · exact Nat.le_trans FBL.out.1 (by decide)
        · exact Nat.le_trans FBL.out.1 (by decide)
      have ALO := hidden (fun x (hb : Below w.heap.size w x) (hr : ∀ r ∈ [(.slice (some ⟨GW, 0, none⟩) 0 cW, 0, []), (.slice Pp X.length cp, X.length, Tr.cb X), (.slice Pq X.length cq, X.length, Tr.cb X), (.slice Ph bs.length ch, bs.length, Tr.cb bs), (.slice Pi bs.length ci, bs.length, Tr.cb bs), (.slice Pc NB.length cc, NB.length, Tr.cb NB), (.slice Pd NB.length cd, NB.length, Tr.cb NB), (.slice Ps FB.length cs, FB.length, Tr.cb FB), (.slice Pt FB.length ct, FB.length, Tr.cb FB)], x.ownsRow w.heap.size 5 1 (r : Value × Nat × List Value).1 r.2.1 r.2.2) => alone_rows (Rs := [(.slice Pp X.length cp, X.length, Tr.cb X), (.slice Pq X.length cq, X.length, Tr.cb X), (.slice Ph bs.length ch, bs.length, Tr.cb bs), (.slice Pi bs.length ci, bs.length, Tr.cb bs), (.slice Pc NB.length cc, NB.length, Tr.cb NB), (.slice Pd NB.length cd, NB.length, Tr.cb NB), (.slice Ps FB.length cs, FB.length, Tr.cb FB), (.slice Pt FB.length ct, FB.length, Tr.cb FB)]) hb (fun r h => hr r (List.mem_cons_of_mem _ h)) BD.out BB8 (by simp))
      simp only [List.length_cons, List.length_nil, List.map_cons, List.map_nil, Nat.reduceAdd] at ALO
      clear BB8
      clear Sl SJ BD
      go_wp2_with (first | (go_at_call 19; refine LON.out.mono ?_; rintro e wo ⟨rfl, hb, hr⟩; have AC := hidden (ALO.out wo hb hr); clear hb hr LON ALO y1 y2 y3 y4) | (go_at_call 20; refine AC.out.mono ?_; rintro e wp ⟨rfl, hb⟩; have BE := hidden hb; clear hb AC))
      go_ret
      exact ⟨rfl, BE.out⟩
end Xo
end Go.Proofs.YtkfkmndhbfeagaaGreatDoor
