import Derived.Test.YtmhpgcfmllcnpaaDoorPp
namespace Go.Proofs.YtmhpgcfmllcnpaaDoor
open Go.RowKit
set_option linter.unusedVariables false
theorem pc_part (s : Nat → E4) (LV RV : Value) {w : World} {b : Nat} (h : w.rangeAt b 0 (pc s LV RV)) : w.rangeAt b 0 [.int .u64 (s 0).x0, .int .u64 (s 0).x1, .int .u64 (s 0).x2, .int .u64 (s 0).x3] ∧ w.rangeAt b 4 [.int .u64 (s 1).x0, .int .u64 (s 1).x1, .int .u64 (s 1).x2, .int .u64 (s 1).x3] ∧ w.rangeAt b 8 [.int .u64 (s 2).x0, .int .u64 (s 2).x1, .int .u64 (s 2).x2, .int .u64 (s 2).x3] ∧ w.rangeAt b 12 [.int .u64 (s 3).x0, .int .u64 (s 3).x1, .int .u64 (s 3).x2, .int .u64 (s 3).x3] ∧ w.rangeAt b 16 [.int .u64 (s 4).x0, .int .u64 (s 4).x1, .int .u64 (s 4).x2, .int .u64 (s 4).x3] ∧ w.rangeAt b 20 [.int .u64 (s 5).x0, .int .u64 (s 5).x1, .int .u64 (s 5).x2, .int .u64 (s 5).x3] ∧ w.rangeAt b 24 [.int .u64 (s 6).x0, .int .u64 (s 6).x1, .int .u64 (s 6).x2, .int .u64 (s 6).x3] ∧ w.rangeAt b 30 [.int .u64 (s 7).x0, .int .u64 (s 7).x1, .int .u64 (s 7).x2, .int .u64 (s 7).x3] ∧ w.rangeAt b 34 [.int .u64 (s 8).x0, .int .u64 (s 8).x1, .int .u64 (s 8).x2, .int .u64 (s 8).x3] := by
  refine ⟨?_, ?_, ?_, ?_, ?_, ?_, ?_, ?_, ?_⟩
  all_goals
    intro j v hv
    match j, hv with
    | 0, hv => obtain rfl := Option.some.inj hv; first | exact h 0 _ rfl | exact h 4 _ rfl | exact h 8 _ rfl | exact h 12 _ rfl | exact h 16 _ rfl | exact h 20 _ rfl | exact h 24 _ rfl | exact h 30 _ rfl | exact h 34 _ rfl
    | 1, hv => obtain rfl := Option.some.inj hv; first | exact h 1 _ rfl | exact h 5 _ rfl | exact h 9 _ rfl | exact h 13 _ rfl | exact h 17 _ rfl | exact h 21 _ rfl | exact h 25 _ rfl | exact h 31 _ rfl | exact h 35 _ rfl
    | 2, hv => obtain rfl := Option.some.inj hv; first | exact h 2 _ rfl | exact h 6 _ rfl | exact h 10 _ rfl | exact h 14 _ rfl | exact h 18 _ rfl | exact h 22 _ rfl | exact h 26 _ rfl | exact h 32 _ rfl | exact h 36 _ rfl
    | 3, hv => obtain rfl := Option.some.inj hv; first | exact h 3 _ rfl | exact h 7 _ rfl | exact h 11 _ rfl | exact h 15 _ rfl | exact h 19 _ rfl | exact h 23 _ rfl | exact h 27 _ rfl | exact h 33 _ rfl | exact h 37 _ rfl
    | j + 4, hv => cases hv
set_option maxRecDepth 100000 in
set_option maxHeartbeats 32000000 in
theorem alike_any (s s' l l' r r' : Nat → E4) (LP RP LP' RP' : Option Addr) (n cL cR cL' cR' : Nat) (w : World) (hT : Tb w) (hn : n ≤ 10) (os : ∀ k, k < 9 → (s k).ok) (os' : ∀ k, k < 9 → (s' k).ok) (ol : ∀ k, k < n → (l k).ok) (or : ∀ k, k < n → (r k).ok) (ol' : ∀ k, k < n → (l' k).ok) (or' : ∀ k, k < n → (r' k).ok)
    (hL : Lm w LP n l) (hR : Lm w RP n r) (hL' : Lm w LP' n l') (hR' : Lm w RP' n r') (B : Bool) (hB : B = true ↔ ((∀ j, j < 9 → lst (s j).n = lst (s' j).n) ∧ (∀ j, j < n → lst (l j).n = lst (l' j).n) ∧ ∀ j, j < n → lst (r j).n = lst (r' j).n)) :
    Calls Tryd.prog 8 #[.agg (pc s (.slice LP n cL) (.slice RP n cR)).toArray, .agg (pc s' (.slice LP' n cL') (.slice RP' n cR')).toArray] w fun e w' => e = .returned (.bool B) ∧ Below w.heap.size w w' := by
  obtain ⟨Q1, hQ1⟩ : ∃ P, P = pc s (.slice LP n cL) (.slice RP n cR) := ⟨_, rfl⟩
  obtain ⟨Q2, hQ2⟩ : ∃ P, P = pc s' (.slice LP' n cL') (.slice RP' n cR') := ⟨_, rfl⟩
  rw [← hQ1, ← hQ2]
  have M0 := ((Mw.start w).new Q1 35).new Q2 35
  simp only [World.size_alloc] at M0
  have X2 := (M0.r (w.heap.size, Q1) (by simp)).1
  have X3 := (M0.r (w.heap.size + 1, Q2) (by simp)).1
  have a28 := X2 28 (.slice LP n cL) (by rw [hQ1]; rfl); have a29 := X2 29 (.slice RP n cR) (by rw [hQ1]; rfl); have b28 := X3 28 (.slice LP' n cL') (by rw [hQ2]; rfl); have b29 := X3 29 (.slice RP' n cR') (by rw [hQ2]; rfl)
  simp only [Nat.zero_add] at a28 a29 b28 b29
  have C28 := hidden (And.intro a28 (And.intro a29 (And.intro b28 b29)))
  have Y2 : ((w.alloc (.cells Q1.toArray 35)).alloc (.cells Q2.toArray 35)).rangeAt w.heap.size 0 (pc s (.slice LP n cL) (.slice RP n cR)) := by rw [← hQ1]; exact X2
  have Y3 : ((w.alloc (.cells Q1.toArray 35)).alloc (.cells Q2.toArray 35)).rangeAt (w.heap.size + 1) 0 (pc s' (.slice LP' n cL') (.slice RP' n cR')) := by rw [← hQ2]; exact X3
  have R2 := hidden (pc_part s _ _ Y2)
  have R3 := hidden (pc_part s' _ _ Y3)
  have MB := hidden M0.bel
  have HL1 := hidden (hL.keep M0.bel); have HL2 := hidden (hR.keep M0.bel); have HL3 := hidden (hL'.keep M0.bel); have HL4 := hidden (hR'.keep M0.bel)
  have HT := hidden (hT.keep M0.bel)
  have HN := hidden hn
  have HO := hidden (And.intro os (And.intro os' (And.intro ol (And.intro or (And.intro ol' or')))))
  have HB := hidden hB
  clear X2 X3 Y2 Y3 M0 hL hR hL' hR' hT hn os os' ol or ol' or' hB hQ1 hQ2
  generalize hW : (w.alloc (.cells Q1.toArray 35)).alloc (.cells Q2.toArray 35) = W at a28 a29 b28 b29 C28 R2 R3 MB HL1 HL2 HL3 HL4 HT
  go_enter Tryd.func8, Tryd.ntmps8
  go_upto_region 4 with fail
  clear a28 a29 b28 b29 hW
  go_loopw [5] (fun kv w' => ∃ k : Nat, k ≤ n ∧ kv = .int .i64 (k : Int) ∧ Hid (Below W.heap.size W w' ∧ ∀ j, j < k → lst (l j).n = lst (l' j).n ∧ lst (r j).n = lst (r' j).n)) (fun k _ => n - (intOf k).toNat)
  case atStart => exact ⟨0, by omega, rfl, hidden ⟨Below.refl _ _, fun j hj => by omega⟩⟩
  case round =>
    obtain ⟨k, hk, rfl, KW⟩ := hrel
    have a28 := cell_keep C28.out.1 KW.out.1
    by_cases hkn : k < n
    · have k0 : (0 : Int) ≤ (k : Int) := by omega
      have k1 : (k : Int) < (n : Int) := by omega
      have w9 : IntKind.i64.wrap ((k : Int) + 1) = (k : Int) + 1 := IntWalk.i64_in _ (by have := HN.out; omega)
      obtain ⟨p1, q1, e1, f1⟩ := HL1.out
      obtain ⟨p2, q2, e2, f2⟩ := HL2.out
      obtain ⟨p3, q3, e3, f3⟩ := HL3.out
      obtain ⟨p4, q4, e4, f4⟩ := HL4.out
      have g1 := e1 (by omega); have g2 := e2 (by omega); have g3 := e3 (by omega); have g4 := e4 (by omega)
      have F1 := hidden (f1 (by omega)); have F2 := hidden (f2 (by omega)); have F3 := hidden (f3 (by omega)); have F4 := hidden (f4 (by omega))
      subst g1 g2 g3 g4
      clear e1 e2 e3 e4 f1 f2 f3 f4
      obtain ⟨a, ea⟩ : ∃ x, l k = x := ⟨_, rfl⟩
      obtain ⟨b, eb⟩ : ∃ x, r k = x := ⟨_, rfl⟩
      obtain ⟨c, ec⟩ : ∃ x, l' k = x := ⟨_, rfl⟩
      obtain ⟨d, ed⟩ : ∃ x, r' k = x := ⟨_, rfl⟩
      have oa : a.ok := ea ▸ HO.out.2.2.1 k hkn
      have obb : b.ok := eb ▸ HO.out.2.2.2.1 k hkn
      have oc : c.ok := ec ▸ HO.out.2.2.2.2.1 k hkn
      have od : d.ok := ed ▸ HO.out.2.2.2.2.2 k hkn
      have TT := hidden (fun x (h : Below wr.heap.size wr x) => HT.out.keep (bl_trans KW.out.1 h))
      have S1 := hidden (fun x (h : Below wr.heap.size wr x) => lSame_any a c oa oc x (TT.out x h))
      have S2 := hidden (fun x (h : Below wr.heap.size wr x) => lSame_any b d obb od x (TT.out x h))
      simp only [E4.v] at S1 S2
      have SK := hidden (fun x (h : Below wr.heap.size wr x) => by
        have hb := bl_trans KW.out.1 h
        have A := F1.out.keep hb; have Bq := F2.out.keep hb; have C := F3.out.keep hb; have D := F4.out.keep hb
        have x0 := A.c0 k hkn; have x1 := A.c1 k hkn; have x2 := A.c2 k hkn; have x3 := A.c3 k hkn
        have y0 := Bq.c0 k hkn; have y1 := Bq.c1 k hkn; have y2 := Bq.c2 k hkn; have y3 := Bq.c3 k hkn
        have z0 := C.c0 k hkn; have z1 := C.c1 k hkn; have z2 := C.c2 k hkn; have z3 := C.c3 k hkn
        have u0 := D.c0 k hkn; have u1 := D.c1 k hkn; have u2 := D.c2 k hkn; have u3 := D.c3 k hkn
        rw [ea] at x0 x1 x2 x3
        rw [eb] at y0 y1 y2 y3
        rw [ec] at z0 z1 z2 z3
        rw [ed] at u0 u1 u2 u3
        exact (And.intro h (And.intro (cell_keep C28.out.1 hb) (And.intro (cell_keep C28.out.2.1 hb) (And.intro (cell_keep C28.out.2.2.1 hb) (And.intro (cell_keep C28.out.2.2.2 hb) (And.intro x0 (And.intro x1 (And.intro x2 (And.intro x3 (And.intro y0 (And.intro y1 (And.intro y2 (And.intro y3 (And.intro z0 (And.intro z1 (And.intro z2 (And.intro z3 (And.intro u0 (And.intro u1 (And.intro u2 u3)))))))))))))))))))))
      have NOT : Hid ((¬ (lst a.n = lst c.n ∧ lst b.n = lst d.n)) → B = false) := hidden (fun hne => by
        cases hBB : B with
        | false => rfl
        | true =>
          have := HB.out.1 hBB
          exact absurd ⟨by have := this.2.1 k hkn; rwa [ea, ec] at this, by have := this.2.2 k hkn; rwa [eb, ed] at this⟩ hne)
      have EQS : Hid (lst a.n = lst c.n → lst b.n = lst d.n → ∀ j, j < k + 1 → lst (l j).n = lst (l' j).n ∧ lst (r j).n = lst (r' j).n) := hidden (fun h1 h2 j hj => by
        by_cases e : j = k
        · subst e; rw [ea, eb, ec, ed]; exact ⟨h1, h2⟩
        · exact KW.out.2 j (by omega))
      clear ea eb ec ed oa obb oc od F1 F2 F3 F4
      go_upto_region 6 with fail
      clear a28
      by_cases h1 : lst a.n = lst c.n
      · rw [h1, E4.same_self] at S1
        by_cases h2 : lst b.n = lst d.n
        · rw [h2, E4.same_self] at S2
          have EJ := hidden (EQS.out h1 h2)
          clear h1 h2 NOT EQS
          refine al6_ok _ w.heap.size (w.heap.size + 1) p1 q1 cL p2 q2 cR p3 q3 cL' p4 q4 cR' n k a b c d _ _ _ _ _ _ _ _ _ _ _ _ _ _ _ _ _ _ _ _ _ _ _ _ _ _ _ _ _ _ _ _ _ _ _ _ _ _ _ _ _ _ _ _ _ _ _ _ _ _ _ _ _ _ _ _ _ _ _ _ _ _ _ _ _ _ _ _ _ _ _ _ _ _ _ _ _ _ _ _ _ _ _ _ _ _ _ _ _ _ _ _ _ _ _ _ _ _ _ _ _ _ _ _ _ _ _ _ _ _ _ _ _ _ _ _ _ _ _ wr hkn SK S1 S2 (hidden (fun wz hz => ?_))
          have BZ := hidden (bl_trans KW.out.1 hz)
          clear hz KW SK S1 S2
          go_wp2_with fail
          go_roundw
          case rel => exact ⟨k + 1, by omega, by go_num, hidden ⟨BZ.out, EJ.out⟩⟩
          case measure => simp [intOf]; omega
        · have hs : (lst b.n).same (lst d.n) = false := by cases hx : (lst b.n).same (lst d.n) with | false => rfl | true => exact absurd ((E4.same_iff _ _).1 hx) h2
          rw [hs] at S2
          have NB := hidden (NOT.out (fun h => h2 h.2))
          clear h1 h2 NOT EQS hs
          refine al6_er _ w.heap.size (w.heap.size + 1) p1 q1 cL p2 q2 cR p3 q3 cL' p4 q4 cR' n k a b c d _ _ _ _ _ _ _ _ _ _ _ _ _ _ _ _ _ _ _ _ _ _ _ _ _ _ _ _ _ _ _ _ _ _ _ _ _ _ _ _ _ _ _ _ _ _ _ _ _ _ _ _ _ _ _ _ _ _ _ _ _ _ _ _ _ _ _ _ _ _ _ _ _ _ _ _ _ _ _ _ _ _ _ _ _ _ _ _ _ _ _ _ _ _ _ _ _ _ _ _ _ _ _ _ _ _ _ _ _ _ _ _ _ _ _ _ _ _ _ wr hkn SK S1 S2 (hidden (fun wz hz => ?_))
          have BZ := hidden (bl_trans KW.out.1 hz)
          clear hz KW SK S1 S2
          go_wp2_with fail
          refine bodyPost_ret (v := .bool false) (by simp [results, Tryd.results8, go_sem]) rfl ⟨by rw [NB.out], bl_trans MB.out BZ.out⟩
      · have hs : (lst a.n).same (lst c.n) = false := by cases hx : (lst a.n).same (lst c.n) with | false => rfl | true => exact absurd ((E4.same_iff _ _).1 hx) h1
        rw [hs] at S1
        have NB := hidden (NOT.out (fun h => h1 h.1))
        clear h1 NOT EQS hs S2
        refine al6_ne _ w.heap.size (w.heap.size + 1) p1 q1 cL p2 q2 cR p3 q3 cL' p4 q4 cR' n k a b c d _ _ _ _ _ _ _ _ _ _ _ _ _ _ _ _ _ _ _ _ _ _ _ _ _ _ _ _ _ _ _ _ _ _ _ _ _ _ _ _ _ _ _ _ _ _ _ _ _ _ _ _ _ _ _ _ _ _ _ _ _ _ _ _ _ _ _ _ _ _ _ _ _ _ _ _ _ _ _ _ _ _ _ _ _ _ _ _ _ _ _ _ _ _ _ _ _ _ _ _ _ _ _ _ _ _ _ _ _ _ _ _ _ _ _ _ _ _ _ wr hkn SK S1 (hidden (fun wz hz => ?_))
        have BZ := hidden (bl_trans KW.out.1 hz)
        clear hz KW SK S1
        go_wp2_with fail
        refine bodyPost_ret (v := .bool false) (by simp [results, Tryd.results8, go_sem]) rfl ⟨by rw [NB.out], bl_trans MB.out BZ.out⟩
    · obtain rfl : k = n := by omega
      have lq : ¬ (k : Int) < (k : Int) := by omega
      have BZ := hidden KW.out.1
      have BB := hidden (fun j (h : (lst (s j).n).same (lst (s' j).n) = false) (hj : j < 9) => (by
        cases hBB : B with
        | false => rfl
        | true => exact absurd ((E4.same_iff _ _).2 ((HB.out.1 hBB).1 j hj)) (by rw [h]; exact Bool.false_ne_true) : B = false))
      have BT := hidden (fun (h : ∀ j, j < 9 → (lst (s j).n).same (lst (s' j).n) = true) => HB.out.2 ⟨fun j hj => (E4.same_iff _ _).1 (h j hj), fun j hj => (KW.out.2 j hj).1, fun j hj => (KW.out.2 j hj).2⟩)
      have HO2 := hidden (And.intro HO.out.1 HO.out.2.1)
      clear KW HO HB HL1 HL2 HL3 HL4
      have UL : Hid (Tryd.prog.underlying 32 = _) := hidden Tryd.underlying32
      have US : Hid (Tryd.prog.underlying 24 = _) := hidden Tryd.underlying24
      cases h0 : (lst (s 0).n).same (lst (s' 0).n) with
      | false =>
        have CS0 : Hid (∀ x, Below wr.heap.size wr x → Calls Tryd.prog 21 #[.agg #[.int .u64 (s 0).x0, .int .u64 (s 0).x1, .int .u64 (s 0).x2, .int .u64 (s 0).x3], .agg #[.int .u64 (s' 0).x0, .int .u64 (s' 0).x1, .int .u64 (s' 0).x2, .int .u64 (s' 0).x3]] x fun e w' => e = .returned (.bool false) ∧ Below x.heap.size x w') := hidden (fun x h => by have := lSame_any (s 0) (s' 0) (HO2.out.1 0 (by omega)) (HO2.out.2 0 (by omega)) x (HT.out.keep (bl_trans BZ.out h)); rw [h0] at this; exact this)
        have RA0 : Hid (∀ x, Below wr.heap.size wr x → x.rangeAt w.heap.size 0 [.int .u64 (s 0).x0, .int .u64 (s 0).x1, .int .u64 (s 0).x2, .int .u64 (s 0).x3]) := hidden (fun x h => range_keep (R2.out.1) (bl_trans BZ.out h))
        have RB0 : Hid (∀ x, Below wr.heap.size wr x → x.rangeAt (w.heap.size + 1) 0 [.int .u64 (s' 0).x0, .int .u64 (s' 0).x1, .int .u64 (s' 0).x2, .int .u64 (s' 0).x3]) := hidden (fun x h => range_keep (R3.out.1) (bl_trans BZ.out h))
        have NB := hidden (BB.out 0 h0 (by omega))
        clear h0 BB BT HO2 R2 R3
        have a28 := cell_keep C28.out.1 BZ.out
        go_upto_region 9 with fail
        clear a28 lq
        refine al9_0 _ w.heap.size (w.heap.size + 1) s s' _ _ _ _ _ _ _ _ _ _ _ _ _ _ _ _ _ _ _ _ _ _ _ _ _ _ _ _ _ _ _ _ _ _ _ _ _ _ _ _ _ _ _ _ _ _ _ _ _ _ _ _ _ _ _ _ _ _ _ _ _ _ _ _ _ _ _ _ _ _ _ _ _ _ _ _ _ _ _ _ _ _ _ _ _ _ _ _ _ _ _ _ _ _ _ _ _ _ _ _ _ _ _ _ _ _ _ _ _ _ _ _ _ _ _ _ _ _ _ wr CS0 RA0 RB0 (hidden (fun _ _ _ _ _ _ _ _ _ _ _ _ _ _ _ _ _ _ _ _ _ _ _ _ _ _ _ _ _ _ _ _ _ _ _ _ _ _ _ _ _ _ _ _ _ _ _ _ _ _ _ _ _ _ _ _ _ _ _ _ _ _ _ _ _ _ wz hz => ?_))
        have BY := hidden (bl_trans BZ.out hz)
        clear hz CS0 RA0 RB0
        go_wp2_with fail
        refine bodyPost_ret (v := .bool false) (by simp [results, Tryd.results8, go_sem]) rfl ⟨by rw [NB.out], bl_trans MB.out BY.out⟩
      | true =>
        cases h1 : (lst (s 1).n).same (lst (s' 1).n) with
        | false =>
          have CS0 : Hid (∀ x, Below wr.heap.size wr x → Calls Tryd.prog 21 #[.agg #[.int .u64 (s 0).x0, .int .u64 (s 0).x1, .int .u64 (s 0).x2, .int .u64 (s 0).x3], .agg #[.int .u64 (s' 0).x0, .int .u64 (s' 0).x1, .int .u64 (s' 0).x2, .int .u64 (s' 0).x3]] x fun e w' => e = .returned (.bool true) ∧ Below x.heap.size x w') := hidden (fun x h => by have := lSame_any (s 0) (s' 0) (HO2.out.1 0 (by omega)) (HO2.out.2 0 (by omega)) x (HT.out.keep (bl_trans BZ.out h)); rw [h0] at this; exact this)
          have RA0 : Hid (∀ x, Below wr.heap.size wr x → x.rangeAt w.heap.size 0 [.int .u64 (s 0).x0, .int .u64 (s 0).x1, .int .u64 (s 0).x2, .int .u64 (s 0).x3]) := hidden (fun x h => range_keep (R2.out.1) (bl_trans BZ.out h))
          have RB0 : Hid (∀ x, Below wr.heap.size wr x → x.rangeAt (w.heap.size + 1) 0 [.int .u64 (s' 0).x0, .int .u64 (s' 0).x1, .int .u64 (s' 0).x2, .int .u64 (s' 0).x3]) := hidden (fun x h => range_keep (R3.out.1) (bl_trans BZ.out h))
          have CS1 : Hid (∀ x, Below wr.heap.size wr x → Calls Tryd.prog 21 #[.agg #[.int .u64 (s 1).x0, .int .u64 (s 1).x1, .int .u64 (s 1).x2, .int .u64 (s 1).x3], .agg #[.int .u64 (s' 1).x0, .int .u64 (s' 1).x1, .int .u64 (s' 1).x2, .int .u64 (s' 1).x3]] x fun e w' => e = .returned (.bool false) ∧ Below x.heap.size x w') := hidden (fun x h => by have := lSame_any (s 1) (s' 1) (HO2.out.1 1 (by omega)) (HO2.out.2 1 (by omega)) x (HT.out.keep (bl_trans BZ.out h)); rw [h1] at this; exact this)
          have RA1 : Hid (∀ x, Below wr.heap.size wr x → x.rangeAt w.heap.size 4 [.int .u64 (s 1).x0, .int .u64 (s 1).x1, .int .u64 (s 1).x2, .int .u64 (s 1).x3]) := hidden (fun x h => range_keep (R2.out.2.1) (bl_trans BZ.out h))
          have RB1 : Hid (∀ x, Below wr.heap.size wr x → x.rangeAt (w.heap.size + 1) 4 [.int .u64 (s' 1).x0, .int .u64 (s' 1).x1, .int .u64 (s' 1).x2, .int .u64 (s' 1).x3]) := hidden (fun x h => range_keep (R3.out.2.1) (bl_trans BZ.out h))
          have NB := hidden (BB.out 1 h1 (by omega))
          clear h0 h1 BB BT HO2 R2 R3
          have a28 := cell_keep C28.out.1 BZ.out
          go_upto_region 9 with fail
          clear a28 lq
          refine al9_1 _ w.heap.size (w.heap.size + 1) s s' _ _ _ _ _ _ _ _ _ _ _ _ _ _ _ _ _ _ _ _ _ _ _ _ _ _ _ _ _ _ _ _ _ _ _ _ _ _ _ _ _ _ _ _ _ _ _ _ _ _ _ _ _ _ _ _ _ _ _ _ _ _ _ _ _ _ _ _ _ _ _ _ _ _ _ _ _ _ _ _ _ _ _ _ _ _ _ _ _ _ _ _ _ _ _ _ _ _ _ _ _ _ _ _ _ _ _ _ _ _ _ _ _ _ _ _ _ _ _ wr CS0 RA0 RB0 CS1 RA1 RB1 (hidden (fun _ _ _ _ _ _ _ _ _ _ _ _ _ _ _ _ _ _ _ _ _ _ _ _ _ _ _ _ _ _ _ _ _ _ _ _ _ _ _ _ _ _ _ _ _ _ _ _ _ _ _ _ _ _ _ _ _ _ _ _ _ _ _ _ _ _ wz hz => ?_))
          have BY := hidden (bl_trans BZ.out hz)
          clear hz CS0 RA0 RB0 CS1 RA1 RB1
          go_wp2_with fail
          refine bodyPost_ret (v := .bool false) (by simp [results, Tryd.results8, go_sem]) rfl ⟨by rw [NB.out], bl_trans MB.out BY.out⟩
        | true =>
          cases h2 : (lst (s 2).n).same (lst (s' 2).n) with
          | false =>
            have CS0 : Hid (∀ x, Below wr.heap.size wr x → Calls Tryd.prog 21 #[.agg #[.int .u64 (s 0).x0, .int .u64 (s 0).x1, .int .u64 (s 0).x2, .int .u64 (s 0).x3], .agg #[.int .u64 (s' 0).x0, .int .u64 (s' 0).x1, .int .u64 (s' 0).x2, .int .u64 (s' 0).x3]] x fun e w' => e = .returned (.bool true) ∧ Below x.heap.size x w') := hidden (fun x h => by have := lSame_any (s 0) (s' 0) (HO2.out.1 0 (by omega)) (HO2.out.2 0 (by omega)) x (HT.out.keep (bl_trans BZ.out h)); rw [h0] at this; exact this)
            have RA0 : Hid (∀ x, Below wr.heap.size wr x → x.rangeAt w.heap.size 0 [.int .u64 (s 0).x0, .int .u64 (s 0).x1, .int .u64 (s 0).x2, .int .u64 (s 0).x3]) := hidden (fun x h => range_keep (R2.out.1) (bl_trans BZ.out h))
            have RB0 : Hid (∀ x, Below wr.heap.size wr x → x.rangeAt (w.heap.size + 1) 0 [.int .u64 (s' 0).x0, .int .u64 (s' 0).x1, .int .u64 (s' 0).x2, .int .u64 (s' 0).x3]) := hidden (fun x h => range_keep (R3.out.1) (bl_trans BZ.out h))
            have CS1 : Hid (∀ x, Below wr.heap.size wr x → Calls Tryd.prog 21 #[.agg #[.int .u64 (s 1).x0, .int .u64 (s 1).x1, .int .u64 (s 1).x2, .int .u64 (s 1).x3], .agg #[.int .u64 (s' 1).x0, .int .u64 (s' 1).x1, .int .u64 (s' 1).x2, .int .u64 (s' 1).x3]] x fun e w' => e = .returned (.bool true) ∧ Below x.heap.size x w') := hidden (fun x h => by have := lSame_any (s 1) (s' 1) (HO2.out.1 1 (by omega)) (HO2.out.2 1 (by omega)) x (HT.out.keep (bl_trans BZ.out h)); rw [h1] at this; exact this)
            have RA1 : Hid (∀ x, Below wr.heap.size wr x → x.rangeAt w.heap.size 4 [.int .u64 (s 1).x0, .int .u64 (s 1).x1, .int .u64 (s 1).x2, .int .u64 (s 1).x3]) := hidden (fun x h => range_keep (R2.out.2.1) (bl_trans BZ.out h))
            have RB1 : Hid (∀ x, Below wr.heap.size wr x → x.rangeAt (w.heap.size + 1) 4 [.int .u64 (s' 1).x0, .int .u64 (s' 1).x1, .int .u64 (s' 1).x2, .int .u64 (s' 1).x3]) := hidden (fun x h => range_keep (R3.out.2.1) (bl_trans BZ.out h))
            have CS2 : Hid (∀ x, Below wr.heap.size wr x → Calls Tryd.prog 21 #[.agg #[.int .u64 (s 2).x0, .int .u64 (s 2).x1, .int .u64 (s 2).x2, .int .u64 (s 2).x3], .agg #[.int .u64 (s' 2).x0, .int .u64 (s' 2).x1, .int .u64 (s' 2).x2, .int .u64 (s' 2).x3]] x fun e w' => e = .returned (.bool false) ∧ Below x.heap.size x w') := hidden (fun x h => by have := lSame_any (s 2) (s' 2) (HO2.out.1 2 (by omega)) (HO2.out.2 2 (by omega)) x (HT.out.keep (bl_trans BZ.out h)); rw [h2] at this; exact this)
            have RA2 : Hid (∀ x, Below wr.heap.size wr x → x.rangeAt w.heap.size 8 [.int .u64 (s 2).x0, .int .u64 (s 2).x1, .int .u64 (s 2).x2, .int .u64 (s 2).x3]) := hidden (fun x h => range_keep (R2.out.2.2.1) (bl_trans BZ.out h))
            have RB2 : Hid (∀ x, Below wr.heap.size wr x → x.rangeAt (w.heap.size + 1) 8 [.int .u64 (s' 2).x0, .int .u64 (s' 2).x1, .int .u64 (s' 2).x2, .int .u64 (s' 2).x3]) := hidden (fun x h => range_keep (R3.out.2.2.1) (bl_trans BZ.out h))
            have NB := hidden (BB.out 2 h2 (by omega))
            clear h0 h1 h2 BB BT HO2 R2 R3
            have a28 := cell_keep C28.out.1 BZ.out
            go_upto_region 9 with fail
            clear a28 lq
            refine al9_2 _ w.heap.size (w.heap.size + 1) s s' _ _ _ _ _ _ _ _ _ _ _ _ _ _ _ _ _ _ _ _ _ _ _ _ _ _ _ _ _ _ _ _ _ _ _ _ _ _ _ _ _ _ _ _ _ _ _ _ _ _ _ _ _ _ _ _ _ _ _ _ _ _ _ _ _ _ _ _ _ _ _ _ _ _ _ _ _ _ _ _ _ _ _ _ _ _ _ _ _ _ _ _ _ _ _ _ _ _ _ _ _ _ _ _ _ _ _ _ _ _ _ _ _ _ _ _ _ _ _ wr CS0 RA0 RB0 CS1 RA1 RB1 CS2 RA2 RB2 (hidden (fun _ _ _ _ _ _ _ _ _ _ _ _ _ _ _ _ _ _ _ _ _ _ _ _ _ _ _ _ _ _ _ _ _ _ _ _ _ _ _ _ _ _ _ _ _ _ _ _ _ _ _ _ _ _ _ _ _ _ _ _ _ _ _ _ _ _ wz hz => ?_))
            have BY := hidden (bl_trans BZ.out hz)
            clear hz CS0 RA0 RB0 CS1 RA1 RB1 CS2 RA2 RB2
            go_wp2_with fail
            refine bodyPost_ret (v := .bool false) (by simp [results, Tryd.results8, go_sem]) rfl ⟨by rw [NB.out], bl_trans MB.out BY.out⟩
          | true =>
            cases h3 : (lst (s 3).n).same (lst (s' 3).n) with
            | false =>
              have CS0 : Hid (∀ x, Below wr.heap.size wr x → Calls Tryd.prog 21 #[.agg #[.int .u64 (s 0).x0, .int .u64 (s 0).x1, .int .u64 (s 0).x2, .int .u64 (s 0).x3], .agg #[.int .u64 (s' 0).x0, .int .u64 (s' 0).x1, .int .u64 (s' 0).x2, .int .u64 (s' 0).x3]] x fun e w' => e = .returned (.bool true) ∧ Below x.heap.size x w') := hidden (fun x h => by have := lSame_any (s 0) (s' 0) (HO2.out.1 0 (by omega)) (HO2.out.2 0 (by omega)) x (HT.out.keep (bl_trans BZ.out h)); rw [h0] at this; exact this)
              have RA0 : Hid (∀ x, Below wr.heap.size wr x → x.rangeAt w.heap.size 0 [.int .u64 (s 0).x0, .int .u64 (s 0).x1, .int .u64 (s 0).x2, .int .u64 (s 0).x3]) := hidden (fun x h => range_keep (R2.out.1) (bl_trans BZ.out h))
              have RB0 : Hid (∀ x, Below wr.heap.size wr x → x.rangeAt (w.heap.size + 1) 0 [.int .u64 (s' 0).x0, .int .u64 (s' 0).x1, .int .u64 (s' 0).x2, .int .u64 (s' 0).x3]) := hidden (fun x h => range_keep (R3.out.1) (bl_trans BZ.out h))
              have CS1 : Hid (∀ x, Below wr.heap.size wr x → Calls Tryd.prog 21 #[.agg #[.int .u64 (s 1).x0, .int .u64 (s 1).x1, .int .u64 (s 1).x2, .int .u64 (s 1).x3], .agg #[.int .u64 (s' 1).x0, .int .u64 (s' 1).x1, .int .u64 (s' 1).x2, .int .u64 (s' 1).x3]] x fun e w' => e = .returned (.bool true) ∧ Below x.heap.size x w') := hidden (fun x h => by have := lSame_any (s 1) (s' 1) (HO2.out.1 1 (by omega)) (HO2.out.2 1 (by omega)) x (HT.out.keep (bl_trans BZ.out h)); rw [h1] at this; exact this)
              have RA1 : Hid (∀ x, Below wr.heap.size wr x → x.rangeAt w.heap.size 4 [.int .u64 (s 1).x0, .int .u64 (s 1).x1, .int .u64 (s 1).x2, .int .u64 (s 1).x3]) := hidden (fun x h => range_keep (R2.out.2.1) (bl_trans BZ.out h))
              have RB1 : Hid (∀ x, Below wr.heap.size wr x → x.rangeAt (w.heap.size + 1) 4 [.int .u64 (s' 1).x0, .int .u64 (s' 1).x1, .int .u64 (s' 1).x2, .int .u64 (s' 1).x3]) := hidden (fun x h => range_keep (R3.out.2.1) (bl_trans BZ.out h))
              have CS2 : Hid (∀ x, Below wr.heap.size wr x → Calls Tryd.prog 21 #[.agg #[.int .u64 (s 2).x0, .int .u64 (s 2).x1, .int .u64 (s 2).x2, .int .u64 (s 2).x3], .agg #[.int .u64 (s' 2).x0, .int .u64 (s' 2).x1, .int .u64 (s' 2).x2, .int .u64 (s' 2).x3]] x fun e w' => e = .returned (.bool true) ∧ Below x.heap.size x w') := hidden (fun x h => by have := lSame_any (s 2) (s' 2) (HO2.out.1 2 (by omega)) (HO2.out.2 2 (by omega)) x (HT.out.keep (bl_trans BZ.out h)); rw [h2] at this; exact this)
              have RA2 : Hid (∀ x, Below wr.heap.size wr x → x.rangeAt w.heap.size 8 [.int .u64 (s 2).x0, .int .u64 (s 2).x1, .int .u64 (s 2).x2, .int .u64 (s 2).x3]) := hidden (fun x h => range_keep (R2.out.2.2.1) (bl_trans BZ.out h))
              have RB2 : Hid (∀ x, Below wr.heap.size wr x → x.rangeAt (w.heap.size + 1) 8 [.int .u64 (s' 2).x0, .int .u64 (s' 2).x1, .int .u64 (s' 2).x2, .int .u64 (s' 2).x3]) := hidden (fun x h => range_keep (R3.out.2.2.1) (bl_trans BZ.out h))
              have CS3 : Hid (∀ x, Below wr.heap.size wr x → Calls Tryd.prog 21 #[.agg #[.int .u64 (s 3).x0, .int .u64 (s 3).x1, .int .u64 (s 3).x2, .int .u64 (s 3).x3], .agg #[.int .u64 (s' 3).x0, .int .u64 (s' 3).x1, .int .u64 (s' 3).x2, .int .u64 (s' 3).x3]] x fun e w' => e = .returned (.bool false) ∧ Below x.heap.size x w') := hidden (fun x h => by have := lSame_any (s 3) (s' 3) (HO2.out.1 3 (by omega)) (HO2.out.2 3 (by omega)) x (HT.out.keep (bl_trans BZ.out h)); rw [h3] at this; exact this)
              have RA3 : Hid (∀ x, Below wr.heap.size wr x → x.rangeAt w.heap.size 12 [.int .u64 (s 3).x0, .int .u64 (s 3).x1, .int .u64 (s 3).x2, .int .u64 (s 3).x3]) := hidden (fun x h => range_keep (R2.out.2.2.2.1) (bl_trans BZ.out h))
              have RB3 : Hid (∀ x, Below wr.heap.size wr x → x.rangeAt (w.heap.size + 1) 12 [.int .u64 (s' 3).x0, .int .u64 (s' 3).x1, .int .u64 (s' 3).x2, .int .u64 (s' 3).x3]) := hidden (fun x h => range_keep (R3.out.2.2.2.1) (bl_trans BZ.out h))
              have NB := hidden (BB.out 3 h3 (by omega))
              clear h0 h1 h2 h3 BB BT HO2 R2 R3
              have a28 := cell_keep C28.out.1 BZ.out
              go_upto_region 9 with fail
              clear a28 lq
              refine al9_3 _ w.heap.size (w.heap.size + 1) s s' _ _ _ _ _ _ _ _ _ _ _ _ _ _ _ _ _ _ _ _ _ _ _ _ _ _ _ _ _ _ _ _ _ _ _ _ _ _ _ _ _ _ _ _ _ _ _ _ _ _ _ _ _ _ _ _ _ _ _ _ _ _ _ _ _ _ _ _ _ _ _ _ _ _ _ _ _ _ _ _ _ _ _ _ _ _ _ _ _ _ _ _ _ _ _ _ _ _ _ _ _ _ _ _ _ _ _ _ _ _ _ _ _ _ _ _ _ _ _ wr CS0 RA0 RB0 CS1 RA1 RB1 CS2 RA2 RB2 CS3 RA3 RB3 (hidden (fun _ _ _ _ _ _ _ _ _ _ _ _ _ _ _ _ _ _ _ _ _ _ _ _ _ _ _ _ _ _ _ _ _ _ _ _ _ _ _ _ _ _ _ _ _ _ _ _ _ _ _ _ _ _ _ _ _ _ _ _ _ _ _ _ _ _ wz hz => ?_))
              have BY := hidden (bl_trans BZ.out hz)
              clear hz CS0 RA0 RB0 CS1 RA1 RB1 CS2 RA2 RB2 CS3 RA3 RB3
              go_wp2_with fail
              refine bodyPost_ret (v := .bool false) (by simp [results, Tryd.results8, go_sem]) rfl ⟨by rw [NB.out], bl_trans MB.out BY.out⟩
            | true =>
              cases h4 : (lst (s 4).n).same (lst (s' 4).n) with
              | false =>
                have CS0 : Hid (∀ x, Below wr.heap.size wr x → Calls Tryd.prog 21 #[.agg #[.int .u64 (s 0).x0, .int .u64 (s 0).x1, .int .u64 (s 0).x2, .int .u64 (s 0).x3], .agg #[.int .u64 (s' 0).x0, .int .u64 (s' 0).x1, .int .u64 (s' 0).x2, .int .u64 (s' 0).x3]] x fun e w' => e = .returned (.bool true) ∧ Below x.heap.size x w') := hidden (fun x h => by have := lSame_any (s 0) (s' 0) (HO2.out.1 0 (by omega)) (HO2.out.2 0 (by omega)) x (HT.out.keep (bl_trans BZ.out h)); rw [h0] at this; exact this)
                have RA0 : Hid (∀ x, Below wr.heap.size wr x → x.rangeAt w.heap.size 0 [.int .u64 (s 0).x0, .int .u64 (s 0).x1, .int .u64 (s 0).x2, .int .u64 (s 0).x3]) := hidden (fun x h => range_keep (R2.out.1) (bl_trans BZ.out h))
                have RB0 : Hid (∀ x, Below wr.heap.size wr x → x.rangeAt (w.heap.size + 1) 0 [.int .u64 (s' 0).x0, .int .u64 (s' 0).x1, .int .u64 (s' 0).x2, .int .u64 (s' 0).x3]) := hidden (fun x h => range_keep (R3.out.1) (bl_trans BZ.out h))
                have CS1 : Hid (∀ x, Below wr.heap.size wr x → Calls Tryd.prog 21 #[.agg #[.int .u64 (s 1).x0, .int .u64 (s 1).x1, .int .u64 (s 1).x2, .int .u64 (s 1).x3], .agg #[.int .u64 (s' 1).x0, .int .u64 (s' 1).x1, .int .u64 (s' 1).x2, .int .u64 (s' 1).x3]] x fun e w' => e = .returned (.bool true) ∧ Below x.heap.size x w') := hidden (fun x h => by have := lSame_any (s 1) (s' 1) (HO2.out.1 1 (by omega)) (HO2.out.2 1 (by omega)) x (HT.out.keep (bl_trans BZ.out h)); rw [h1] at this; exact this)
                have RA1 : Hid (∀ x, Below wr.heap.size wr x → x.rangeAt w.heap.size 4 [.int .u64 (s 1).x0, .int .u64 (s 1).x1, .int .u64 (s 1).x2, .int .u64 (s 1).x3]) := hidden (fun x h => range_keep (R2.out.2.1) (bl_trans BZ.out h))
                have RB1 : Hid (∀ x, Below wr.heap.size wr x → x.rangeAt (w.heap.size + 1) 4 [.int .u64 (s' 1).x0, .int .u64 (s' 1).x1, .int .u64 (s' 1).x2, .int .u64 (s' 1).x3]) := hidden (fun x h => range_keep (R3.out.2.1) (bl_trans BZ.out h))
                have CS2 : Hid (∀ x, Below wr.heap.size wr x → Calls Tryd.prog 21 #[.agg #[.int .u64 (s 2).x0, .int .u64 (s 2).x1, .int .u64 (s 2).x2, .int .u64 (s 2).x3], .agg #[.int .u64 (s' 2).x0, .int .u64 (s' 2).x1, .int .u64 (s' 2).x2, .int .u64 (s' 2).x3]] x fun e w' => e = .returned (.bool true) ∧ Below x.heap.size x w') := hidden (fun x h => by have := lSame_any (s 2) (s' 2) (HO2.out.1 2 (by omega)) (HO2.out.2 2 (by omega)) x (HT.out.keep (bl_trans BZ.out h)); rw [h2] at this; exact this)
                have RA2 : Hid (∀ x, Below wr.heap.size wr x → x.rangeAt w.heap.size 8 [.int .u64 (s 2).x0, .int .u64 (s 2).x1, .int .u64 (s 2).x2, .int .u64 (s 2).x3]) := hidden (fun x h => range_keep (R2.out.2.2.1) (bl_trans BZ.out h))
                have RB2 : Hid (∀ x, Below wr.heap.size wr x → x.rangeAt (w.heap.size + 1) 8 [.int .u64 (s' 2).x0, .int .u64 (s' 2).x1, .int .u64 (s' 2).x2, .int .u64 (s' 2).x3]) := hidden (fun x h => range_keep (R3.out.2.2.1) (bl_trans BZ.out h))
                have CS3 : Hid (∀ x, Below wr.heap.size wr x → Calls Tryd.prog 21 #[.agg #[.int .u64 (s 3).x0, .int .u64 (s 3).x1, .int .u64 (s 3).x2, .int .u64 (s 3).x3], .agg #[.int .u64 (s' 3).x0, .int .u64 (s' 3).x1, .int .u64 (s' 3).x2, .int .u64 (s' 3).x3]] x fun e w' => e = .returned (.bool true) ∧ Below x.heap.size x w') := hidden (fun x h => by have := lSame_any (s 3) (s' 3) (HO2.out.1 3 (by omega)) (HO2.out.2 3 (by omega)) x (HT.out.keep (bl_trans BZ.out h)); rw [h3] at this; exact this)
                have RA3 : Hid (∀ x, Below wr.heap.size wr x → x.rangeAt w.heap.size 12 [.int .u64 (s 3).x0, .int .u64 (s 3).x1, .int .u64 (s 3).x2, .int .u64 (s 3).x3]) := hidden (fun x h => range_keep (R2.out.2.2.2.1) (bl_trans BZ.out h))
                have RB3 : Hid (∀ x, Below wr.heap.size wr x → x.rangeAt (w.heap.size + 1) 12 [.int .u64 (s' 3).x0, .int .u64 (s' 3).x1, .int .u64 (s' 3).x2, .int .u64 (s' 3).x3]) := hidden (fun x h => range_keep (R3.out.2.2.2.1) (bl_trans BZ.out h))
                have CS4 : Hid (∀ x, Below wr.heap.size wr x → Calls Tryd.prog 22 #[.agg #[.int .u64 (s 4).x0, .int .u64 (s 4).x1, .int .u64 (s 4).x2, .int .u64 (s 4).x3], .agg #[.int .u64 (s' 4).x0, .int .u64 (s' 4).x1, .int .u64 (s' 4).x2, .int .u64 (s' 4).x3]] x fun e w' => e = .returned (.bool false) ∧ Below x.heap.size x w') := hidden (fun x h => by have := alikeK (s 4) (s' 4) (HO2.out.1 4 (by omega)) (HO2.out.2 4 (by omega)) x (HT.out.keep (bl_trans BZ.out h)); rw [h4] at this; exact this)
                have RA4 : Hid (∀ x, Below wr.heap.size wr x → x.rangeAt w.heap.size 16 [.int .u64 (s 4).x0, .int .u64 (s 4).x1, .int .u64 (s 4).x2, .int .u64 (s 4).x3]) := hidden (fun x h => range_keep (R2.out.2.2.2.2.1) (bl_trans BZ.out h))
                have RB4 : Hid (∀ x, Below wr.heap.size wr x → x.rangeAt (w.heap.size + 1) 16 [.int .u64 (s' 4).x0, .int .u64 (s' 4).x1, .int .u64 (s' 4).x2, .int .u64 (s' 4).x3]) := hidden (fun x h => range_keep (R3.out.2.2.2.2.1) (bl_trans BZ.out h))
                have NB := hidden (BB.out 4 h4 (by omega))
                clear h0 h1 h2 h3 h4 BB BT HO2 R2 R3
                have a28 := cell_keep C28.out.1 BZ.out
                go_upto_region 9 with fail
                clear a28 lq
                refine al9_4 _ w.heap.size (w.heap.size + 1) s s' _ _ _ _ _ _ _ _ _ _ _ _ _ _ _ _ _ _ _ _ _ _ _ _ _ _ _ _ _ _ _ _ _ _ _ _ _ _ _ _ _ _ _ _ _ _ _ _ _ _ _ _ _ _ _ _ _ _ _ _ _ _ _ _ _ _ _ _ _ _ _ _ _ _ _ _ _ _ _ _ _ _ _ _ _ _ _ _ _ _ _ _ _ _ _ _ _ _ _ _ _ _ _ _ _ _ _ _ _ _ _ _ _ _ _ _ _ _ _ wr CS0 RA0 RB0 CS1 RA1 RB1 CS2 RA2 RB2 CS3 RA3 RB3 CS4 RA4 RB4 (hidden (fun _ _ _ _ _ _ _ _ _ _ _ _ _ _ _ _ _ _ _ _ _ _ _ _ _ _ _ _ _ _ _ _ _ _ _ _ _ _ _ _ _ _ _ _ _ _ _ _ _ _ _ _ _ _ _ _ _ _ _ _ _ _ _ _ _ _ wz hz => ?_))
                have BY := hidden (bl_trans BZ.out hz)
                clear hz CS0 RA0 RB0 CS1 RA1 RB1 CS2 RA2 RB2 CS3 RA3 RB3 CS4 RA4 RB4
                go_wp2_with fail
                refine bodyPost_ret (v := .bool false) (by simp [results, Tryd.results8, go_sem]) rfl ⟨by rw [NB.out], bl_trans MB.out BY.out⟩
              | true =>
                cases h5 : (lst (s 5).n).same (lst (s' 5).n) with
                | false =>
                  have CS0 : Hid (∀ x, Below wr.heap.size wr x → Calls Tryd.prog 21 #[.agg #[.int .u64 (s 0).x0, .int .u64 (s 0).x1, .int .u64 (s 0).x2, .int .u64 (s 0).x3], .agg #[.int .u64 (s' 0).x0, .int .u64 (s' 0).x1, .int .u64 (s' 0).x2, .int .u64 (s' 0).x3]] x fun e w' => e = .returned (.bool true) ∧ Below x.heap.size x w') := hidden (fun x h => by have := lSame_any (s 0) (s' 0) (HO2.out.1 0 (by omega)) (HO2.out.2 0 (by omega)) x (HT.out.keep (bl_trans BZ.out h)); rw [h0] at this; exact this)
                  have RA0 : Hid (∀ x, Below wr.heap.size wr x → x.rangeAt w.heap.size 0 [.int .u64 (s 0).x0, .int .u64 (s 0).x1, .int .u64 (s 0).x2, .int .u64 (s 0).x3]) := hidden (fun x h => range_keep (R2.out.1) (bl_trans BZ.out h))
                  have RB0 : Hid (∀ x, Below wr.heap.size wr x → x.rangeAt (w.heap.size + 1) 0 [.int .u64 (s' 0).x0, .int .u64 (s' 0).x1, .int .u64 (s' 0).x2, .int .u64 (s' 0).x3]) := hidden (fun x h => range_keep (R3.out.1) (bl_trans BZ.out h))
                  have CS1 : Hid (∀ x, Below wr.heap.size wr x → Calls Tryd.prog 21 #[.agg #[.int .u64 (s 1).x0, .int .u64 (s 1).x1, .int .u64 (s 1).x2, .int .u64 (s 1).x3], .agg #[.int .u64 (s' 1).x0, .int .u64 (s' 1).x1, .int .u64 (s' 1).x2, .int .u64 (s' 1).x3]] x fun e w' => e = .returned (.bool true) ∧ Below x.heap.size x w') := hidden (fun x h => by have := lSame_any (s 1) (s' 1) (HO2.out.1 1 (by omega)) (HO2.out.2 1 (by omega)) x (HT.out.keep (bl_trans BZ.out h)); rw [h1] at this; exact this)
                  have RA1 : Hid (∀ x, Below wr.heap.size wr x → x.rangeAt w.heap.size 4 [.int .u64 (s 1).x0, .int .u64 (s 1).x1, .int .u64 (s 1).x2, .int .u64 (s 1).x3]) := hidden (fun x h => range_keep (R2.out.2.1) (bl_trans BZ.out h))
                  have RB1 : Hid (∀ x, Below wr.heap.size wr x → x.rangeAt (w.heap.size + 1) 4 [.int .u64 (s' 1).x0, .int .u64 (s' 1).x1, .int .u64 (s' 1).x2, .int .u64 (s' 1).x3]) := hidden (fun x h => range_keep (R3.out.2.1) (bl_trans BZ.out h))
                  have CS2 : Hid (∀ x, Below wr.heap.size wr x → Calls Tryd.prog 21 #[.agg #[.int .u64 (s 2).x0, .int .u64 (s 2).x1, .int .u64 (s 2).x2, .int .u64 (s 2).x3], .agg #[.int .u64 (s' 2).x0, .int .u64 (s' 2).x1, .int .u64 (s' 2).x2, .int .u64 (s' 2).x3]] x fun e w' => e = .returned (.bool true) ∧ Below x.heap.size x w') := hidden (fun x h => by have := lSame_any (s 2) (s' 2) (HO2.out.1 2 (by omega)) (HO2.out.2 2 (by omega)) x (HT.out.keep (bl_trans BZ.out h)); rw [h2] at this; exact this)
                  have RA2 : Hid (∀ x, Below wr.heap.size wr x → x.rangeAt w.heap.size 8 [.int .u64 (s 2).x0, .int .u64 (s 2).x1, .int .u64 (s 2).x2, .int .u64 (s 2).x3]) := hidden (fun x h => range_keep (R2.out.2.2.1) (bl_trans BZ.out h))
                  have RB2 : Hid (∀ x, Below wr.heap.size wr x → x.rangeAt (w.heap.size + 1) 8 [.int .u64 (s' 2).x0, .int .u64 (s' 2).x1, .int .u64 (s' 2).x2, .int .u64 (s' 2).x3]) := hidden (fun x h => range_keep (R3.out.2.2.1) (bl_trans BZ.out h))
                  have CS3 : Hid (∀ x, Below wr.heap.size wr x → Calls Tryd.prog 21 #[.agg #[.int .u64 (s 3).x0, .int .u64 (s 3).x1, .int .u64 (s 3).x2, .int .u64 (s 3).x3], .agg #[.int .u64 (s' 3).x0, .int .u64 (s' 3).x1, .int .u64 (s' 3).x2, .int .u64 (s' 3).x3]] x fun e w' => e = .returned (.bool true) ∧ Below x.heap.size x w') := hidden (fun x h => by have := lSame_any (s 3) (s' 3) (HO2.out.1 3 (by omega)) (HO2.out.2 3 (by omega)) x (HT.out.keep (bl_trans BZ.out h)); rw [h3] at this; exact this)
                  have RA3 : Hid (∀ x, Below wr.heap.size wr x → x.rangeAt w.heap.size 12 [.int .u64 (s 3).x0, .int .u64 (s 3).x1, .int .u64 (s 3).x2, .int .u64 (s 3).x3]) := hidden (fun x h => range_keep (R2.out.2.2.2.1) (bl_trans BZ.out h))
                  have RB3 : Hid (∀ x, Below wr.heap.size wr x → x.rangeAt (w.heap.size + 1) 12 [.int .u64 (s' 3).x0, .int .u64 (s' 3).x1, .int .u64 (s' 3).x2, .int .u64 (s' 3).x3]) := hidden (fun x h => range_keep (R3.out.2.2.2.1) (bl_trans BZ.out h))
                  have CS4 : Hid (∀ x, Below wr.heap.size wr x → Calls Tryd.prog 22 #[.agg #[.int .u64 (s 4).x0, .int .u64 (s 4).x1, .int .u64 (s 4).x2, .int .u64 (s 4).x3], .agg #[.int .u64 (s' 4).x0, .int .u64 (s' 4).x1, .int .u64 (s' 4).x2, .int .u64 (s' 4).x3]] x fun e w' => e = .returned (.bool true) ∧ Below x.heap.size x w') := hidden (fun x h => by have := alikeK (s 4) (s' 4) (HO2.out.1 4 (by omega)) (HO2.out.2 4 (by omega)) x (HT.out.keep (bl_trans BZ.out h)); rw [h4] at this; exact this)
                  have RA4 : Hid (∀ x, Below wr.heap.size wr x → x.rangeAt w.heap.size 16 [.int .u64 (s 4).x0, .int .u64 (s 4).x1, .int .u64 (s 4).x2, .int .u64 (s 4).x3]) := hidden (fun x h => range_keep (R2.out.2.2.2.2.1) (bl_trans BZ.out h))
                  have RB4 : Hid (∀ x, Below wr.heap.size wr x → x.rangeAt (w.heap.size + 1) 16 [.int .u64 (s' 4).x0, .int .u64 (s' 4).x1, .int .u64 (s' 4).x2, .int .u64 (s' 4).x3]) := hidden (fun x h => range_keep (R3.out.2.2.2.2.1) (bl_trans BZ.out h))
                  have CS5 : Hid (∀ x, Below wr.heap.size wr x → Calls Tryd.prog 22 #[.agg #[.int .u64 (s 5).x0, .int .u64 (s 5).x1, .int .u64 (s 5).x2, .int .u64 (s 5).x3], .agg #[.int .u64 (s' 5).x0, .int .u64 (s' 5).x1, .int .u64 (s' 5).x2, .int .u64 (s' 5).x3]] x fun e w' => e = .returned (.bool false) ∧ Below x.heap.size x w') := hidden (fun x h => by have := alikeK (s 5) (s' 5) (HO2.out.1 5 (by omega)) (HO2.out.2 5 (by omega)) x (HT.out.keep (bl_trans BZ.out h)); rw [h5] at this; exact this)
                  have RA5 : Hid (∀ x, Below wr.heap.size wr x → x.rangeAt w.heap.size 20 [.int .u64 (s 5).x0, .int .u64 (s 5).x1, .int .u64 (s 5).x2, .int .u64 (s 5).x3]) := hidden (fun x h => range_keep (R2.out.2.2.2.2.2.1) (bl_trans BZ.out h))
                  have RB5 : Hid (∀ x, Below wr.heap.size wr x → x.rangeAt (w.heap.size + 1) 20 [.int .u64 (s' 5).x0, .int .u64 (s' 5).x1, .int .u64 (s' 5).x2, .int .u64 (s' 5).x3]) := hidden (fun x h => range_keep (R3.out.2.2.2.2.2.1) (bl_trans BZ.out h))
                  have NB := hidden (BB.out 5 h5 (by omega))
                  clear h0 h1 h2 h3 h4 h5 BB BT HO2 R2 R3
                  have a28 := cell_keep C28.out.1 BZ.out
                  go_upto_region 9 with fail
                  clear a28 lq
                  refine al9_5 _ w.heap.size (w.heap.size + 1) s s' _ _ _ _ _ _ _ _ _ _ _ _ _ _ _ _ _ _ _ _ _ _ _ _ _ _ _ _ _ _ _ _ _ _ _ _ _ _ _ _ _ _ _ _ _ _ _ _ _ _ _ _ _ _ _ _ _ _ _ _ _ _ _ _ _ _ _ _ _ _ _ _ _ _ _ _ _ _ _ _ _ _ _ _ _ _ _ _ _ _ _ _ _ _ _ _ _ _ _ _ _ _ _ _ _ _ _ _ _ _ _ _ _ _ _ _ _ _ _ wr CS0 RA0 RB0 CS1 RA1 RB1 CS2 RA2 RB2 CS3 RA3 RB3 CS4 RA4 RB4 CS5 RA5 RB5 (hidden (fun _ _ _ _ _ _ _ _ _ _ _ _ _ _ _ _ _ _ _ _ _ _ _ _ _ _ _ _ _ _ _ _ _ _ _ _ _ _ _ _ _ _ _ _ _ _ _ _ _ _ _ _ _ _ _ _ _ _ _ _ _ _ _ _ _ _ wz hz => ?_))
                  have BY := hidden (bl_trans BZ.out hz)
                  clear hz CS0 RA0 RB0 CS1 RA1 RB1 CS2 RA2 RB2 CS3 RA3 RB3 CS4 RA4 RB4 CS5 RA5 RB5
                  go_wp2_with fail
                  refine bodyPost_ret (v := .bool false) (by simp [results, Tryd.results8, go_sem]) rfl ⟨by rw [NB.out], bl_trans MB.out BY.out⟩
                | true =>
                  cases h6 : (lst (s 6).n).same (lst (s' 6).n) with
                  | false =>
                    have CS0 : Hid (∀ x, Below wr.heap.size wr x → Calls Tryd.prog 21 #[.agg #[.int .u64 (s 0).x0, .int .u64 (s 0).x1, .int .u64 (s 0).x2, .int .u64 (s 0).x3], .agg #[.int .u64 (s' 0).x0, .int .u64 (s' 0).x1, .int .u64 (s' 0).x2, .int .u64 (s' 0).x3]] x fun e w' => e = .returned (.bool true) ∧ Below x.heap.size x w') := hidden (fun x h => by have := lSame_any (s 0) (s' 0) (HO2.out.1 0 (by omega)) (HO2.out.2 0 (by omega)) x (HT.out.keep (bl_trans BZ.out h)); rw [h0] at this; exact this)
                    have RA0 : Hid (∀ x, Below wr.heap.size wr x → x.rangeAt w.heap.size 0 [.int .u64 (s 0).x0, .int .u64 (s 0).x1, .int .u64 (s 0).x2, .int .u64 (s 0).x3]) := hidden (fun x h => range_keep (R2.out.1) (bl_trans BZ.out h))
                    have RB0 : Hid (∀ x, Below wr.heap.size wr x → x.rangeAt (w.heap.size + 1) 0 [.int .u64 (s' 0).x0, .int .u64 (s' 0).x1, .int .u64 (s' 0).x2, .int .u64 (s' 0).x3]) := hidden (fun x h => range_keep (R3.out.1) (bl_trans BZ.out h))
                    have CS1 : Hid (∀ x, Below wr.heap.size wr x → Calls Tryd.prog 21 #[.agg #[.int .u64 (s 1).x0, .int .u64 (s 1).x1, .int .u64 (s 1).x2, .int .u64 (s 1).x3], .agg #[.int .u64 (s' 1).x0, .int .u64 (s' 1).x1, .int .u64 (s' 1).x2, .int .u64 (s' 1).x3]] x fun e w' => e = .returned (.bool true) ∧ Below x.heap.size x w') := hidden (fun x h => by have := lSame_any (s 1) (s' 1) (HO2.out.1 1 (by omega)) (HO2.out.2 1 (by omega)) x (HT.out.keep (bl_trans BZ.out h)); rw [h1] at this; exact this)
                    have RA1 : Hid (∀ x, Below wr.heap.size wr x → x.rangeAt w.heap.size 4 [.int .u64 (s 1).x0, .int .u64 (s 1).x1, .int .u64 (s 1).x2, .int .u64 (s 1).x3]) := hidden (fun x h => range_keep (R2.out.2.1) (bl_trans BZ.out h))
                    have RB1 : Hid (∀ x, Below wr.heap.size wr x → x.rangeAt (w.heap.size + 1) 4 [.int .u64 (s' 1).x0, .int .u64 (s' 1).x1, .int .u64 (s' 1).x2, .int .u64 (s' 1).x3]) := hidden (fun x h => range_keep (R3.out.2.1) (bl_trans BZ.out h))
                    have CS2 : Hid (∀ x, Below wr.heap.size wr x → Calls Tryd.prog 21 #[.agg #[.int .u64 (s 2).x0, .int .u64 (s 2).x1, .int .u64 (s 2).x2, .int .u64 (s 2).x3], .agg #[.int .u64 (s' 2).x0, .int .u64 (s' 2).x1, .int .u64 (s' 2).x2, .int .u64 (s' 2).x3]] x fun e w' => e = .returned (.bool true) ∧ Below x.heap.size x w') := hidden (fun x h => by have := lSame_any (s 2) (s' 2) (HO2.out.1 2 (by omega)) (HO2.out.2 2 (by omega)) x (HT.out.keep (bl_trans BZ.out h)); rw [h2] at this; exact this)
                    have RA2 : Hid (∀ x, Below wr.heap.size wr x → x.rangeAt w.heap.size 8 [.int .u64 (s 2).x0, .int .u64 (s 2).x1, .int .u64 (s 2).x2, .int .u64 (s 2).x3]) := hidden (fun x h => range_keep (R2.out.2.2.1) (bl_trans BZ.out h))
                    have RB2 : Hid (∀ x, Below wr.heap.size wr x → x.rangeAt (w.heap.size + 1) 8 [.int .u64 (s' 2).x0, .int .u64 (s' 2).x1, .int .u64 (s' 2).x2, .int .u64 (s' 2).x3]) := hidden (fun x h => range_keep (R3.out.2.2.1) (bl_trans BZ.out h))
                    have CS3 : Hid (∀ x, Below wr.heap.size wr x → Calls Tryd.prog 21 #[.agg #[.int .u64 (s 3).x0, .int .u64 (s 3).x1, .int .u64 (s 3).x2, .int .u64 (s 3).x3], .agg #[.int .u64 (s' 3).x0, .int .u64 (s' 3).x1, .int .u64 (s' 3).x2, .int .u64 (s' 3).x3]] x fun e w' => e = .returned (.bool true) ∧ Below x.heap.size x w') := hidden (fun x h => by have := lSame_any (s 3) (s' 3) (HO2.out.1 3 (by omega)) (HO2.out.2 3 (by omega)) x (HT.out.keep (bl_trans BZ.out h)); rw [h3] at this; exact this)
                    have RA3 : Hid (∀ x, Below wr.heap.size wr x → x.rangeAt w.heap.size 12 [.int .u64 (s 3).x0, .int .u64 (s 3).x1, .int .u64 (s 3).x2, .int .u64 (s 3).x3]) := hidden (fun x h => range_keep (R2.out.2.2.2.1) (bl_trans BZ.out h))
                    have RB3 : Hid (∀ x, Below wr.heap.size wr x → x.rangeAt (w.heap.size + 1) 12 [.int .u64 (s' 3).x0, .int .u64 (s' 3).x1, .int .u64 (s' 3).x2, .int .u64 (s' 3).x3]) := hidden (fun x h => range_keep (R3.out.2.2.2.1) (bl_trans BZ.out h))
                    have CS4 : Hid (∀ x, Below wr.heap.size wr x → Calls Tryd.prog 22 #[.agg #[.int .u64 (s 4).x0, .int .u64 (s 4).x1, .int .u64 (s 4).x2, .int .u64 (s 4).x3], .agg #[.int .u64 (s' 4).x0, .int .u64 (s' 4).x1, .int .u64 (s' 4).x2, .int .u64 (s' 4).x3]] x fun e w' => e = .returned (.bool true) ∧ Below x.heap.size x w') := hidden (fun x h => by have := alikeK (s 4) (s' 4) (HO2.out.1 4 (by omega)) (HO2.out.2 4 (by omega)) x (HT.out.keep (bl_trans BZ.out h)); rw [h4] at this; exact this)
                    have RA4 : Hid (∀ x, Below wr.heap.size wr x → x.rangeAt w.heap.size 16 [.int .u64 (s 4).x0, .int .u64 (s 4).x1, .int .u64 (s 4).x2, .int .u64 (s 4).x3]) := hidden (fun x h => range_keep (R2.out.2.2.2.2.1) (bl_trans BZ.out h))
                    have RB4 : Hid (∀ x, Below wr.heap.size wr x → x.rangeAt (w.heap.size + 1) 16 [.int .u64 (s' 4).x0, .int .u64 (s' 4).x1, .int .u64 (s' 4).x2, .int .u64 (s' 4).x3]) := hidden (fun x h => range_keep (R3.out.2.2.2.2.1) (bl_trans BZ.out h))
                    have CS5 : Hid (∀ x, Below wr.heap.size wr x → Calls Tryd.prog 22 #[.agg #[.int .u64 (s 5).x0, .int .u64 (s 5).x1, .int .u64 (s 5).x2, .int .u64 (s 5).x3], .agg #[.int .u64 (s' 5).x0, .int .u64 (s' 5).x1, .int .u64 (s' 5).x2, .int .u64 (s' 5).x3]] x fun e w' => e = .returned (.bool true) ∧ Below x.heap.size x w') := hidden (fun x h => by have := alikeK (s 5) (s' 5) (HO2.out.1 5 (by omega)) (HO2.out.2 5 (by omega)) x (HT.out.keep (bl_trans BZ.out h)); rw [h5] at this; exact this)
                    have RA5 : Hid (∀ x, Below wr.heap.size wr x → x.rangeAt w.heap.size 20 [.int .u64 (s 5).x0, .int .u64 (s 5).x1, .int .u64 (s 5).x2, .int .u64 (s 5).x3]) := hidden (fun x h => range_keep (R2.out.2.2.2.2.2.1) (bl_trans BZ.out h))
                    have RB5 : Hid (∀ x, Below wr.heap.size wr x → x.rangeAt (w.heap.size + 1) 20 [.int .u64 (s' 5).x0, .int .u64 (s' 5).x1, .int .u64 (s' 5).x2, .int .u64 (s' 5).x3]) := hidden (fun x h => range_keep (R3.out.2.2.2.2.2.1) (bl_trans BZ.out h))
                    have CS6 : Hid (∀ x, Below wr.heap.size wr x → Calls Tryd.prog 22 #[.agg #[.int .u64 (s 6).x0, .int .u64 (s 6).x1, .int .u64 (s 6).x2, .int .u64 (s 6).x3], .agg #[.int .u64 (s' 6).x0, .int .u64 (s' 6).x1, .int .u64 (s' 6).x2, .int .u64 (s' 6).x3]] x fun e w' => e = .returned (.bool false) ∧ Below x.heap.size x w') := hidden (fun x h => by have := alikeK (s 6) (s' 6) (HO2.out.1 6 (by omega)) (HO2.out.2 6 (by omega)) x (HT.out.keep (bl_trans BZ.out h)); rw [h6] at this; exact this)
                    have RA6 : Hid (∀ x, Below wr.heap.size wr x → x.rangeAt w.heap.size 24 [.int .u64 (s 6).x0, .int .u64 (s 6).x1, .int .u64 (s 6).x2, .int .u64 (s 6).x3]) := hidden (fun x h => range_keep (R2.out.2.2.2.2.2.2.1) (bl_trans BZ.out h))
                    have RB6 : Hid (∀ x, Below wr.heap.size wr x → x.rangeAt (w.heap.size + 1) 24 [.int .u64 (s' 6).x0, .int .u64 (s' 6).x1, .int .u64 (s' 6).x2, .int .u64 (s' 6).x3]) := hidden (fun x h => range_keep (R3.out.2.2.2.2.2.2.1) (bl_trans BZ.out h))
                    have NB := hidden (BB.out 6 h6 (by omega))
                    clear h0 h1 h2 h3 h4 h5 h6 BB BT HO2 R2 R3
                    have a28 := cell_keep C28.out.1 BZ.out
                    go_upto_region 9 with fail
                    clear a28 lq
                    refine al9_6 _ w.heap.size (w.heap.size + 1) s s' _ _ _ _ _ _ _ _ _ _ _ _ _ _ _ _ _ _ _ _ _ _ _ _ _ _ _ _ _ _ _ _ _ _ _ _ _ _ _ _ _ _ _ _ _ _ _ _ _ _ _ _ _ _ _ _ _ _ _ _ _ _ _ _ _ _ _ _ _ _ _ _ _ _ _ _ _ _ _ _ _ _ _ _ _ _ _ _ _ _ _ _ _ _ _ _ _ _ _ _ _ _ _ _ _ _ _ _ _ _ _ _ _ _ _ _ _ _ _ wr CS0 RA0 RB0 CS1 RA1 RB1 CS2 RA2 RB2 CS3 RA3 RB3 CS4 RA4 RB4 CS5 RA5 RB5 CS6 RA6 RB6 (hidden (fun _ _ _ _ _ _ _ _ _ _ _ _ _ _ _ _ _ _ _ _ _ _ _ _ _ _ _ _ _ _ _ _ _ _ _ _ _ _ _ _ _ _ _ _ _ _ _ _ _ _ _ _ _ _ _ _ _ _ _ _ _ _ _ _ _ _ wz hz => ?_))
                    have BY := hidden (bl_trans BZ.out hz)
                    clear hz CS0 RA0 RB0 CS1 RA1 RB1 CS2 RA2 RB2 CS3 RA3 RB3 CS4 RA4 RB4 CS5 RA5 RB5 CS6 RA6 RB6
                    go_wp2_with fail
                    refine bodyPost_ret (v := .bool false) (by simp [results, Tryd.results8, go_sem]) rfl ⟨by rw [NB.out], bl_trans MB.out BY.out⟩
                  | true =>
                    cases h7 : (lst (s 7).n).same (lst (s' 7).n) with
                    | false =>
                      have CS0 : Hid (∀ x, Below wr.heap.size wr x → Calls Tryd.prog 21 #[.agg #[.int .u64 (s 0).x0, .int .u64 (s 0).x1, .int .u64 (s 0).x2, .int .u64 (s 0).x3], .agg #[.int .u64 (s' 0).x0, .int .u64 (s' 0).x1, .int .u64 (s' 0).x2, .int .u64 (s' 0).x3]] x fun e w' => e = .returned (.bool true) ∧ Below x.heap.size x w') := hidden (fun x h => by have := lSame_any (s 0) (s' 0) (HO2.out.1 0 (by omega)) (HO2.out.2 0 (by omega)) x (HT.out.keep (bl_trans BZ.out h)); rw [h0] at this; exact this)
                      have RA0 : Hid (∀ x, Below wr.heap.size wr x → x.rangeAt w.heap.size 0 [.int .u64 (s 0).x0, .int .u64 (s 0).x1, .int .u64 (s 0).x2, .int .u64 (s 0).x3]) := hidden (fun x h => range_keep (R2.out.1) (bl_trans BZ.out h))
                      have RB0 : Hid (∀ x, Below wr.heap.size wr x → x.rangeAt (w.heap.size + 1) 0 [.int .u64 (s' 0).x0, .int .u64 (s' 0).x1, .int .u64 (s' 0).x2, .int .u64 (s' 0).x3]) := hidden (fun x h => range_keep (R3.out.1) (bl_trans BZ.out h))
                      have CS1 : Hid (∀ x, Below wr.heap.size wr x → Calls Tryd.prog 21 #[.agg #[.int .u64 (s 1).x0, .int .u64 (s 1).x1, .int .u64 (s 1).x2, .int .u64 (s 1).x3], .agg #[.int .u64 (s' 1).x0, .int .u64 (s' 1).x1, .int .u64 (s' 1).x2, .int .u64 (s' 1).x3]] x fun e w' => e = .returned (.bool true) ∧ Below x.heap.size x w') := hidden (fun x h => by have := lSame_any (s 1) (s' 1) (HO2.out.1 1 (by omega)) (HO2.out.2 1 (by omega)) x (HT.out.keep (bl_trans BZ.out h)); rw [h1] at this; exact this)
                      have RA1 : Hid (∀ x, Below wr.heap.size wr x → x.rangeAt w.heap.size 4 [.int .u64 (s 1).x0, .int .u64 (s 1).x1, .int .u64 (s 1).x2, .int .u64 (s 1).x3]) := hidden (fun x h => range_keep (R2.out.2.1) (bl_trans BZ.out h))
                      have RB1 : Hid (∀ x, Below wr.heap.size wr x → x.rangeAt (w.heap.size + 1) 4 [.int .u64 (s' 1).x0, .int .u64 (s' 1).x1, .int .u64 (s' 1).x2, .int .u64 (s' 1).x3]) := hidden (fun x h => range_keep (R3.out.2.1) (bl_trans BZ.out h))
                      have CS2 : Hid (∀ x, Below wr.heap.size wr x → Calls Tryd.prog 21 #[.agg #[.int .u64 (s 2).x0, .int .u64 (s 2).x1, .int .u64 (s 2).x2, .int .u64 (s 2).x3], .agg #[.int .u64 (s' 2).x0, .int .u64 (s' 2).x1, .int .u64 (s' 2).x2, .int .u64 (s' 2).x3]] x fun e w' => e = .returned (.bool true) ∧ Below x.heap.size x w') := hidden (fun x h => by have := lSame_any (s 2) (s' 2) (HO2.out.1 2 (by omega)) (HO2.out.2 2 (by omega)) x (HT.out.keep (bl_trans BZ.out h)); rw [h2] at this; exact this)
                      have RA2 : Hid (∀ x, Below wr.heap.size wr x → x.rangeAt w.heap.size 8 [.int .u64 (s 2).x0, .int .u64 (s 2).x1, .int .u64 (s 2).x2, .int .u64 (s 2).x3]) := hidden (fun x h => range_keep (R2.out.2.2.1) (bl_trans BZ.out h))
                      have RB2 : Hid (∀ x, Below wr.heap.size wr x → x.rangeAt (w.heap.size + 1) 8 [.int .u64 (s' 2).x0, .int .u64 (s' 2).x1, .int .u64 (s' 2).x2, .int .u64 (s' 2).x3]) := hidden (fun x h => range_keep (R3.out.2.2.1) (bl_trans BZ.out h))
                      have CS3 : Hid (∀ x, Below wr.heap.size wr x → Calls Tryd.prog 21 #[.agg #[.int .u64 (s 3).x0, .int .u64 (s 3).x1, .int .u64 (s 3).x2, .int .u64 (s 3).x3], .agg #[.int .u64 (s' 3).x0, .int .u64 (s' 3).x1, .int .u64 (s' 3).x2, .int .u64 (s' 3).x3]] x fun e w' => e = .returned (.bool true) ∧ Below x.heap.size x w') := hidden (fun x h => by have := lSame_any (s 3) (s' 3) (HO2.out.1 3 (by omega)) (HO2.out.2 3 (by omega)) x (HT.out.keep (bl_trans BZ.out h)); rw [h3] at this; exact this)
                      have RA3 : Hid (∀ x, Below wr.heap.size wr x → x.rangeAt w.heap.size 12 [.int .u64 (s 3).x0, .int .u64 (s 3).x1, .int .u64 (s 3).x2, .int .u64 (s 3).x3]) := hidden (fun x h => range_keep (R2.out.2.2.2.1) (bl_trans BZ.out h))
                      have RB3 : Hid (∀ x, Below wr.heap.size wr x → x.rangeAt (w.heap.size + 1) 12 [.int .u64 (s' 3).x0, .int .u64 (s' 3).x1, .int .u64 (s' 3).x2, .int .u64 (s' 3).x3]) := hidden (fun x h => range_keep (R3.out.2.2.2.1) (bl_trans BZ.out h))
                      have CS4 : Hid (∀ x, Below wr.heap.size wr x → Calls Tryd.prog 22 #[.agg #[.int .u64 (s 4).x0, .int .u64 (s 4).x1, .int .u64 (s 4).x2, .int .u64 (s 4).x3], .agg #[.int .u64 (s' 4).x0, .int .u64 (s' 4).x1, .int .u64 (s' 4).x2, .int .u64 (s' 4).x3]] x fun e w' => e = .returned (.bool true) ∧ Below x.heap.size x w') := hidden (fun x h => by have := alikeK (s 4) (s' 4) (HO2.out.1 4 (by omega)) (HO2.out.2 4 (by omega)) x (HT.out.keep (bl_trans BZ.out h)); rw [h4] at this; exact this)
                      have RA4 : Hid (∀ x, Below wr.heap.size wr x → x.rangeAt w.heap.size 16 [.int .u64 (s 4).x0, .int .u64 (s 4).x1, .int .u64 (s 4).x2, .int .u64 (s 4).x3]) := hidden (fun x h => range_keep (R2.out.2.2.2.2.1) (bl_trans BZ.out h))
                      have RB4 : Hid (∀ x, Below wr.heap.size wr x → x.rangeAt (w.heap.size + 1) 16 [.int .u64 (s' 4).x0, .int .u64 (s' 4).x1, .int .u64 (s' 4).x2, .int .u64 (s' 4).x3]) := hidden (fun x h => range_keep (R3.out.2.2.2.2.1) (bl_trans BZ.out h))
                      have CS5 : Hid (∀ x, Below wr.heap.size wr x → Calls Tryd.prog 22 #[.agg #[.int .u64 (s 5).x0, .int .u64 (s 5).x1, .int .u64 (s 5).x2, .int .u64 (s 5).x3], .agg #[.int .u64 (s' 5).x0, .int .u64 (s' 5).x1, .int .u64 (s' 5).x2, .int .u64 (s' 5).x3]] x fun e w' => e = .returned (.bool true) ∧ Below x.heap.size x w') := hidden (fun x h => by have := alikeK (s 5) (s' 5) (HO2.out.1 5 (by omega)) (HO2.out.2 5 (by omega)) x (HT.out.keep (bl_trans BZ.out h)); rw [h5] at this; exact this)
                      have RA5 : Hid (∀ x, Below wr.heap.size wr x → x.rangeAt w.heap.size 20 [.int .u64 (s 5).x0, .int .u64 (s 5).x1, .int .u64 (s 5).x2, .int .u64 (s 5).x3]) := hidden (fun x h => range_keep (R2.out.2.2.2.2.2.1) (bl_trans BZ.out h))
                      have RB5 : Hid (∀ x, Below wr.heap.size wr x → x.rangeAt (w.heap.size + 1) 20 [.int .u64 (s' 5).x0, .int .u64 (s' 5).x1, .int .u64 (s' 5).x2, .int .u64 (s' 5).x3]) := hidden (fun x h => range_keep (R3.out.2.2.2.2.2.1) (bl_trans BZ.out h))
                      have CS6 : Hid (∀ x, Below wr.heap.size wr x → Calls Tryd.prog 22 #[.agg #[.int .u64 (s 6).x0, .int .u64 (s 6).x1, .int .u64 (s 6).x2, .int .u64 (s 6).x3], .agg #[.int .u64 (s' 6).x0, .int .u64 (s' 6).x1, .int .u64 (s' 6).x2, .int .u64 (s' 6).x3]] x fun e w' => e = .returned (.bool true) ∧ Below x.heap.size x w') := hidden (fun x h => by have := alikeK (s 6) (s' 6) (HO2.out.1 6 (by omega)) (HO2.out.2 6 (by omega)) x (HT.out.keep (bl_trans BZ.out h)); rw [h6] at this; exact this)
                      have RA6 : Hid (∀ x, Below wr.heap.size wr x → x.rangeAt w.heap.size 24 [.int .u64 (s 6).x0, .int .u64 (s 6).x1, .int .u64 (s 6).x2, .int .u64 (s 6).x3]) := hidden (fun x h => range_keep (R2.out.2.2.2.2.2.2.1) (bl_trans BZ.out h))
                      have RB6 : Hid (∀ x, Below wr.heap.size wr x → x.rangeAt (w.heap.size + 1) 24 [.int .u64 (s' 6).x0, .int .u64 (s' 6).x1, .int .u64 (s' 6).x2, .int .u64 (s' 6).x3]) := hidden (fun x h => range_keep (R3.out.2.2.2.2.2.2.1) (bl_trans BZ.out h))
                      have CS7 : Hid (∀ x, Below wr.heap.size wr x → Calls Tryd.prog 22 #[.agg #[.int .u64 (s 7).x0, .int .u64 (s 7).x1, .int .u64 (s 7).x2, .int .u64 (s 7).x3], .agg #[.int .u64 (s' 7).x0, .int .u64 (s' 7).x1, .int .u64 (s' 7).x2, .int .u64 (s' 7).x3]] x fun e w' => e = .returned (.bool false) ∧ Below x.heap.size x w') := hidden (fun x h => by have := alikeK (s 7) (s' 7) (HO2.out.1 7 (by omega)) (HO2.out.2 7 (by omega)) x (HT.out.keep (bl_trans BZ.out h)); rw [h7] at this; exact this)
                      have RA7 : Hid (∀ x, Below wr.heap.size wr x → x.rangeAt w.heap.size 30 [.int .u64 (s 7).x0, .int .u64 (s 7).x1, .int .u64 (s 7).x2, .int .u64 (s 7).x3]) := hidden (fun x h => range_keep (R2.out.2.2.2.2.2.2.2.1) (bl_trans BZ.out h))
                      have RB7 : Hid (∀ x, Below wr.heap.size wr x → x.rangeAt (w.heap.size + 1) 30 [.int .u64 (s' 7).x0, .int .u64 (s' 7).x1, .int .u64 (s' 7).x2, .int .u64 (s' 7).x3]) := hidden (fun x h => range_keep (R3.out.2.2.2.2.2.2.2.1) (bl_trans BZ.out h))
                      have NB := hidden (BB.out 7 h7 (by omega))
                      clear h0 h1 h2 h3 h4 h5 h6 h7 BB BT HO2 R2 R3
                      have a28 := cell_keep C28.out.1 BZ.out
                      go_upto_region 9 with fail
                      clear a28 lq
                      refine al9_7 _ w.heap.size (w.heap.size + 1) s s' _ _ _ _ _ _ _ _ _ _ _ _ _ _ _ _ _ _ _ _ _ _ _ _ _ _ _ _ _ _ _ _ _ _ _ _ _ _ _ _ _ _ _ _ _ _ _ _ _ _ _ _ _ _ _ _ _ _ _ _ _ _ _ _ _ _ _ _ _ _ _ _ _ _ _ _ _ _ _ _ _ _ _ _ _ _ _ _ _ _ _ _ _ _ _ _ _ _ _ _ _ _ _ _ _ _ _ _ _ _ _ _ _ _ _ _ _ _ _ wr CS0 RA0 RB0 CS1 RA1 RB1 CS2 RA2 RB2 CS3 RA3 RB3 CS4 RA4 RB4 CS5 RA5 RB5 CS6 RA6 RB6 CS7 RA7 RB7 (hidden (fun _ _ _ _ _ _ _ _ _ _ _ _ _ _ _ _ _ _ _ _ _ _ _ _ _ _ _ _ _ _ _ _ _ _ _ _ _ _ _ _ _ _ _ _ _ _ _ _ _ _ _ _ _ _ _ _ _ _ _ _ _ _ _ _ _ _ wz hz => ?_))
                      have BY := hidden (bl_trans BZ.out hz)
                      clear hz CS0 RA0 RB0 CS1 RA1 RB1 CS2 RA2 RB2 CS3 RA3 RB3 CS4 RA4 RB4 CS5 RA5 RB5 CS6 RA6 RB6 CS7 RA7 RB7
                      go_wp2_with fail
                      refine bodyPost_ret (v := .bool false) (by simp [results, Tryd.results8, go_sem]) rfl ⟨by rw [NB.out], bl_trans MB.out BY.out⟩
                    | true =>
                      cases h8 : (lst (s 8).n).same (lst (s' 8).n) with
                      | false =>
                        have CS0 : Hid (∀ x, Below wr.heap.size wr x → Calls Tryd.prog 21 #[.agg #[.int .u64 (s 0).x0, .int .u64 (s 0).x1, .int .u64 (s 0).x2, .int .u64 (s 0).x3], .agg #[.int .u64 (s' 0).x0, .int .u64 (s' 0).x1, .int .u64 (s' 0).x2, .int .u64 (s' 0).x3]] x fun e w' => e = .returned (.bool true) ∧ Below x.heap.size x w') := hidden (fun x h => by have := lSame_any (s 0) (s' 0) (HO2.out.1 0 (by omega)) (HO2.out.2 0 (by omega)) x (HT.out.keep (bl_trans BZ.out h)); rw [h0] at this; exact this)
                        have RA0 : Hid (∀ x, Below wr.heap.size wr x → x.rangeAt w.heap.size 0 [.int .u64 (s 0).x0, .int .u64 (s 0).x1, .int .u64 (s 0).x2, .int .u64 (s 0).x3]) := hidden (fun x h => range_keep (R2.out.1) (bl_trans BZ.out h))
                        have RB0 : Hid (∀ x, Below wr.heap.size wr x → x.rangeAt (w.heap.size + 1) 0 [.int .u64 (s' 0).x0, .int .u64 (s' 0).x1, .int .u64 (s' 0).x2, .int .u64 (s' 0).x3]) := hidden (fun x h => range_keep (R3.out.1) (bl_trans BZ.out h))
                        have CS1 : Hid (∀ x, Below wr.heap.size wr x → Calls Tryd.prog 21 #[.agg #[.int .u64 (s 1).x0, .int .u64 (s 1).x1, .int .u64 (s 1).x2, .int .u64 (s 1).x3], .agg #[.int .u64 (s' 1).x0, .int .u64 (s' 1).x1, .int .u64 (s' 1).x2, .int .u64 (s' 1).x3]] x fun e w' => e = .returned (.bool true) ∧ Below x.heap.size x w') := hidden (fun x h => by have := lSame_any (s 1) (s' 1) (HO2.out.1 1 (by omega)) (HO2.out.2 1 (by omega)) x (HT.out.keep (bl_trans BZ.out h)); rw [h1] at this; exact this)
                        have RA1 : Hid (∀ x, Below wr.heap.size wr x → x.rangeAt w.heap.size 4 [.int .u64 (s 1).x0, .int .u64 (s 1).x1, .int .u64 (s 1).x2, .int .u64 (s 1).x3]) := hidden (fun x h => range_keep (R2.out.2.1) (bl_trans BZ.out h))
                        have RB1 : Hid (∀ x, Below wr.heap.size wr x → x.rangeAt (w.heap.size + 1) 4 [.int .u64 (s' 1).x0, .int .u64 (s' 1).x1, .int .u64 (s' 1).x2, .int .u64 (s' 1).x3]) := hidden (fun x h => range_keep (R3.out.2.1) (bl_trans BZ.out h))
                        have CS2 : Hid (∀ x, Below wr.heap.size wr x → Calls Tryd.prog 21 #[.agg #[.int .u64 (s 2).x0, .int .u64 (s 2).x1, .int .u64 (s 2).x2, .int .u64 (s 2).x3], .agg #[.int .u64 (s' 2).x0, .int .u64 (s' 2).x1, .int .u64 (s' 2).x2, .int .u64 (s' 2).x3]] x fun e w' => e = .returned (.bool true) ∧ Below x.heap.size x w') := hidden (fun x h => by have := lSame_any (s 2) (s' 2) (HO2.out.1 2 (by omega)) (HO2.out.2 2 (by omega)) x (HT.out.keep (bl_trans BZ.out h)); rw [h2] at this; exact this)
                        have RA2 : Hid (∀ x, Below wr.heap.size wr x → x.rangeAt w.heap.size 8 [.int .u64 (s 2).x0, .int .u64 (s 2).x1, .int .u64 (s 2).x2, .int .u64 (s 2).x3]) := hidden (fun x h => range_keep (R2.out.2.2.1) (bl_trans BZ.out h))
                        have RB2 : Hid (∀ x, Below wr.heap.size wr x → x.rangeAt (w.heap.size + 1) 8 [.int .u64 (s' 2).x0, .int .u64 (s' 2).x1, .int .u64 (s' 2).x2, .int .u64 (s' 2).x3]) := hidden (fun x h => range_keep (R3.out.2.2.1) (bl_trans BZ.out h))
                        have CS3 : Hid (∀ x, Below wr.heap.size wr x → Calls Tryd.prog 21 #[.agg #[.int .u64 (s 3).x0, .int .u64 (s 3).x1, .int .u64 (s 3).x2, .int .u64 (s 3).x3], .agg #[.int .u64 (s' 3).x0, .int .u64 (s' 3).x1, .int .u64 (s' 3).x2, .int .u64 (s' 3).x3]] x fun e w' => e = .returned (.bool true) ∧ Below x.heap.size x w') := hidden (fun x h => by have := lSame_any (s 3) (s' 3) (HO2.out.1 3 (by omega)) (HO2.out.2 3 (by omega)) x (HT.out.keep (bl_trans BZ.out h)); rw [h3] at this; exact this)
                        have RA3 : Hid (∀ x, Below wr.heap.size wr x → x.rangeAt w.heap.size 12 [.int .u64 (s 3).x0, .int .u64 (s 3).x1, .int .u64 (s 3).x2, .int .u64 (s 3).x3]) := hidden (fun x h => range_keep (R2.out.2.2.2.1) (bl_trans BZ.out h))
                        have RB3 : Hid (∀ x, Below wr.heap.size wr x → x.rangeAt (w.heap.size + 1) 12 [.int .u64 (s' 3).x0, .int .u64 (s' 3).x1, .int .u64 (s' 3).x2, .int .u64 (s' 3).x3]) := hidden (fun x h => range_keep (R3.out.2.2.2.1) (bl_trans BZ.out h))
                        have CS4 : Hid (∀ x, Below wr.heap.size wr x → Calls Tryd.prog 22 #[.agg #[.int .u64 (s 4).x0, .int .u64 (s 4).x1, .int .u64 (s 4).x2, .int .u64 (s 4).x3], .agg #[.int .u64 (s' 4).x0, .int .u64 (s' 4).x1, .int .u64 (s' 4).x2, .int .u64 (s' 4).x3]] x fun e w' => e = .returned (.bool true) ∧ Below x.heap.size x w') := hidden (fun x h => by have := alikeK (s 4) (s' 4) (HO2.out.1 4 (by omega)) (HO2.out.2 4 (by omega)) x (HT.out.keep (bl_trans BZ.out h)); rw [h4] at this; exact this)
                        have RA4 : Hid (∀ x, Below wr.heap.size wr x → x.rangeAt w.heap.size 16 [.int .u64 (s 4).x0, .int .u64 (s 4).x1, .int .u64 (s 4).x2, .int .u64 (s 4).x3]) := hidden (fun x h => range_keep (R2.out.2.2.2.2.1) (bl_trans BZ.out h))
                        have RB4 : Hid (∀ x, Below wr.heap.size wr x → x.rangeAt (w.heap.size + 1) 16 [.int .u64 (s' 4).x0, .int .u64 (s' 4).x1, .int .u64 (s' 4).x2, .int .u64 (s' 4).x3]) := hidden (fun x h => range_keep (R3.out.2.2.2.2.1) (bl_trans BZ.out h))
                        have CS5 : Hid (∀ x, Below wr.heap.size wr x → Calls Tryd.prog 22 #[.agg #[.int .u64 (s 5).x0, .int .u64 (s 5).x1, .int .u64 (s 5).x2, .int .u64 (s 5).x3], .agg #[.int .u64 (s' 5).x0, .int .u64 (s' 5).x1, .int .u64 (s' 5).x2, .int .u64 (s' 5).x3]] x fun e w' => e = .returned (.bool true) ∧ Below x.heap.size x w') := hidden (fun x h => by have := alikeK (s 5) (s' 5) (HO2.out.1 5 (by omega)) (HO2.out.2 5 (by omega)) x (HT.out.keep (bl_trans BZ.out h)); rw [h5] at this; exact this)
                        have RA5 : Hid (∀ x, Below wr.heap.size wr x → x.rangeAt w.heap.size 20 [.int .u64 (s 5).x0, .int .u64 (s 5).x1, .int .u64 (s 5).x2, .int .u64 (s 5).x3]) := hidden (fun x h => range_keep (R2.out.2.2.2.2.2.1) (bl_trans BZ.out h))
                        have RB5 : Hid (∀ x, Below wr.heap.size wr x → x.rangeAt (w.heap.size + 1) 20 [.int .u64 (s' 5).x0, .int .u64 (s' 5).x1, .int .u64 (s' 5).x2, .int .u64 (s' 5).x3]) := hidden (fun x h => range_keep (R3.out.2.2.2.2.2.1) (bl_trans BZ.out h))
                        have CS6 : Hid (∀ x, Below wr.heap.size wr x → Calls Tryd.prog 22 #[.agg #[.int .u64 (s 6).x0, .int .u64 (s 6).x1, .int .u64 (s 6).x2, .int .u64 (s 6).x3], .agg #[.int .u64 (s' 6).x0, .int .u64 (s' 6).x1, .int .u64 (s' 6).x2, .int .u64 (s' 6).x3]] x fun e w' => e = .returned (.bool true) ∧ Below x.heap.size x w') := hidden (fun x h => by have := alikeK (s 6) (s' 6) (HO2.out.1 6 (by omega)) (HO2.out.2 6 (by omega)) x (HT.out.keep (bl_trans BZ.out h)); rw [h6] at this; exact this)
                        have RA6 : Hid (∀ x, Below wr.heap.size wr x → x.rangeAt w.heap.size 24 [.int .u64 (s 6).x0, .int .u64 (s 6).x1, .int .u64 (s 6).x2, .int .u64 (s 6).x3]) := hidden (fun x h => range_keep (R2.out.2.2.2.2.2.2.1) (bl_trans BZ.out h))
                        have RB6 : Hid (∀ x, Below wr.heap.size wr x → x.rangeAt (w.heap.size + 1) 24 [.int .u64 (s' 6).x0, .int .u64 (s' 6).x1, .int .u64 (s' 6).x2, .int .u64 (s' 6).x3]) := hidden (fun x h => range_keep (R3.out.2.2.2.2.2.2.1) (bl_trans BZ.out h))
                        have CS7 : Hid (∀ x, Below wr.heap.size wr x → Calls Tryd.prog 22 #[.agg #[.int .u64 (s 7).x0, .int .u64 (s 7).x1, .int .u64 (s 7).x2, .int .u64 (s 7).x3], .agg #[.int .u64 (s' 7).x0, .int .u64 (s' 7).x1, .int .u64 (s' 7).x2, .int .u64 (s' 7).x3]] x fun e w' => e = .returned (.bool true) ∧ Below x.heap.size x w') := hidden (fun x h => by have := alikeK (s 7) (s' 7) (HO2.out.1 7 (by omega)) (HO2.out.2 7 (by omega)) x (HT.out.keep (bl_trans BZ.out h)); rw [h7] at this; exact this)
                        have RA7 : Hid (∀ x, Below wr.heap.size wr x → x.rangeAt w.heap.size 30 [.int .u64 (s 7).x0, .int .u64 (s 7).x1, .int .u64 (s 7).x2, .int .u64 (s 7).x3]) := hidden (fun x h => range_keep (R2.out.2.2.2.2.2.2.2.1) (bl_trans BZ.out h))
                        have RB7 : Hid (∀ x, Below wr.heap.size wr x → x.rangeAt (w.heap.size + 1) 30 [.int .u64 (s' 7).x0, .int .u64 (s' 7).x1, .int .u64 (s' 7).x2, .int .u64 (s' 7).x3]) := hidden (fun x h => range_keep (R3.out.2.2.2.2.2.2.2.1) (bl_trans BZ.out h))
                        have CS8 : Hid (∀ x, Below wr.heap.size wr x → Calls Tryd.prog 22 #[.agg #[.int .u64 (s 8).x0, .int .u64 (s 8).x1, .int .u64 (s 8).x2, .int .u64 (s 8).x3], .agg #[.int .u64 (s' 8).x0, .int .u64 (s' 8).x1, .int .u64 (s' 8).x2, .int .u64 (s' 8).x3]] x fun e w' => e = .returned (.bool false) ∧ Below x.heap.size x w') := hidden (fun x h => by have := alikeK (s 8) (s' 8) (HO2.out.1 8 (by omega)) (HO2.out.2 8 (by omega)) x (HT.out.keep (bl_trans BZ.out h)); rw [h8] at this; exact this)
                        have RA8 : Hid (∀ x, Below wr.heap.size wr x → x.rangeAt w.heap.size 34 [.int .u64 (s 8).x0, .int .u64 (s 8).x1, .int .u64 (s 8).x2, .int .u64 (s 8).x3]) := hidden (fun x h => range_keep (R2.out.2.2.2.2.2.2.2.2) (bl_trans BZ.out h))
                        have RB8 : Hid (∀ x, Below wr.heap.size wr x → x.rangeAt (w.heap.size + 1) 34 [.int .u64 (s' 8).x0, .int .u64 (s' 8).x1, .int .u64 (s' 8).x2, .int .u64 (s' 8).x3]) := hidden (fun x h => range_keep (R3.out.2.2.2.2.2.2.2.2) (bl_trans BZ.out h))
                        have NB := hidden (BB.out 8 h8 (by omega))
                        clear h0 h1 h2 h3 h4 h5 h6 h7 h8 BB BT HO2 R2 R3
                        have a28 := cell_keep C28.out.1 BZ.out
                        go_upto_region 9 with fail
                        clear a28 lq
                        refine al9_8 _ w.heap.size (w.heap.size + 1) s s' _ _ _ _ _ _ _ _ _ _ _ _ _ _ _ _ _ _ _ _ _ _ _ _ _ _ _ _ _ _ _ _ _ _ _ _ _ _ _ _ _ _ _ _ _ _ _ _ _ _ _ _ _ _ _ _ _ _ _ _ _ _ _ _ _ _ _ _ _ _ _ _ _ _ _ _ _ _ _ _ _ _ _ _ _ _ _ _ _ _ _ _ _ _ _ _ _ _ _ _ _ _ _ _ _ _ _ _ _ _ _ _ _ _ _ _ _ _ _ wr CS0 RA0 RB0 CS1 RA1 RB1 CS2 RA2 RB2 CS3 RA3 RB3 CS4 RA4 RB4 CS5 RA5 RB5 CS6 RA6 RB6 CS7 RA7 RB7 CS8 RA8 RB8 (hidden (fun _ _ _ _ _ _ _ _ _ _ _ _ _ _ _ _ _ _ _ _ _ _ _ _ _ _ _ _ _ _ _ _ _ _ _ _ _ _ _ _ _ _ _ _ _ _ _ _ _ _ _ _ _ _ _ _ _ _ _ _ _ _ _ _ _ _ wz hz => ?_))
                        have BY := hidden (bl_trans BZ.out hz)
                        clear hz CS0 RA0 RB0 CS1 RA1 RB1 CS2 RA2 RB2 CS3 RA3 RB3 CS4 RA4 RB4 CS5 RA5 RB5 CS6 RA6 RB6 CS7 RA7 RB7 CS8 RA8 RB8
                        go_wp2_with fail
                        refine bodyPost_ret (v := .bool false) (by simp [results, Tryd.results8, go_sem]) rfl ⟨by rw [NB.out], bl_trans MB.out BY.out⟩
                      | true =>
                        have CS0 : Hid (∀ x, Below wr.heap.size wr x → Calls Tryd.prog 21 #[.agg #[.int .u64 (s 0).x0, .int .u64 (s 0).x1, .int .u64 (s 0).x2, .int .u64 (s 0).x3], .agg #[.int .u64 (s' 0).x0, .int .u64 (s' 0).x1, .int .u64 (s' 0).x2, .int .u64 (s' 0).x3]] x fun e w' => e = .returned (.bool true) ∧ Below x.heap.size x w') := hidden (fun x h => by have := lSame_any (s 0) (s' 0) (HO2.out.1 0 (by omega)) (HO2.out.2 0 (by omega)) x (HT.out.keep (bl_trans BZ.out h)); rw [h0] at this; exact this)
                        have RA0 : Hid (∀ x, Below wr.heap.size wr x → x.rangeAt w.heap.size 0 [.int .u64 (s 0).x0, .int .u64 (s 0).x1, .int .u64 (s 0).x2, .int .u64 (s 0).x3]) := hidden (fun x h => range_keep (R2.out.1) (bl_trans BZ.out h))
                        have RB0 : Hid (∀ x, Below wr.heap.size wr x → x.rangeAt (w.heap.size + 1) 0 [.int .u64 (s' 0).x0, .int .u64 (s' 0).x1, .int .u64 (s' 0).x2, .int .u64 (s' 0).x3]) := hidden (fun x h => range_keep (R3.out.1) (bl_trans BZ.out h))
                        have CS1 : Hid (∀ x, Below wr.heap.size wr x → Calls Tryd.prog 21 #[.agg #[.int .u64 (s 1).x0, .int .u64 (s 1).x1, .int .u64 (s 1).x2, .int .u64 (s 1).x3], .agg #[.int .u64 (s' 1).x0, .int .u64 (s' 1).x1, .int .u64 (s' 1).x2, .int .u64 (s' 1).x3]] x fun e w' => e = .returned (.bool true) ∧ Below x.heap.size x w') := hidden (fun x h => by have := lSame_any (s 1) (s' 1) (HO2.out.1 1 (by omega)) (HO2.out.2 1 (by omega)) x (HT.out.keep (bl_trans BZ.out h)); rw [h1] at this; exact this)
                        have RA1 : Hid (∀ x, Below wr.heap.size wr x → x.rangeAt w.heap.size 4 [.int .u64 (s 1).x0, .int .u64 (s 1).x1, .int .u64 (s 1).x2, .int .u64 (s 1).x3]) := hidden (fun x h => range_keep (R2.out.2.1) (bl_trans BZ.out h))
                        have RB1 : Hid (∀ x, Below wr.heap.size wr x → x.rangeAt (w.heap.size + 1) 4 [.int .u64 (s' 1).x0, .int .u64 (s' 1).x1, .int .u64 (s' 1).x2, .int .u64 (s' 1).x3]) := hidden (fun x h => range_keep (R3.out.2.1) (bl_trans BZ.out h))
                        have CS2 : Hid (∀ x, Below wr.heap.size wr x → Calls Tryd.prog 21 #[.agg #[.int .u64 (s 2).x0, .int .u64 (s 2).x1, .int .u64 (s 2).x2, .int .u64 (s 2).x3], .agg #[.int .u64 (s' 2).x0, .int .u64 (s' 2).x1, .int .u64 (s' 2).x2, .int .u64 (s' 2).x3]] x fun e w' => e = .returned (.bool true) ∧ Below x.heap.size x w') := hidden (fun x h => by have := lSame_any (s 2) (s' 2) (HO2.out.1 2 (by omega)) (HO2.out.2 2 (by omega)) x (HT.out.keep (bl_trans BZ.out h)); rw [h2] at this; exact this)
                        have RA2 : Hid (∀ x, Below wr.heap.size wr x → x.rangeAt w.heap.size 8 [.int .u64 (s 2).x0, .int .u64 (s 2).x1, .int .u64 (s 2).x2, .int .u64 (s 2).x3]) := hidden (fun x h => range_keep (R2.out.2.2.1) (bl_trans BZ.out h))
                        have RB2 : Hid (∀ x, Below wr.heap.size wr x → x.rangeAt (w.heap.size + 1) 8 [.int .u64 (s' 2).x0, .int .u64 (s' 2).x1, .int .u64 (s' 2).x2, .int .u64 (s' 2).x3]) := hidden (fun x h => range_keep (R3.out.2.2.1) (bl_trans BZ.out h))
                        have CS3 : Hid (∀ x, Below wr.heap.size wr x → Calls Tryd.prog 21 #[.agg #[.int .u64 (s 3).x0, .int .u64 (s 3).x1, .int .u64 (s 3).x2, .int .u64 (s 3).x3], .agg #[.int .u64 (s' 3).x0, .int .u64 (s' 3).x1, .int .u64 (s' 3).x2, .int .u64 (s' 3).x3]] x fun e w' => e = .returned (.bool true) ∧ Below x.heap.size x w') := hidden (fun x h => by have := lSame_any (s 3) (s' 3) (HO2.out.1 3 (by omega)) (HO2.out.2 3 (by omega)) x (HT.out.keep (bl_trans BZ.out h)); rw [h3] at this; exact this)
                        have RA3 : Hid (∀ x, Below wr.heap.size wr x → x.rangeAt w.heap.size 12 [.int .u64 (s 3).x0, .int .u64 (s 3).x1, .int .u64 (s 3).x2, .int .u64 (s 3).x3]) := hidden (fun x h => range_keep (R2.out.2.2.2.1) (bl_trans BZ.out h))
                        have RB3 : Hid (∀ x, Below wr.heap.size wr x → x.rangeAt (w.heap.size + 1) 12 [.int .u64 (s' 3).x0, .int .u64 (s' 3).x1, .int .u64 (s' 3).x2, .int .u64 (s' 3).x3]) := hidden (fun x h => range_keep (R3.out.2.2.2.1) (bl_trans BZ.out h))
                        have CS4 : Hid (∀ x, Below wr.heap.size wr x → Calls Tryd.prog 22 #[.agg #[.int .u64 (s 4).x0, .int .u64 (s 4).x1, .int .u64 (s 4).x2, .int .u64 (s 4).x3], .agg #[.int .u64 (s' 4).x0, .int .u64 (s' 4).x1, .int .u64 (s' 4).x2, .int .u64 (s' 4).x3]] x fun e w' => e = .returned (.bool true) ∧ Below x.heap.size x w') := hidden (fun x h => by have := alikeK (s 4) (s' 4) (HO2.out.1 4 (by omega)) (HO2.out.2 4 (by omega)) x (HT.out.keep (bl_trans BZ.out h)); rw [h4] at this; exact this)
                        have RA4 : Hid (∀ x, Below wr.heap.size wr x → x.rangeAt w.heap.size 16 [.int .u64 (s 4).x0, .int .u64 (s 4).x1, .int .u64 (s 4).x2, .int .u64 (s 4).x3]) := hidden (fun x h => range_keep (R2.out.2.2.2.2.1) (bl_trans BZ.out h))
                        have RB4 : Hid (∀ x, Below wr.heap.size wr x → x.rangeAt (w.heap.size + 1) 16 [.int .u64 (s' 4).x0, .int .u64 (s' 4).x1, .int .u64 (s' 4).x2, .int .u64 (s' 4).x3]) := hidden (fun x h => range_keep (R3.out.2.2.2.2.1) (bl_trans BZ.out h))
                        have CS5 : Hid (∀ x, Below wr.heap.size wr x → Calls Tryd.prog 22 #[.agg #[.int .u64 (s 5).x0, .int .u64 (s 5).x1, .int .u64 (s 5).x2, .int .u64 (s 5).x3], .agg #[.int .u64 (s' 5).x0, .int .u64 (s' 5).x1, .int .u64 (s' 5).x2, .int .u64 (s' 5).x3]] x fun e w' => e = .returned (.bool true) ∧ Below x.heap.size x w') := hidden (fun x h => by have := alikeK (s 5) (s' 5) (HO2.out.1 5 (by omega)) (HO2.out.2 5 (by omega)) x (HT.out.keep (bl_trans BZ.out h)); rw [h5] at this; exact this)
                        have RA5 : Hid (∀ x, Below wr.heap.size wr x → x.rangeAt w.heap.size 20 [.int .u64 (s 5).x0, .int .u64 (s 5).x1, .int .u64 (s 5).x2, .int .u64 (s 5).x3]) := hidden (fun x h => range_keep (R2.out.2.2.2.2.2.1) (bl_trans BZ.out h))
                        have RB5 : Hid (∀ x, Below wr.heap.size wr x → x.rangeAt (w.heap.size + 1) 20 [.int .u64 (s' 5).x0, .int .u64 (s' 5).x1, .int .u64 (s' 5).x2, .int .u64 (s' 5).x3]) := hidden (fun x h => range_keep (R3.out.2.2.2.2.2.1) (bl_trans BZ.out h))
                        have CS6 : Hid (∀ x, Below wr.heap.size wr x → Calls Tryd.prog 22 #[.agg #[.int .u64 (s 6).x0, .int .u64 (s 6).x1, .int .u64 (s 6).x2, .int .u64 (s 6).x3], .agg #[.int .u64 (s' 6).x0, .int .u64 (s' 6).x1, .int .u64 (s' 6).x2, .int .u64 (s' 6).x3]] x fun e w' => e = .returned (.bool true) ∧ Below x.heap.size x w') := hidden (fun x h => by have := alikeK (s 6) (s' 6) (HO2.out.1 6 (by omega)) (HO2.out.2 6 (by omega)) x (HT.out.keep (bl_trans BZ.out h)); rw [h6] at this; exact this)
                        have RA6 : Hid (∀ x, Below wr.heap.size wr x → x.rangeAt w.heap.size 24 [.int .u64 (s 6).x0, .int .u64 (s 6).x1, .int .u64 (s 6).x2, .int .u64 (s 6).x3]) := hidden (fun x h => range_keep (R2.out.2.2.2.2.2.2.1) (bl_trans BZ.out h))
                        have RB6 : Hid (∀ x, Below wr.heap.size wr x → x.rangeAt (w.heap.size + 1) 24 [.int .u64 (s' 6).x0, .int .u64 (s' 6).x1, .int .u64 (s' 6).x2, .int .u64 (s' 6).x3]) := hidden (fun x h => range_keep (R3.out.2.2.2.2.2.2.1) (bl_trans BZ.out h))
                        have CS7 : Hid (∀ x, Below wr.heap.size wr x → Calls Tryd.prog 22 #[.agg #[.int .u64 (s 7).x0, .int .u64 (s 7).x1, .int .u64 (s 7).x2, .int .u64 (s 7).x3], .agg #[.int .u64 (s' 7).x0, .int .u64 (s' 7).x1, .int .u64 (s' 7).x2, .int .u64 (s' 7).x3]] x fun e w' => e = .returned (.bool true) ∧ Below x.heap.size x w') := hidden (fun x h => by have := alikeK (s 7) (s' 7) (HO2.out.1 7 (by omega)) (HO2.out.2 7 (by omega)) x (HT.out.keep (bl_trans BZ.out h)); rw [h7] at this; exact this)
                        have RA7 : Hid (∀ x, Below wr.heap.size wr x → x.rangeAt w.heap.size 30 [.int .u64 (s 7).x0, .int .u64 (s 7).x1, .int .u64 (s 7).x2, .int .u64 (s 7).x3]) := hidden (fun x h => range_keep (R2.out.2.2.2.2.2.2.2.1) (bl_trans BZ.out h))
                        have RB7 : Hid (∀ x, Below wr.heap.size wr x → x.rangeAt (w.heap.size + 1) 30 [.int .u64 (s' 7).x0, .int .u64 (s' 7).x1, .int .u64 (s' 7).x2, .int .u64 (s' 7).x3]) := hidden (fun x h => range_keep (R3.out.2.2.2.2.2.2.2.1) (bl_trans BZ.out h))
                        have CS8 : Hid (∀ x, Below wr.heap.size wr x → Calls Tryd.prog 22 #[.agg #[.int .u64 (s 8).x0, .int .u64 (s 8).x1, .int .u64 (s 8).x2, .int .u64 (s 8).x3], .agg #[.int .u64 (s' 8).x0, .int .u64 (s' 8).x1, .int .u64 (s' 8).x2, .int .u64 (s' 8).x3]] x fun e w' => e = .returned (.bool true) ∧ Below x.heap.size x w') := hidden (fun x h => by have := alikeK (s 8) (s' 8) (HO2.out.1 8 (by omega)) (HO2.out.2 8 (by omega)) x (HT.out.keep (bl_trans BZ.out h)); rw [h8] at this; exact this)
                        have RA8 : Hid (∀ x, Below wr.heap.size wr x → x.rangeAt w.heap.size 34 [.int .u64 (s 8).x0, .int .u64 (s 8).x1, .int .u64 (s 8).x2, .int .u64 (s 8).x3]) := hidden (fun x h => range_keep (R2.out.2.2.2.2.2.2.2.2) (bl_trans BZ.out h))
                        have RB8 : Hid (∀ x, Below wr.heap.size wr x → x.rangeAt (w.heap.size + 1) 34 [.int .u64 (s' 8).x0, .int .u64 (s' 8).x1, .int .u64 (s' 8).x2, .int .u64 (s' 8).x3]) := hidden (fun x h => range_keep (R3.out.2.2.2.2.2.2.2.2) (bl_trans BZ.out h))
                        have NB := hidden (BT.out (fun j hj => by
                          obtain rfl | rfl | rfl | rfl | rfl | rfl | rfl | rfl | rfl : j = 0 ∨ j = 1 ∨ j = 2 ∨ j = 3 ∨ j = 4 ∨ j = 5 ∨ j = 6 ∨ j = 7 ∨ j = 8 := (by omega)
                          · exact h0
                          · exact h1
                          · exact h2
                          · exact h3
                          · exact h4
                          · exact h5
                          · exact h6
                          · exact h7
                          · exact h8))
                        clear h0 h1 h2 h3 h4 h5 h6 h7 h8 BB BT HO2 R2 R3
                        have a28 := cell_keep C28.out.1 BZ.out
                        go_upto_region 9 with fail
                        clear a28 lq
                        refine al9_9 _ w.heap.size (w.heap.size + 1) s s' _ _ _ _ _ _ _ _ _ _ _ _ _ _ _ _ _ _ _ _ _ _ _ _ _ _ _ _ _ _ _ _ _ _ _ _ _ _ _ _ _ _ _ _ _ _ _ _ _ _ _ _ _ _ _ _ _ _ _ _ _ _ _ _ _ _ _ _ _ _ _ _ _ _ _ _ _ _ _ _ _ _ _ _ _ _ _ _ _ _ _ _ _ _ _ _ _ _ _ _ _ _ _ _ _ _ _ _ _ _ _ _ _ _ _ _ _ _ _ wr CS0 RA0 RB0 CS1 RA1 RB1 CS2 RA2 RB2 CS3 RA3 RB3 CS4 RA4 RB4 CS5 RA5 RB5 CS6 RA6 RB6 CS7 RA7 RB7 CS8 RA8 RB8 (hidden (fun _ _ _ _ _ _ _ _ _ _ _ _ _ _ _ _ _ _ _ _ _ _ _ _ _ _ _ _ _ _ _ _ _ _ _ _ _ _ _ _ _ _ _ _ _ _ _ _ _ _ _ _ _ _ _ _ _ _ _ _ _ _ _ _ _ _ wz hz => ?_))
                        have BY := hidden (bl_trans BZ.out hz)
                        clear hz CS0 RA0 RB0 CS1 RA1 RB1 CS2 RA2 RB2 CS3 RA3 RB3 CS4 RA4 RB4 CS5 RA5 RB5 CS6 RA6 RB6 CS7 RA7 RB7 CS8 RA8 RB8
                        go_wp2_with fail
                        refine bodyPost_ret (v := .bool true) (by simp [results, Tryd.results8, go_sem]) rfl ⟨by rw [NB.out], bl_trans MB.out BY.out⟩
end Go.Proofs.YtmhpgcfmllcnpaaDoor
