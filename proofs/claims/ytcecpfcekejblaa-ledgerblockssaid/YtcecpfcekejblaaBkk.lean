import Derived.Test.YtcecpfcekejblaaBkl
namespace Go.Proofs.Ytcecpfcekejblaa
open Go.RowKit
set_option linter.unusedVariables false
/-- bytes stay when a list of lists is grown -/
theorem by_app {w w' : World} {B n b c : Nat} {v : Value} {vs : List Value} {p : List UInt8} (ho : w.ownsRow B 24 1 v n vs) (hs : 0 < n → ∃ P m d, vs[0]? = some (Value.slice P m d)) (hz : n = 0 → v = .slice none 0 0) (h1 : 1 ≤ p.length) (h : By w (some ⟨b, 0, none⟩) c p) (hg : w.grownBy w' v.ownBlock) : By w' (some ⟨b, 0, none⟩) c p := by
  have hb : b < w.heap.size := by
    have := h.at 0 (by omega)
    exact World.block_lt_of_cell? _ _ this
  refine h.blk (hg.block b hb (fun e => ?_))
  by_cases hn : 0 < n
  · exact By.ne ho hn (hs hn) h1 h e.symm
  · rw [hz (by omega)] at e
    cases e
theorem lv_app {w w' : World} {B n : Nat} {v : Value} {xs : List Value} (ho : w.ownsRow B 24 1 v n xs) (hs : 0 < n → ∃ P m d, xs[0]? = some (Value.slice P m d)) (hz : n = 0 → v = .slice none 0 0) (hg : w.grownBy w' v.ownBlock) : ∀ {vs : List Value} {ps : List (List UInt8)}, Lv w vs ps → Lv w' vs ps
  | [], [], _ => trivial
  | _ :: _, _ :: _, ⟨⟨b, c, e, h1, h2⟩, h⟩ => ⟨⟨b, c, e, h1, by_app ho hs hz h1 h2 hg⟩, lv_app ho hs hz hg h⟩
/-- the first lists are the ones with marks, without them -/
def Hs (vs hsl : List Value) (ps : List (List UInt8)) : Prop := ∀ j, j < hsl.length → ∃ b d : Nat, vs[j]? = some (.slice (some ⟨b, 0, none⟩) ((ps.getD j []).length + 3) d) ∧ hsl[j]? = some (.slice (some ⟨b, 0, none⟩) (ps.getD j []).length d)
theorem hs0 (hsl : List Value) (ps : List (List UInt8)) {vs : List Value} {i : Nat} (hl : hsl.length = i) (hs : Hs vs hsl ps) (hi : i < ps.length) : ∃ P m d, (hsl ++ List.replicate (ps.length - i) (Value.slice none 0 0))[0]? = some (Value.slice P m d) := by
  by_cases h : 0 < i
  · obtain ⟨b, d, _, e⟩ := hs 0 (by omega)
    exact ⟨_, _, _, by rw [List.getElem?_append_left (by omega)]; exact e⟩
  · obtain rfl : i = 0 := by omega
    obtain rfl : hsl = [] := List.eq_nil_of_length_eq_zero hl
    exact ⟨none, 0, 0, by rw [List.nil_append, List.getElem?_replicate, if_pos (by omega)]⟩
theorem put_h {w w' : World} {B H i g d : Nat} {hsl vs : List Value} {ps : List (List UInt8)} (ho : w.ownsRow B 24 1 (.slice (some ⟨H, 0, none⟩) ps.length ps.length) ps.length (hsl ++ List.replicate (ps.length - i) (.slice none 0 0))) (hl : hsl.length = i) (hs : Hs vs hsl ps) (hi : i < ps.length) (hg : vs[i]? = some (.slice (some ⟨g, 0, none⟩) ((ps.getD i []).length + 3) d))
    (h : w'.ownsRow B 24 1 (.slice (some ⟨H, 0, none⟩) ps.length ps.length) ps.length ((hsl ++ List.replicate (ps.length - i) (Value.slice none 0 0)).set i (Value.slice (some ⟨g, 0, none⟩) (ps.getD i []).length d))) :
    ∃ hsl : List Value, w'.ownsRow B 24 1 (.slice (some ⟨H, 0, none⟩) ps.length ps.length) ps.length (hsl ++ List.replicate (ps.length - (i + 1)) (.slice none 0 0)) ∧ hsl.length = i + 1 ∧ Hs vs hsl ps := by
  refine ⟨hsl ++ [.slice (some ⟨g, 0, none⟩) (ps.getD i []).length d], ?_, by simp [hl], fun j hj => ?_⟩
  · rw [List.set_append_right _ _ (by omega), hl, Nat.sub_self, show ps.length - i = (ps.length - (i + 1)) + 1 by omega, List.replicate_succ, List.set_cons_zero] at h
    rw [List.append_assoc]
    exact h
  · by_cases e : j < i
    · obtain ⟨b, d', e1, e2⟩ := hs j (by omega)
      exact ⟨b, d', e1, by rw [List.getElem?_append_left (by omega)]; exact e2⟩
    · have : j = i := by simp at hj; omega
      subst this
      exact ⟨g, d, hg, by rw [List.getElem?_append_right (by omega), hl]; simp⟩
theorem hs_pt {w : World} {B H : Nat} {vs hsl : List Value} {ps : List (List UInt8)} (ho : w.ownsRow B 24 1 (.slice (some ⟨H, 0, none⟩) ps.length ps.length) ps.length hsl) (hl : hsl.length = ps.length) (hs : Hs vs hsl ps) (hv : Lv w vs (wm ps)) : ∃ q c, Pt w (some ⟨H, 0, none⟩) ps q c := by
  have key : ∀ i, ∃ z : Option Addr × Nat, i < ps.length → hsl[i]? = some (.slice z.1 (ps.getD i []).length z.2) ∧ By w z.1 z.2 (ps.getD i []) := fun i => by
    by_cases hi : i < ps.length
    · obtain ⟨b, d, e1, e2⟩ := hs i (by omega)
      obtain ⟨b', d', e3, e4⟩ := hv.get i (by rw [wm_len]; exact hi)
      rw [e1] at e3
      have := Option.some.inj e3
      simp only [Value.slice.injEq, Option.some.injEq, Addr.mk.injEq, and_true] at this
      obtain ⟨rfl, _, rfl⟩ := this
      rw [wm_get ps i hi] at e4
      exact ⟨(_, _), fun _ => ⟨e2, e4.front⟩⟩
    · exact ⟨(none, 0), fun h => absurd h hi⟩
  obtain ⟨f, hf⟩ := Classical.axiomOfChoice key
  refine ⟨fun i => (f i).1, fun i => (f i).2, ⟨fun _ => ⟨H, 0, rfl, fun i hi => ?_⟩, fun i hi => (hf i hi).2⟩⟩
  rw [Nat.zero_add, ho.cellAt i (by omega)]
  exact (hf i hi).1
theorem range_row {w : World} {b : Nat} {T : TypeId} {cs : List Value} (h : w.heap[b]? = some (.cells cs.toArray T)) : w.rangeAt b 0 cs := fun j u hu => by
  rw [Nat.zero_add, cell_of_row w b j cs.toArray T (0, 0) h]
  simpa using hu
theorem dj_of {wx wy : World} {B B' s s' n m : Nat} {e e' : TypeId} {v u : Value} {xs ys : List Value} (h1 : wx.ownsRow B e s v n xs) (h2 : wy.ownsRow B' e' s' u m ys) (h : wx.heap.size ≤ B') : Xo.Dj v u := fun k hk e => by
  have := (h1.lt k hk).2
  have := (h2.lt k e).1
  omega
/-- one of three -/
def o3 {α : Type} (a b c : α) (i : Nat) : α := if i = 0 then a else if i = 1 then b else c
theorem apart3 (w0 wd : World) (P1 P3 P4 : Option Addr) (F1 F3 F4 : List UInt8) (c1 c3 c4 : Nat) (hb : Below w0.heap.size w0 wd) (h1 : wd.ownsRow w0.heap.size 5 1 (.slice P1 F1.length c1) F1.length (cb F1)) (h3 : wd.ownsRow w0.heap.size 5 1 (.slice P3 F3.length c3) F3.length (cb F3)) (h4 : wd.ownsRow w0.heap.size 5 1 (.slice P4 F4.length c4) F4.length (cb F4))
    (d13 : Xo.Dj (.slice P1 F1.length c1) (.slice P3 F3.length c3)) (d14 : Xo.Dj (.slice P1 F1.length c1) (.slice P4 F4.length c4)) (d34 : Xo.Dj (.slice P3 F3.length c3) (.slice P4 F4.length c4)) (n1 : F1.length ≤ 2 ^ 40) (n3 : F3.length ≤ 2 ^ 40) (n4 : F4.length ≤ 2 ^ 40) :
    Calls Try.prog 8 #[.slice (some ⟨wd.heap.size, 0, none⟩) 3 3] (wd.alloc (.cells #[.slice P1 F1.length c1, .slice P3 F3.length c3, .slice P4 F4.length c4] 24)) fun e w' => e = .returned (.bool true) ∧ Below w0.heap.size w0 w' := by
  have hk := bl_alloc wd (.cells #[.slice P1 F1.length c1, .slice P3 F3.length c3, .slice P4 F4.length c4] 24)
  have hc := cells_new wd [.slice P1 F1.length c1, .slice P3 F3.length c3, .slice P4 F4.length c4] 24
  have cs : ∀ i, i < 3 → i = 0 ∨ i = 1 ∨ i = 2 := fun i hi => by omega
  refine Xo.apart_any w0 _ wd.heap.size 3 3 (o3 F1.length F3.length F4.length) (o3 P1 P3 P4) (o3 c1 c3 c4) (o3 (cb F1) (cb F3) (cb F4)) ⟨by omega, fun i hi => ?_, fun i j hi hj hne => ?_, fun i hi => ?_⟩ ⟨bl_trans hb hk, fun i hi => ?_, fun i hi => ?_, Xo.Kt.refl _ _⟩ (by simp)
  · rcases cs i hi with rfl | rfl | rfl <;> simp only [o3] <;> simp <;> omega
  · rcases cs i hi with rfl | rfl | rfl <;> rcases cs j hj with rfl | rfl | rfl <;> first | exact absurd rfl hne | exact d13 | exact d14 | exact d34 | exact d13.symm | exact d14.symm | exact d34.symm
  · have key : ∀ {v : Value} {n : Nat} {xs : List Value}, wd.ownsRow w0.heap.size 5 1 v n xs → ¬ v.ownBlock = some wd.heap.size := fun h e => Nat.lt_irrefl _ (h.lt _ e).2
    rcases cs i hi with rfl | rfl | rfl
    · exact key h1
    · exact key h3
    · exact key h4
  · rcases cs i hi with rfl | rfl | rfl
    · exact hc 0 _ rfl
    · exact hc 1 _ rfl
    · exact hc 2 _ rfl
  · rcases cs i hi with rfl | rfl | rfl
    · exact own_stay h1 hk
    · exact own_stay h3 hk
    · exact own_stay h4 hk
theorem slot0 (P : Option Addr) (m d : Nat) {n : Nat} (vs : List Value) (hl : vs.length = n * 1) (h : 0 < n → ∃ P m d, vs[0]? = some (Value.slice P m d)) : ∃ P' m' d', (vs ++ [Value.slice P m d])[0]? = some (Value.slice P' m' d') := by
  by_cases hn : 0 < n
  · exact slot_snoc _ _ (h hn)
  · obtain rfl : vs = [] := List.eq_nil_of_length_eq_zero (by omega)
    exact ⟨P, m, d, rfl⟩
set_option maxRecDepth 100000 in
set_option maxHeartbeats 16000000 in
theorem law_any (h : Int) (par : List UInt8) (pa : Array Value) (hpa : pa = (cb par).toArray) (l0 : par.length = 64) (mint : List UInt8) (pm : Option Addr) (cm : Nat) (ps : List (List UInt8)) (P : Option Addr) (cn : Nat) (q : Nat → Option Addr) (c : Nat → Nat) (w : World) (hM : By w pm cm mint) (hP : Pt w P ps q c)
    (sm : mint.length ≤ 140737488351232) (sp : ps.length ≤ 5864062014634) (se : ∀ i, i < ps.length → (ps.getD i []).length ≤ 140737488351232) :
    Calls Try.prog 3 #[.agg pa, .int .i64 h, .slice pm mint.length cm, .slice P ps.length cn] w fun e w' => e = .returned (.bool true) ∧ Below w.heap.size w w' := by
  have HX := hidden (heap_alloc_new w (.cells pa 23))
  have B0 := hidden (bl_alloc w (.cells pa 23))
  have SZ := hidden (World.size_alloc w (.cells pa 23))
  have PW := hidden hP
  have MW := hidden hM
  have SM := hidden sm
  have SP := hidden sp
  have SE := hidden se
  have L0 := hidden l0
  have PA := hidden hpa
  have RM0 := hidden (room_any pm cm mint (w.alloc (.cells pa 23)) (hM.keep (bl_alloc w _)) sm)
  clear hP hM sm sp se l0 hpa
  go_enter Try.func3, Try.ntmps3
  go_upto_region 1 with fail
  obtain ⟨bx, hbx⟩ : ∃ bx, bx = w.heap.size := ⟨_, rfl⟩
  rw [← hbx] at HX
  have SX : Hid (w.heap.size ≤ bx) := hidden (by omega)
  have SY : Hid (bx < (w.alloc (.cells pa 23)).heap.size) := hidden (by rw [SZ.out]; omega)
  rw [← hbx]
  clear hbx SZ
  generalize w.alloc (.cells pa 23) = w1 at *
  go_upto_region 2 with (first | (go_at_call 4; refine RM0.out.mono ?_; rintro e w2 ⟨v, rfl, ho, hb⟩; obtain ⟨f, cf, rfl, hf1, _⟩ := own_some ho (by simp [mk8]); have FB := hidden (own_byQ ho); have FC : Hid (mint.length + 3 ≤ cf) := hidden (by simpa [mk8] using hf1); have B2 := hidden hb; clear ho hb hf1))
  rw [show mk8.length = 3 from rfl]
  clear RM0
  go_wp2_with fail
  go_loopw [10, 11] (fun V iv w' => ∃ i : Nat, i ≤ ps.length ∧ iv = .int .i64 i ∧ Hid (∃ vs, w'.ownsRow w1.heap.size 24 1 V i vs ∧ Lv w' vs (wm (ps.take i)) ∧ Cq vs ∧ (0 < i → ∃ P m d, vs[0]? = some (Value.slice P m d)) ∧ (i = 0 → V = .slice none 0 0)) ∧ Hid (Below w1.heap.size w1 w') ∧ Hid (By w' (some ⟨f, 0, none⟩) cf (mint ++ mk8))) (fun _ i _ => ps.length - (intOf i).toNat)
  case atStart => exact ⟨0, by omega, rfl, hidden ⟨[], World.ownsRow_nil _ _ _ _, trivial, fun v hv => (by cases hv), fun h => absurd h (by omega), fun _ => rfl⟩, B2, FB⟩
  case round =>
    clear B2 FB
    obtain ⟨i, hi, rfl, hI, hB, hF⟩ := hrel
    by_cases hin : i < ps.length
    · have i0' : (0 : Int) ≤ (i : Int) := by omega
      have i1 : (i : Int) < (ps.length : Int) := by omega
      have w9 : IntKind.i64.wrap ((i : Int) + 1) = (i : Int) + 1 := IntWalk.i64_in _ (by have := SP.out; omega)
      obtain ⟨b, o, hPo, hc⟩ := PW.out.lie (by omega)
      have hwb := bl_trans B0.out hB.out
      have x0 := cell_keep (hc i hin) hwb
      have CR := hidden (room_any (q i) (c i) (ps.getD i []) wr ((PW.out.each i hin).keep hwb) (SE.out i hin))
      have HN := hidden (wm_next ps i hin)
      have E3 : Hid ((ps.getD i [] ++ mk8).length = (ps.getD i []).length + 3) := hidden (by simp [mk8])
      generalize ps.getD i [] ++ mk8 = y at CR HN E3
      generalize (ps.getD i []).length = m at x0 CR E3
      generalize q i = qi at x0 CR
      generalize c i = ci at x0 CR
      obtain ⟨vs, ho, hv, hq, hs, hz⟩ := hI.out
      have HO := hidden ho
      have HV := hidden hv
      have HQ := hidden hq
      have HS := hidden hs
      have HZ := hidden hz
      subst hPo
      clear hc ho hv hq hs hz hI hwb
      go_wp2_with (first
        | (go_at_call 4; refine CR.out.mono ?_; rintro e wa ⟨v, rfl, ho, hb⟩; obtain ⟨g, d, rfl, hd, _⟩ := own_some ho (by rw [E3.out]; omega); have BY := hidden (own_byQ ho); have HD := hidden hd; have O1 := hidden (own_stay HO.out hb); have V1 := hidden (HV.out.keep hb); have B1 := hidden (bl_trans hB.out hb); have F1 := hidden (hF.out.keep hb); clear ho hb hd CR HO HV hB hF)
        | (at_builtin; refine wpList_appV rfl _ _ rfl w1.heap.size i wa.heap.size _ (.slice (some ⟨g, 0, none⟩) y.length d) vs rfl rfl rfl (own_stay O1.out (bl_alloc wa _)) (by go_simp) (by have := SP.out; omega) (Nat.le_trans B1.out.size (bl_alloc wa _).size) ?_; intro v4 w4 ho4 hg4; have hne : ∀ {b' c' : Nat} {p' : List UInt8}, 1 ≤ p'.length → By (wa.alloc (.cells #[.slice (some ⟨g, 0, none⟩) y.length d] 24)) (some ⟨b', 0, none⟩) c' p' → By w4 (some ⟨b', 0, none⟩) c' p' := (fun {b' c' p'} h1 h2 => by_app (own_stay O1.out (bl_alloc wa _)) HS.out HZ.out h1 h2 hg4); have P4 : Hid (∃ vs, w4.ownsRow w1.heap.size 24 1 v4 (i + 1) vs ∧ Lv w4 vs (wm (ps.take (i + 1))) ∧ Cq vs ∧ (0 < (i + 1) → ∃ P m d, vs[0]? = some (Value.slice P m d)) ∧ ((i + 1) = 0 → v4 = .slice none 0 0)) := hidden ⟨_, ho4, (by rw [HN.out]; exact lv_app (own_stay O1.out (bl_alloc wa _)) HS.out HZ.out hg4 ((V1.out.keep (bl_alloc wa _)).snoc (by rw [E3.out]; omega) (BY.out.keep (bl_alloc wa _)))), HQ.out.snoc HD.out, fun _ => slot0 _ _ _ _ O1.out.1 HS.out, fun h => absurd h (by omega)⟩; have B4 := hidden (below_trans (bl_trans B1.out (bl_alloc wa _)) (below_grown hg4 (Nat.le_trans B1.out.size (bl_alloc wa _).size) (fun k hk => (O1.out.lt k hk).1))); have F4 := hidden (hne (by simp [mk8]) (F1.out.keep (bl_alloc wa _))); clear ho4 hg4 hne O1 V1 BY B1 F1))
      go_roundw
      case rel => exact ⟨i + 1, by omega, by go_num, P4, B4, F4⟩
      case measure => simp [intOf]; omega
    · obtain rfl : i = ps.length := by omega
      have lq : ¬ (ps.length : Int) < (ps.length : Int) := by omega
      have hI2 := hI.out
      rw [List.take_length] at hI2
      have I2 := hidden hI2
      clear hI hI2
      go_upto_region 7 with fail
      obtain ⟨vs, ho, hv, hq, hs, hz⟩ := I2.out
      have HO := hidden ho
      have HV := hidden hv
      have HQ := hidden hq
      have HA : Hid (∀ k, u10.ownBlock = some k → k < wr.heap.size) := hidden (fun k hk => (ho.lt k hk).2)
      clear ho hv hq hs hz I2 lq
      obtain ⟨H, hH⟩ : ∃ H, H = wr.heap.size := ⟨_, rfl⟩
      have SH : Hid (w1.heap.size ≤ H) := hidden (by rw [hH]; exact hB.out.size)
      rw [← hH] at HA
      go_upto_region 8 with (first | (refine wpList_makeV rfl _ rfl ps.length w1.heap.size rfl (by have := SP.out; omega) hB.out.size ?_; intro wh oh bh sh; have OH := hidden oh; have O1 := hidden (own_stay HO.out bh); have V1 := hidden (HV.out.keep bh); have B1 := hidden (bl_trans hB.out bh); have F1 := hidden (hF.out.keep bh); rw [← hH] at OH; clear oh bh sh HO HV hB hF))
      rw [← hH]
      clear hH
      have I3 : Hid (∃ hsl : List Value, wh.ownsRow w1.heap.size 24 1 (.slice (some ⟨H, 0, none⟩) ps.length ps.length) ps.length (hsl ++ List.replicate (ps.length - 0) (.slice none 0 0)) ∧ hsl.length = 0 ∧ Hs vs hsl ps) := hidden ⟨[], OH.out, rfl, fun j hj => absurd hj (by simp)⟩
      clear OH
      go_wp2_with fail
      go_loopw [13] (fun iv w' => ∃ i : Nat, i ≤ ps.length ∧ iv = .int .i64 i ∧ Hid (∃ hsl : List Value, w'.ownsRow w1.heap.size 24 1 (.slice (some ⟨H, 0, none⟩) ps.length ps.length) ps.length (hsl ++ List.replicate (ps.length - i) (.slice none 0 0)) ∧ hsl.length = i ∧ Hs vs hsl ps) ∧ Hid (w'.ownsRow w1.heap.size 24 1 u10 ps.length vs) ∧ Hid (Lv w' vs (wm ps)) ∧ Hid (Below w1.heap.size w1 w') ∧ Hid (By w' (some ⟨f, 0, none⟩) cf (mint ++ mk8))) (fun i _ => ps.length - (intOf i).toNat)
      case atStart => exact ⟨0, by omega, rfl, I3, O1, V1, B1, F1⟩
      case round =>
        clear I3 O1 V1 B1 F1
        obtain ⟨i, hi, rfl, hI, hO, hV, hB, hF⟩ := hrel
        by_cases hin : i < ps.length
        · have i0' : (0 : Int) ≤ (i : Int) := by omega
          have i1 : (i : Int) < (ps.length : Int) := by omega
          have w9 : IntKind.i64.wrap ((i : Int) + 1) = (i : Int) + 1 := IntWalk.i64_in _ (by have := SP.out; omega)
          replace hO := hidden (own_stay hO.out (drew_blW wr))
          replace hV := hidden (hV.out.keep (drew_blW wr))
          replace hB := hidden (bl_trans hB.out (drew_blW wr))
          replace hF := hidden (hF.out.keep (drew_blW wr))
          obtain ⟨b, o, hPo, hc⟩ := PW.out.lie (by omega)
          have hwb := bl_trans B0.out hB.out
          have x0 := cell_keep (hc i hin) hwb
          obtain ⟨a, ca, hua, hac, _⟩ := own_some hO.out (by omega)
          have hO2 := hO.out
          rw [hua] at hO2
          have y0 := hO2.cellAt i (by omega)
          obtain ⟨g, d, hg1, hg2, _⟩ := row_at hV.out HQ.out i hin
          rw [hg1] at y0
          obtain ⟨hsl, ho, hl, hs⟩ := hI.out
          replace ho := own_stay ho (drew_blW wr)
          have z0 : wr.drew.cell? ⟨H, i, none⟩ = some (.slice none 0 0) := by
            rw [ho.cellAt i (by omega), List.getElem?_append_right (by omega), hl, Nat.sub_self, List.getElem?_replicate, if_pos (by omega)]
          have zf := ho.frozenAt i
          have hst := ho.stored i (.slice (some ⟨g, 0, none⟩) (ps.getD i []).length d)
          have NX := hidden (put_h ho hl hs hin hg1 hst.1)
          have GH := hidden hst.2
          have gf := hidden (And.intro ho (fun (_ : 0 < ps.length) => hs0 hsl ps hl hs hin))
          have d0 : ((ps.getD i []).length : Int) ≤ (d : Int) := by omega
          have d1 : (0 : Int) ≤ ((ps.getD i []).length : Int) := by omega
          subst hPo hua
          have O4 := hidden (hO.out.kept GH.out (.inr (fun e => Nat.lt_irrefl _ (HA.out _ e))))
          have V4 := hidden (lv_app gf.out.1 gf.out.2 (fun e => absurd e (by omega)) GH.out hV.out)
          have F4 := hidden (by_app gf.out.1 gf.out.2 (fun e => absurd e (by omega)) (by simp [mk8]) hF.out GH.out)
          have B4 := hidden (below_trans hB.out (below_grown GH.out hB.out.size (fun k hk => by obtain rfl := Option.some.inj hk; exact SH.out)))
          clear hc hwb hO2 hg1 hg2 ho hl hs hst hI hO hV hB hF hac gf
          generalize (ps.getD i []).length = m at *
          go_wp2_with fail
          go_region_with fail
          all_goals
            (rw [show (wr.setCell ⟨H, i, none⟩ (.slice (some ⟨g, 0, none⟩) m d)).drew = wr.drew.setCell ⟨H, i, none⟩ (.slice (some ⟨g, 0, none⟩) m d) from rfl]
             generalize wr.drew.setCell ⟨H, i, none⟩ (.slice (some ⟨g, 0, none⟩) m d) = w5 at *
             clear x0 y0 z0 zf GH
             go_wp2_with fail
             go_roundw)
          case rel => exact ⟨i + 1, by omega, by go_num, NX, O4, V4, B4, F4⟩
          case measure => simp [intOf]; omega
          case rel => exact ⟨i + 1, by omega, by go_num, NX, O4, V4, B4, F4⟩
          case measure => simp [intOf]; omega
        · obtain rfl : i = ps.length := by omega
          have lq : ¬ (ps.length : Int) < (ps.length : Int) := by omega
          obtain ⟨hsl, ho, hl, hs⟩ := hI.out
          rw [Nat.sub_self, List.replicate_zero, List.append_nil] at ho
          obtain ⟨qh, ch, hpt⟩ := hs_pt ho hl hs hV.out
          have PH := hidden hpt
          have PI := hidden (PW.out.keep (bl_trans B0.out hB.out))
          have MI := hidden (MW.out.keep (bl_trans B0.out hB.out))
          have HB := hidden (hB.out.block bx SY.out)
          have HX2 : Hid (wr.heap[bx]? = some (.cells pa 23)) := hidden (by rw [HB.out]; exact HX.out)
          have BW := hidden (bl_trans B0.out hB.out)
          clear ho hl hs hpt hI HX HB B0 hB SX SY SH HA PW MW
          generalize wr = w0 at *
          obtain rfl := PA.out
          have K0 : Hid (w0.rangeAt bx 0 (cb par)) := hidden (range_row HX2.out)
          have FM := hidden hF.out.front
          have d0 : (mint.length : Int) ≤ (cf : Int) := by have := FC.out; omega
          have d1 : (0 : Int) ≤ (mint.length : Int) := by omega
          have CB := hidden (fun (y : World) (hy : Below w0.heap.size w0 y) => block_any h par _ rfl L0.out mint _ cf ps _ ps.length qh ch y (FM.out.keep hy) (PH.out.keep hy))
          have CR := hidden (fun (y : World) (hy : Below w0.heap.size w0 y) => rblock_any h par _ rfl L0.out mint pm cm ps P cn q c y (MI.out.keep hy) (PI.out.keep hy))
          have C1 := hidden (fun (y : World) => block_any 1 par _ rfl L0.out [] none 0 [] none 0 q c y (by_none y) ⟨fun h => absurd h (by simp), fun i hi => absurd hi (by simp)⟩)
          have XL := hidden (fun (y : World) (hy : Below w0.heap.size w0 y) => (hy.block bx (Array.getElem?_eq_some_iff.1 HX2.out).1).trans HX2.out)
          have IT := hidden (it64 par L0.out)
          go_upto_region 12 with fail
          refine lb12 _ h bx mint.length cm f cf H ps.length pm par (An h par mint ps) _ _ _ _ _ _ _ _ _ _ _ _ _ _ _ _ _ _ _ _ _ _ _ _ _ _ _ _ _ _ _ _ _ _ _ _ _ _ _ _ _ _ _ _ _ _ _ _ _ _ _ _ _ _ _ _ _ _ _ _ _ _ _ _ _ _ _ _ _ _ _ _ _ _ _ _ _ _ _ _ _ _ _ _ _ _ _ _ _ _ _ _ _ _ _ _ _ _ _ _ _ _ _ _ _ _ _ _ _ _ _ _ _ _ _ _ _ _ _ _ _ _ _ _ _ _ _ _ _ _ _ _ _ _ _ _ w0 d0 d1 K0 (hidden ut64) IT (hidden fun y hy => CB.out y hy) (hidden ?_)
          intro v1 E1 F1 wa a1 o1 b1
          obtain ⟨P1, c1, rfl, y1⟩ := own_by o1
          have A1 := hidden a1
          have O1 := hidden o1
          have B1 := hidden b1
          have X1 := hidden (XL.out _ b1)
          have CR1 := hidden (CR.out _ b1)
          clear a1 o1 b1 y1 CR
          go_upto_region 14 with (first | (refine wpList_load_row rfl 23 _ rfl bx rfl 23 _ (0, 0) _ X1.out ut64 rfl (by rw [IT.out]; simp) ?_) | (go_at_call 6; refine CR1.out.mono ?_; rintro e wb ⟨vr, Er, Fr, rfl, ar, or', br⟩; obtain ⟨rfl, rfl⟩ := ar.same A1.out; obtain ⟨Pr, cr, rfl, yr⟩ := own_by or'; have YR := hidden yr; have B2 := hidden (bl_trans B1.out br); have O2 := hidden (own_stay O1.out br); have X2 := hidden (XL.out _ (bl_trans B1.out br)); have S2 := hidden br.size; clear ar or' br yr))
          clear CR1 X1
          have CB1 := hidden (C1.out wb)
          go_upto_region 15 with (first | (refine wpList_load_row rfl 23 _ rfl bx rfl 23 _ (0, 0) _ X2.out ut64 rfl (by rw [IT.out]; simp) ?_) | (go_at_call 5; refine CB1.out.mono ?_; rintro e wc ⟨v3, E3, F3, rfl, a3, o3, b3⟩; obtain ⟨P3, c3, rfl, _⟩ := own_by o3; have O3 := hidden o3; have N3 := hidden (a3.len L0.out); have B3 := hidden (bl_trans B2.out b3); have O13 := hidden (own_stay O2.out b3); have YR3 := hidden (YR.out.keep b3); have S3 := hidden b3.size; clear a3 o3 b3))
          clear CB1 X2 YR O2 C1
          have K3 : Hid (wc.rangeAt bx 0 (cb par)) := hidden (range_row (XL.out _ B3.out))
          refine lb15 _ h bx mint.length cm f cf H ps.length pm par (An h par mint ps) _ _ _ _ _ _ _ _ _ _ _ _ _ _ _ _ _ _ _ _ _ _ _ _ _ _ _ _ _ _ _ _ _ _ _ _ _ _ _ _ _ _ _ _ _ _ _ _ _ _ _ _ _ _ _ _ _ _ _ _ _ _ _ _ _ _ _ _ _ _ _ _ _ _ _ _ _ _ _ _ _ _ _ _ _ _ _ _ _ _ _ _ _ _ _ _ _ _ _ _ _ _ _ _ _ _ _ _ _ _ _ _ _ _ _ _ _ _ _ _ _ _ _ _ _ _ _ _ _ _ _ _ _ _ _ _ wc d0 d1 K3 (hidden ut64) IT (hidden fun y hy => CB.out y (bl_trans B3.out hy)) (hidden ?_)
          intro v4 E4 F4 wd a4 o4 b4
          obtain ⟨rfl, rfl⟩ := a4.same A1.out
          obtain ⟨P4, c4, rfl, y4⟩ := own_by o4
          have Y4 := hidden y4
          have O4 := hidden o4
          have N4 := hidden (a4.len L0.out)
          have B4 := hidden (bl_trans B3.out b4)
          have O14 := hidden (own_stay O13.out b4)
          have O34 := hidden (own_stay O3.out b4)
          have YR4 := hidden (YR3.out.keep b4)
          have S4 := hidden b4.size
          have D13 := hidden (dj_of O1.out O34.out S2.out)
          have D14 := hidden (dj_of O1.out O4.out (Nat.le_trans S2.out S3.out))
          have D34 := hidden (dj_of O3.out O4.out (Nat.le_refl _))
          clear a4 o4 b4 y4 O13 O3 YR3 K3 CB XL IT PH K0 HX2
          have Y1 := hidden (own_byQ O14.out)
          have BA1 := hidden (bytes_any P1 Pr c1 cr F4 F4 wd Y1.out YR4.out)
          have BA2 := hidden (bytes_any P4 Pr c4 cr F4 F4 wd Y4.out YR4.out)
          rw [show (F4 == F4) = true from beq_self_eq_true F4] at BA1 BA2
          have AP := hidden (apart3 w0 wd P1 P3 P4 F4 F3 F4 c1 c3 c4 B4.out O14.out (own_less O34.out B2.out.size) (own_less O4.out B3.out.size) D13.out D14.out D34.out N4.out N3.out N4.out)
          have ST := hidden (fun (y : World) (hy : Below w0.heap.size w0 y) => stays_any f 0 cf pm cm mint y (hF.out.keep hy) FC.out (by have := SM.out; omega) (MI.out.keep hy))
          clear D13 D14 D34 O14 O34 O4 O1 Y1 Y4 YR4 S2 S3 S4 N3 N4 B1 B2 B3 A1 FM
          go_upto_region 18 with (first | (go_at_call 7; refine BA1.out.mono ?_; rintro e wq ⟨rfl, rfl⟩) | (go_at_call 7; refine BA2.out.mono ?_; rintro e wq ⟨rfl, rfl⟩) | (go_at_call 8; refine AP.out.mono ?_; rintro e wf ⟨rfl, hb⟩; have BF := hidden hb; clear hb) | (go_at_call 9; refine (ST.out _ BF.out).mono ?_; rintro e wq ⟨rfl, rfl⟩))
          clear AP ST BA1 BA2
          go_wp2_with fail
          go_loopw [22] (fun iv w' => ∃ i : Nat, i ≤ ps.length ∧ iv = .int .i64 i ∧ Hid (Below w0.heap.size w0 w')) (fun i _ => ps.length - (intOf i).toNat)
          case atStart => exact ⟨0, by omega, rfl, BF⟩
          case round =>
            clear BF
            obtain ⟨i, hi, rfl, hB⟩ := hrel
            by_cases hin : i < ps.length
            · have i0' : (0 : Int) ≤ (i : Int) := by omega
              have i1 : (i : Int) < (ps.length : Int) := by omega
              have w9 : IntKind.i64.wrap ((i : Int) + 1) = (i : Int) + 1 := IntWalk.i64_in _ (by have := SP.out; omega)
              replace hB := hidden (bl_trans hB.out (drew_blW wr))
              obtain ⟨b, o, hPo, hc⟩ := PI.out.lie (by omega)
              have x0 := cell_keep (hc i hin) hB.out
              have hO2 := own_stay hO.out hB.out
              obtain ⟨a, ca, hua, hac, _⟩ := own_some hO2 (by omega)
              rw [hua] at hO2
              have y0 := hO2.cellAt i (by omega)
              obtain ⟨g, d, hg1, hg2, hg3⟩ := row_at (hV.out.keep hB.out) HQ.out i hin
              rw [hg1] at y0
              have ST := hidden (stays_any g 0 d (q i) (c i) (ps.getD i []) wr.drew hg3 hg2 (by have := SE.out i hin; omega) ((PI.out.each i hin).keep hB.out))
              subst hPo hua
              clear hc hO2 hg1 hg2 hg3 hac
              generalize (ps.getD i []).length = m at *
              generalize q i = qi at *
              generalize c i = ci at *
              go_wp2_with fail
              go_region_with (first | (go_at_call 9; refine ST.out.mono ?_; rintro e wq ⟨rfl, rfl⟩))
              all_goals (go_wp2_with fail; go_roundw)
              all_goals first | exact ⟨i + 1, by omega, by go_num, hB⟩ | (simp [intOf]; omega)
            · obtain rfl : i = ps.length := by omega
              have lq : ¬ (ps.length : Int) < (ps.length : Int) := by omega
              have BZ := hidden (bl_trans BW.out hB.out)
              go_wp2_with fail
              refine bodyPost_ret (v := .bool true) (by simp [results, Try.results3, go_sem]) rfl ⟨rfl, BZ.out⟩
end Go.Proofs.Ytcecpfcekejblaa
