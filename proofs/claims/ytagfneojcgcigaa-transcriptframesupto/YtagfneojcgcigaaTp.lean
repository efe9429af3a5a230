import Derived.Test.YtagfneojcgcigaaTo
namespace Go.Proofs.Ytagfneojcgcigaa
open Go.RowKit
theorem own_far {w : World} {b n c : Nat} {e : TypeId} {P : Option Addr} {xs : List Value} (h : w.ownsRow b e 1 (.slice P n c) n xs) : ∀ a, P = some a → b ≤ a.block ∧ a.block < w.heap.size := fun a ha => h.lt a.block (by subst ha; rfl)
theorem By.move {w w' : World} {P : Option Addr} {c : Nat} {bs : List UInt8} (h : By w P c bs) (hb : ∀ a, P = some a → w'.heap[a.block]? = w.heap[a.block]?) : By w' P c bs :=
  ⟨h.nil, fun a ha j u hu => by
    have := h.lie a ha j u hu
    rw [← this]
    exact World.cell?_of_block (by rw [show (a.add j).block = a.block by unfold Addr.add; split <;> rfl]; exact hb a ha)⟩
theorem Ol.add {w w1 w2 : World} {o : Obj} {base : Nat} {vO vn : Value} {k : Nat} {ps : Nat → List UInt8} {Q : Nat → Option Addr} {C : Nat → Nat} (h : Ol w base vO k ps Q C) (hbase : base ≤ w.heap.size) (hb : Below w.heap.size w w1) {Qn : Option Addr} {Cn : Nat} (hy : By w1 Qn Cn (ps k)) (hq : ∀ a, Qn = some a → w.heap.size ≤ a.block ∧ a.block < w1.heap.size)
    (hg : (w1.alloc o).grownBy w2 vO.ownBlock) (ho : w2.ownsRow base 23 1 vn (k + 1) (((List.range k).map fun i => .slice (Q i) (ps i).length (C i)) ++ [.slice Qn (ps k).length Cn])) (hat : vn.ownBlock = vO.ownBlock ∨ vn.ownBlock = some (w1.alloc o).heap.size) :
    Ol w2 base vn (k + 1) ps (fun i => if i = k then Qn else Q i) (fun i => if i = k then Cn else C i) := by
  have hz : w1.heap.size + 1 ≤ w2.heap.size := by have := hg.size; simp at this; omega
  have h1 : ∀ j, j < w1.heap.size → vO.ownBlock ≠ some j → w2.heap[j]? = w1.heap[j]? := fun j hj hn => grown_blk hg hj (fun e => hn e.symm)
  have h2 : ∀ j, j < w.heap.size → vO.ownBlock ≠ some j → w2.heap[j]? = w.heap[j]? := fun j hj hn => (h1 j (Nat.lt_of_lt_of_le hj hb.size) hn).trans (hb.block j hj)
  refine ⟨?_, fun i hi => ?_, fun i hi a ha => ?_⟩
  · have : (List.range (k + 1)).map (fun i => Value.slice (if i = k then Qn else Q i) (ps i).length (if i = k then Cn else C i)) = ((List.range k).map fun i => .slice (Q i) (ps i).length (C i)) ++ [.slice Qn (ps k).length Cn] := by
      rw [List.range_succ, List.map_append]
      congr 1
      · refine List.map_congr_left fun i hi => ?_
        have := List.mem_range.1 hi
        rw [if_neg (by omega), if_neg (by omega)]
      · simp
    rw [this]
    exact ho
  · by_cases e : i = k
    · subst e
      simp only [if_true]
      exact hy.move (fun a ha => h1 _ (hq a ha).2 (fun e => by have := (h.list.lt _ e).2; have := (hq a ha).1; omega))
    · simp only [if_neg e]
      exact (h.each i (by omega)).move (fun a ha => have hf := h.far i (by omega) a ha; h2 _ hf.2.1 hf.2.2)
  · by_cases e : i = k
    · subst e
      simp only [if_true] at ha
      have hf := hq a ha
      refine ⟨by omega, by omega, fun e => ?_⟩
      rcases hat with h3 | h3
      · have := (h.list.lt _ (h3.symm.trans e)).2
        omega
      · have := Option.some.inj (h3.symm.trans e)
        simp at this
        omega
    · simp only [if_neg e] at ha
      have hf := h.far i (by omega) a ha
      have := hb.size
      refine ⟨hf.1, by omega, fun e => ?_⟩
      rcases hat with h3 | h3
      · exact hf.2.2 (h3.symm.trans e)
      · have := Option.some.inj (h3.symm.trans e)
        simp at this
        omega
theorem own_byP {w : World} {base c n : Nat} {P : Option Addr} {bs : List UInt8} (h : w.ownsRow base 5 1 (.slice P n c) n (cb bs)) : By w P c bs := by
  rcases h.2 with ⟨hv, h0⟩ | ⟨g, cap, cur, hv, _⟩
  · simp only [Value.slice.injEq] at hv
    obtain ⟨rfl, rfl, rfl⟩ := hv
    have : bs = [] := List.eq_nil_of_length_eq_zero (by have := h.1; rw [cb_len] at this; omega)
    subst this
    exact ⟨fun _ => ⟨rfl, rfl⟩, fun a ha => (by cases ha)⟩
  · simp only [Value.slice.injEq] at hv
    obtain ⟨rfl, _, rfl⟩ := hv
    exact own_by' h
theorem Hd.low {w w' : World} {base N : Nat} {vF vH : Value} {kF kH kR : Nat} {ex : List Value} {n : Nat → Nat} {r : Nat → List UInt8} {f cp : Nat → Nat} (h : Hd w base vF vH kF kH kR ex n r f cp) (h1 : ∀ j, vF.ownBlock = some j → j < N) (h2 : ∀ j, vH.ownBlock = some j → j < N) (h3 : ∀ t, t < kR → f t < N) (hb : ∀ k, k < N → w'.heap[k]? = w.heap[k]?) : Hd w' base vF vH kF kH kR ex n r f cp :=
  ⟨own_blk h.full (fun g hg => hb g (h1 g hg)), own_blk h.head (fun g hg => hb g (h2 g hg)), fun i hi => own_blk (h.row i hi) (fun g hg => by have := Option.some.inj hg; subst this; exact hb _ (h3 i hi)), h.off, h.ne, h.fh⟩
/-- rows half turned -/
def rr (p : Nat → List UInt8) (i j : Nat) : Nat → List UInt8 := fun t => (if t < i then xr (p t) else if t = i then xj (p t) j else p t) ++ mk8
theorem rr_zero (p : Nat → List UInt8) : rr p 0 0 = fun t => p t ++ mk8 := by
  funext t
  unfold rr
  rw [if_neg (by omega)]
  split
  · rw [xj_zero]
  · rfl
theorem rr_next (p : Nat → List UInt8) (i : Nat) : rr p i (p i).length = rr p (i + 1) 0 := by
  funext t
  unfold rr
  by_cases h : t < i
  · rw [if_pos h, if_pos (by omega)]
  · rw [if_neg h]
    by_cases e : t = i
    · rw [if_pos e, if_pos (by omega), e, xj_all]
    · rw [if_neg e, if_neg (by omega)]
      split
      · rw [xj_zero]
      · rfl
/-- what turned answers -/
def TurnR (w : World) (base : Nat) (vF vH : Value) (ps : List (List UInt8)) (ex : List Value) (f cp : Nat → Nat) (e : Ending) (w' : World) : Prop :=
  ∃ (P : Option Addr) (cO : Nat) (Q : Nat → Option Addr) (C : Nat → Nat), e = .returned (.slice P (ps.map xr).length cO) ∧ Pt w' P (ps.map xr) Q C ∧ Hd w' base vF vH ps.length ps.length ps.length ex (fun i => (ps.getD i []).length) (fun i => xr (ps.getD i []) ++ mk8) f cp ∧ Bt (fun j => ∃ t, t < ps.length ∧ j = f t) w w'
set_option maxRecDepth 100000 in
set_option maxHeartbeats 16000000 in
theorem turned_any (ps : List (List UInt8)) (w : World) (hs : frl [] ps ≤ 2 ^ 40)
    (base : Nat) (hbase : base ≤ w.heap.size) (PF : Option Addr) (cF gH cH : Nat) (x : Value) (f cp : Nat → Nat) (hH : Hd w base (.slice PF ps.length cF) (.slice (some ⟨gH, 0, none⟩) (ps.length + 1) cH) ps.length ps.length ps.length [x] (fun i => (ps.getD i []).length) (fun i => ps.getD i [] ++ mk8) f cp) :
    Calls Try.prog 11 #[.agg #[.slice PF ps.length cF, .slice (some ⟨gH, 0, none⟩) (ps.length + 1) cH]] w fun e w' => TurnR w base (.slice PF ps.length cF) (.slice (some ⟨gH, 0, none⟩) (ps.length + 1) cH) ps [x] f cp e w' := by
  have HS := hidden hs
  have HBS := hidden hbase
  have HPL : Hid (ps.length ≤ 2 ^ 38) := hidden (by have := len_le ps; unfold frl at hs; omega)
  have HLF := hidden (fun j hj => (hH.full.lt j hj).2)
  have HLH := hidden (fun j hj => (hH.head.lt j hj).2)
  have HF : Hid (∀ t, t < ps.length → f t < w.heap.size) := hidden (fun t ht => ((hH.row t ht).lt (f t) rfl).2)
  have HH := hidden (hH.stay (bl_alloc w (.cells #[.slice PF ps.length cF, .slice (some ⟨gH, 0, none⟩) (ps.length + 1) cH] 27)))
  have HB : Hid (Bt (fun j => ∃ t, t < ps.length ∧ j = f t) w (w.alloc (.cells #[.slice PF ps.length cF, .slice (some ⟨gH, 0, none⟩) (ps.length + 1) cH] 27))) := hidden (Bt.of (bl_alloc w _))
  have HX : Hid (B2 (w.alloc (.cells #[.slice PF ps.length cF, .slice (some ⟨gH, 0, none⟩) (ps.length + 1) cH] 27)) w.heap.size 27 (.slice PF ps.length cF) (.slice (some ⟨gH, 0, none⟩) (ps.length + 1) cH)) := hidden (heap_alloc_new w _)
  obtain ⟨i0, hi, hz0, hz1, hz2⟩ := info_parts info23
  have HI := hidden hi
  have HZ0 := hidden hz0
  have HZ1 := hidden hz1
  have HZ2 := hidden hz2
  have HU : Hid (Try.prog.underlying 22 = some (.slice 23)) := hidden (by kernel_rfl)
  rw [← rr_zero (fun i => ps.getD i [])] at HH
  obtain ⟨M, hM⟩ : ∃ M, M = ps.length + 1 := ⟨_, rfl⟩
  rw [← hM] at HH HX HB HLH ⊢
  have HMM := hidden hM
  clear hs hH hi hz0 hz1 hz2 hbase hM
  go_enter Try.func11, Try.ntmps11
  go_upto_region 1 with fail
  have HZ : Hid (w.heap.size + 1 ≤ (w.alloc (.cells #[.slice PF ps.length cF, .slice (some ⟨gH, 0, none⟩) M cH] 27)).heap.size) := hidden (by rw [World.size_alloc]; exact Nat.le_refl _)
  generalize w.alloc (.cells #[.slice PF ps.length cF, .slice (some ⟨gH, 0, none⟩) M cH] 27) = w1 at HH HB HX HZ ⊢
  obtain ⟨N, hN⟩ : ∃ N, w.heap.size = N := ⟨_, rfl⟩
  have HN := hidden hN
  rw [hN] at HX HZ HF HBS HLF HLH
  rw [hN]
  clear hN
  go_wp2_with fail
  go_loopw [3, 4] (fun ov iv w' => ∃ (i : Nat) (Q : Nat → Option Addr) (C : Nat → Nat), i ≤ ps.length ∧ iv = .int .i64 i ∧ Hid (B2 w' N 27 (.slice PF ps.length cF) (.slice (some ⟨gH, 0, none⟩) M cH)) ∧ Hid (Hd w' base (.slice PF ps.length cF) (.slice (some ⟨gH, 0, none⟩) M cH) ps.length ps.length ps.length [x] (fun i => (ps.getD i []).length) (rr (fun i => ps.getD i []) i 0) f cp) ∧ Hid (Ol w' (N + 1) ov i (fun t => xr (ps.getD t [])) Q C) ∧ Hid (Bt (fun j => ∃ t, t < ps.length ∧ j = f t) w w') ∧ Hid (N + 1 ≤ w'.heap.size)) (fun _ i _ => ps.length - (intOf i).toNat)
  case atStart => exact ⟨0, fun _ => none, fun _ => 0, by omega, rfl, HX, HH, hidden ⟨World.ownsRow_nil _ _ _ _, fun i hi => absurd hi (by omega), fun i hi => absurd hi (by omega)⟩, HB, HZ⟩
  case round =>
    clear HX HH HB HZ
    obtain ⟨i, Q, C, hi, rfl, HX, HH, HO, HB, HZ⟩ := hrel
    by_cases hin : i < ps.length
    · obtain ⟨gF, hPF⟩ : ∃ gF, PF = some ⟨gF, 0, none⟩ := by
        obtain ⟨g, c, hv, _⟩ := own_some HH.out.full (by omega)
        exact ⟨g, by simp only [Value.slice.injEq] at hv; exact hv.1⟩
      have HPF := hidden hPF
      subst hPF
      have x0 := HX.out.c0
      have ii0 : (0 : Int) ≤ (i : Int) := by omega
      have ii1 : (i : Int) < (ps.length : Int) := by omega
      have ii2 : (i : Int) < (M : Int) := by have := HMM.out; omega
      have w9 : IntKind.i64.wrap ((i : Int) + 1) = (i : Int) + 1 := IntWalk.i64_in _ (by have := HPL.out; omega)
      have HP : ∃ p, p = ps.getD i [] := ⟨_, rfl⟩
      obtain ⟨p, hp⟩ := HP
      have HPI := hidden hp
      have lp : Hid (p.length ≤ 2 ^ 40) := hidden (by
        have h1 := sum_next ps i hin
        have h2 := take_sum ps (i + 1)
        have := HS.out
        unfold frl at this
        rw [hp]
        omega)
      clear hp
      go_upto_region 5 with fail
      clear x0
      go_wp2_with fail
      go_loopw [5] (fun jv w' => ∃ j : Nat, j ≤ p.length ∧ jv = .int .i64 j ∧ Hid (B2 w' N 27 (.slice (some ⟨gF, 0, none⟩) ps.length cF) (.slice (some ⟨gH, 0, none⟩) M cH)) ∧ Hid (Hd w' base (.slice (some ⟨gF, 0, none⟩) ps.length cF) (.slice (some ⟨gH, 0, none⟩) M cH) ps.length ps.length ps.length [x] (fun i => (ps.getD i []).length) (rr (fun i => ps.getD i []) i j) f cp) ∧ Hid (Ol w' (N + 1) u3 i (fun t => xr (ps.getD t [])) Q C) ∧ Hid (Bt (fun j => ∃ t, t < ps.length ∧ j = f t) w w') ∧ Hid (N + 1 ≤ w'.heap.size)) (fun j _ => p.length - (intOf j).toNat)
      case atStart => exact ⟨0, by omega, rfl, HX, HH, HO, HB, HZ⟩
      case round =>
        clear HX HH HB HZ HO
        rename World => wv
        obtain ⟨j, hj, rfl, HX, HH, HO, HB, HZ⟩ := hrel
        have hH9 := HH.out.head
        rw [HMM.out] at hH9
        have y1 := HX.out.c1
        have x3 : wv.cell? ⟨gH, i, none⟩ = some (.slice (some ⟨f i, 0, none⟩) p.length (cp i)) := by
          rw [World.ownsRow.cellAt (n := ps.length + 1) hH9 i (by omega), List.getElem?_append_left (by rw [shd_len]; exact hin), shd_at _ _ _ _ _ hin, HPI.out]
        by_cases hjn : j < p.length
        · have x2 : wv.drew.cell? ⟨gF, i, none⟩ = some (.slice (some ⟨f i, 0, none⟩) (p.length + 8) (cp i)) := by
            show wv.cell? _ = _
            rw [HH.out.full.cellAt i (by omega), shd_at _ _ _ _ _ hin, HPI.out]
          have x0 : wv.drew.cell? ⟨N, 0, none⟩ = _ := HX.out.c0
          have hrow := HH.out.row i hin
          have hri : rr (fun i => ps.getD i []) i j i = xj p j ++ mk8 := by unfold rr; rw [if_neg (by omega), if_pos rfl, HPI.out]
          have hrl : (rr (fun i => ps.getD i []) i j i).length = p.length + 8 := by rw [hri, List.length_append, xj_len]; rfl
          have x4 : wv.drew.cell? ⟨f i, j, none⟩ = some (.int .u8 (p[j].toNat : Int)) := by
            show wv.cell? _ = _
            rw [hrow.cellAt j (by simp only [← HPI.out]; omega), hri, cb_app, List.getElem?_append_left (by rw [cb_len, xj_len]; exact hjn)]
            simp only [cb, List.getElem?_map, xj_at p j hjn, Option.map_some]
          have f4 : wv.drew.frozen? ⟨f i, j, none⟩ = false := hrow.frozenAt j
          have j0 : (0 : Int) ≤ (j : Int) := by omega
          have j1 : (j : Int) < (p.length : Int) := by omega
          have j2 : (j : Int) < ((p.length + 8 : Nat) : Int) := by omega
          have w8 : IntKind.i64.wrap ((j : Int) + 1) = (j : Int) + 1 := IntWalk.i64_in _ (by have := lp.out; omega)
          have hx : bits .xor .u8 (p[j].toNat : Int) 59 = ((p[j] ^^^ 59).toNat : Int) := bits_xor8 p[j] 59
          have hfN := HF.out i hin
          have NX := hidden ((HX.out.blk (set_ne wv (f i) j N (.int .u8 ((p[j] ^^^ 59).toNat : Int)) (by omega))))
          have NH : Hid (Hd (wv.setCell ⟨f i, j, none⟩ (.int .u8 ((p[j] ^^^ 59).toNat : Int))) base (.slice (some ⟨gF, 0, none⟩) ps.length cF) (.slice (some ⟨gH, 0, none⟩) M cH) ps.length ps.length ps.length [x] (fun i => (ps.getD i []).length) (rr (fun i => ps.getD i []) i (j + 1)) f cp) := hidden (HH.out.setRow hin j _ (fun t ht => by unfold rr; simp only [if_neg ht]) (by
            rw [hri, List.set_append_left _ _ (by rw [xj_len]; exact hjn), xj_set p j hjn]
            unfold rr
            rw [if_neg (by omega), if_pos rfl, HPI.out]))
          have NO := hidden (HO.out.keep (w' := wv.setCell ⟨f i, j, none⟩ (.int .u8 ((p[j] ^^^ 59).toNat : Int))) (by simp) (fun k hk _ => set_ne wv (f i) j k _ (by omega)))
          have NB := hidden (HB.out.trans (Bt.set (w := wv) (S := fun j => ∃ t, t < ps.length ∧ j = f t) ⟨i, hin, rfl⟩ j (.int .u8 ((p[j] ^^^ 59).toNat : Int))))
          have NZ : Hid (N + 1 ≤ (wv.setCell ⟨f i, j, none⟩ (.int .u8 ((p[j] ^^^ 59).toNat : Int))).heap.size) := hidden (by simpa using HZ.out)
          generalize ((p[j] ^^^ 59).toNat : Int) = y at hx NX NH NO NB NZ
          generalize (p[j].toNat : Int) = b at hx x4
          clear hri hrl hrow hH9 hfN
          go_upto_region 8 with fail
          go_big_region
          all_goals
            have MH := hidden (NH.out.keep (w' := (wv.setCell ⟨f i, j, none⟩ (.int .u8 y)).drew) (fun _ _ _ => rfl))
            have MO := hidden (NO.out.keep (w' := (wv.setCell ⟨f i, j, none⟩ (.int .u8 y)).drew) (Nat.le_refl _) (fun _ _ _ => rfl))
            have MB := hidden (NB.out.trans (Bt.of (drew_blW _)))
            have MX : Hid (B2 (wv.setCell ⟨f i, j, none⟩ (.int .u8 y)).drew N 27 (.slice (some ⟨gF, 0, none⟩) ps.length cF) (.slice (some ⟨gH, 0, none⟩) M cH)) := NX
            have MZ : Hid (N + 1 ≤ (wv.setCell ⟨f i, j, none⟩ (.int .u8 y)).drew.heap.size) := NZ
            clear NH NO NB NX NZ x0 x2 x3 x4 y1 f4 hx HX HH HO HB HZ
            generalize (wv.setCell ⟨f i, j, none⟩ (.int .u8 y)).drew = wx at MH MO MB MX MZ ⊢
            go_wp2_with fail
            go_roundw
            case rel => exact ⟨j + 1, by omega, by go_num, MX, MH, MO, MB, MZ⟩
            case measure => simp [intOf]; omega
        · obtain rfl : j = p.length := by omega
          have lq : ¬ (p.length : Int) < (p.length : Int) := by omega
          have hrow := own_by' (HH.out.row i hin)
          have hri : rr (fun i => ps.getD i []) i p.length i = xr p ++ mk8 := by
            unfold rr
            rw [if_neg (by omega), if_pos rfl]
            show xj (ps.getD i []) p.length ++ mk8 = _
            rw [← HPI.out, xj_all]
          rw [hri] at hrow
          have HYR := hidden (hrow.less (xr p) ⟨mk8, rfl⟩)
          have hxl := xr_len p
          have HRN : Hid (rr (fun i => ps.getD i []) i p.length = rr (fun i => ps.getD i []) (i + 1) 0) := hidden (by
            have := rr_next (fun i => ps.getD i []) i
            simp only [← HPI.out] at this
            exact this)
          rw [HRN.out] at HH
          have HXL := hidden hxl
          clear hri hrow hH9 hxl
          go_wp2_with (first | (at_builtin; refine wpList_app_by rfl _ _ rfl wv.heap.size _ [] (xr p) (some ⟨f i, 0, none⟩) (cp i) rfl (show _ = Value.slice _ (xr p).length _ by rw [HXL.out]; rfl) (World.ownsRow_nil _ _ _ _) HYR.out (by have := lp.out; have := HXL.out; simp only [List.length_nil]; omega) (Nat.le_refl _) ?_; intro v2 w2 ho2 hg2; have HO2 := hidden ho2; have HB2 := hidden (below_grown hg2 (Nat.le_refl _) (fun j hj => by cases hj)); clear ho2 hg2; rw [List.nil_append] at HO2; obtain ⟨Pn, cn, rfl⟩ := own_shape HO2.out; have OL2 := hidden (HO.out.keep HB2.out.size (fun k _ hk => HB2.out.block k hk))) | (at_builtin; refine wpList_append_own_at _ rfl _ _ 22 rfl (N + 1) 23 i0 (.slice none 0 0) 1 24 HU.out HI.out HZ0.out HZ1.out HZ2.out rfl (by decide) u3 i _ rfl (OL2.out.list.alloc _) ⟨w2.heap.size, 0, none⟩ 1 1 [.slice Pn (xr p).length cn] rfl rfl (cells_new w2 _ _) (by simp [Value.oneCell']) (by have := HPL.out; unfold maxLen; omega) (by have := HPL.out; omega) (by have := HZ.out; have := HB2.out.size; simp; omega) ?_; intro v4 w4 how4 hgr4 hnil4 hat4))
          have OL4 := hidden (HO.out.add (by have := HZ.out; omega) HB2.out (Qn := Pn) (Cn := cn) (by show By w2 Pn cn (xr (ps.getD i [])); rw [← HPI.out]; exact own_byP HO2.out) (own_far HO2.out) hgr4 (by rw [← HPI.out]; exact how4) hat4)
          have KB : ∀ k, k < N + 1 → w4.heap[k]? = wv.heap[k]? := fun k hk => (grown_blk hgr4 (by have := HZ.out; have := HB2.out.size; omega) (fun e => by have := (HO.out.list.lt k e.symm).1; omega)).trans (HB2.out.block k (by have := HZ.out; omega))
          have HH4 := hidden (HH.out.low (N := N) (w' := w4) HLF.out HLH.out HF.out (fun k hk => KB k (by omega)))
          have HX4 := hidden (HX.out.blk (KB N (by omega)))
          have HB4 := hidden (((HB.out.trans (Bt.of HB2.out)).trans (Bt.of (bl_alloc w2 _))).grown hgr4 (fun k hk => by have := (HO.out.list.lt k hk).1; rw [HN.out]; omega))
          have HZ4 : Hid (N + 1 ≤ w4.heap.size) := hidden (by have := hgr4.size; simp at this; have := HZ.out; have := HB2.out.size; omega)
          refine ⟨⟨i + 1, _, _, by omega, by go_num, HX4, HH4, OL4, HB4, HZ4⟩, by simp [intOf]; omega⟩
    · obtain rfl : i = ps.length := by omega
      have lq : ¬ (ps.length : Int) < (ps.length : Int) := by omega
      have x0 := HX.out.c0
      obtain ⟨PO, cO, rfl⟩ := own_shape HO.out.list
      go_wp2_with fail
      refine bodyPost_ret (v := .slice PO ps.length cO) (by simp [results, Try.results11, go_sem]) rfl ⟨PO, cO, Q, C, by rw [List.length_map], ?_, ?_, HB.out⟩
      · have hl : (ps.map xr).length = ps.length := List.length_map _
        have hg : ∀ i, i < ps.length → (ps.map xr).getD i [] = xr (ps.getD i []) := fun i hi => by simp [List.getElem?_eq_getElem hi]
        refine ⟨fun h0 => ?_, fun i hi => ?_⟩
        · rw [hl] at h0 ⊢
          obtain ⟨g, c, hv, _⟩ := own_some HO.out.list h0
          simp only [Value.slice.injEq] at hv
          obtain ⟨rfl, _, rfl⟩ := hv
          refine ⟨g, 0, rfl, fun i hi => ?_⟩
          rw [Nat.zero_add, HO.out.list.cellAt i (by omega), hg i hi]
          simp [List.getElem?_range hi]
        · rw [hl] at hi
          rw [hg i hi]
          exact HO.out.each i hi
      · have : Hd wr base (.slice PF ps.length cF) (.slice (some ⟨gH, 0, none⟩) M cH) ps.length ps.length ps.length [x] (fun i => (ps.getD i []).length) (rr (fun i => ps.getD i []) ps.length 0) f cp := HH.out
        refine ⟨this.full, this.head, fun i hi => ?_, this.off, this.ne, this.fh⟩
        have h1 := this.row i hi
        unfold rr at h1
        rw [if_pos hi] at h1
        exact h1
end Go.Proofs.Ytagfneojcgcigaa
