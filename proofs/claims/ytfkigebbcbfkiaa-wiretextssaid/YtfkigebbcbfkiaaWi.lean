import Derived.Test.YtfkigebbcbfkiaaWh
namespace Go.Proofs.Ytfkigebbcbfkiaa
open Go.RowKit
theorem grown_iter (w : World) (k : Nat) (s : ByteArray) (pos : Nat) : w.grownBy (w.iterAt k s pos) (some k) :=
  ⟨rfl, rfl, rfl, by rw [Lib.iterAt_size]; exact Nat.le_refl _, fun j _ hne => Lib.iterAt_other w k j s pos (fun e => hne (by rw [e]))⟩
theorem sb_get (l : List UInt8) (k : Nat) (h : k < (sb l).size) (h2 : k < l.length) : (sb l)[k]'h = l.getD k 0 := by
  simp [sb, h2]
  rfl
theorem ub_lt (l : List UInt8) (k : Nat) (h : ∀ i, i < k → dv (l.getD i 0) < 16) : (ub l k (k / 2)).toNat < 16 := by
  unfold ub
  rw [if_neg (by omega)]
  split
  · have := h (2 * (k / 2)) (by omega)
    rw [UInt8.toNat_ofNat']
    omega
  · decide
theorem ub_next (l : List UInt8) (k : Nat) (h : ∀ i, i < k → dv (l.getD i 0) < 16) (hd : dv (l.getD k 0) < 16) : 16 * (ub l k (k / 2)).toNat + dv (l.getD k 0) = (ub l (k + 1) (k / 2)).toNat := by
  unfold ub
  rw [if_neg (by omega)]
  by_cases e : k % 2 = 0
  · rw [if_neg (by omega), if_neg (by omega), if_pos (by omega), show 2 * (k / 2) = k by omega, UInt8.toNat_ofNat', show (0 : UInt8).toNat = 0 from rfl]
    omega
  · have h1 := h (2 * (k / 2)) (by omega)
    rw [if_pos (by omega), if_pos (by omega), show 2 * (k / 2) + 1 = k by omega, UInt8.toNat_ofNat', UInt8.toNat_ofNat']
    omega
theorem iterPos_of {w : World} {k : Nat} {s : ByteArray} {p : Nat} (h : w.heap[k]? = some (.stringIter s p)) : w.iterPos k = p := by unfold World.iterPos; rw [h]
/-- what Unhex answers -/
def UhR (l : List UInt8) (w w' : World) (v : Value) (e : Nat) : Prop :=
  match uh l with
  | some r => e = 0 ∧ w'.ownsRow w.heap.size 5 1 v r.length (cb r)
  | none => e = 104 ∧ v = .slice none 0 0
set_option maxRecDepth 100000 in
set_option maxHeartbeats 8000000 in
theorem unhex_any (l : List UInt8) (w : World) (hl : l.length ≤ 140737488355000 * 2) :
    Calls Try.prog 17 #[.string (sb l)] w fun e w' => ∃ (v : Value) (n : Nat), e = .returned (.tuple #[v, .int .i64 (n : Int)]) ∧ UhR l w w' v n ∧ Below w.heap.size w w' := by
  have z0 := sb_size l
  have HL := hidden hl
  by_cases he : l.length % 2 = 0
  · obtain ⟨m, hm⟩ : ∃ m, l.length / 2 = m := ⟨_, rfl⟩
    have r1 : (l.length : Int) % 2 = 0 := by omega
    have r2 : wrap64 ((l.length : Int) / 2) = (m : Int) := by unfold wrap64; omega
    have hmk : (Instr.makeSlice 22 (.int .i64 (m : Int)) (.int .i64 (m : Int))).run Try.prog w = .ok (.slice (some ⟨w.heap.size, 0, none⟩) (m) (m)) (w.alloc (.cells (madeCells #[.int .u8 0] (m)) 5)) := by
      have h := run_make (P := Try.prog) w 22 5 (Try.prog.info? 5).get! (.int .u8 0) (by kernel_rfl) (by kernel_rfl) (by kernel_rfl) .i64 .i64 (m : Int) (m : Int) (by omega) (by omega) (by rw [show (Try.prog.info? 5).get!.bytes = 1 by kernel_rfl]; omega) (by omega)
      rw [show (Try.prog.info? 5).get!.size = 1 by kernel_rfl, Int.toNat_natCast, Nat.mul_one] at h
      exact h
    have HO : Hid ((w.alloc (.cells (madeCells #[.int .u8 0] (m)) 5)).ownsRow w.heap.size 5 1 (.slice (some ⟨w.heap.size, 0, none⟩) (m) (m)) (m) (cb (ul l 0))) := hidden (by
      rw [ul_zero, hm, ← toList_madeCells_one]
      exact World.ownsRow_lit w _ (m) (Nat.le_refl _) (by unfold maxLen; omega) (by simp [madeCells]))
    have HB := hidden (bl_alloc w (.cells (madeCells #[.int .u8 0] (m)) 5))
    have hsz : (w.alloc (.cells (madeCells #[.int .u8 0] (m)) 5)).heap.size = w.heap.size + 1 := World.size_alloc w _
    generalize w.alloc (.cells (madeCells #[.int .u8 0] (m)) 5) = wz at hmk HO HB hsz
    have HI := hidden (World.iter_heap wz (sb l) 0)
    rw [hsz] at HI
    replace HO : Hid ((wz.iter (sb l) 0).ownsRow w.heap.size 5 1 (.slice (some ⟨w.heap.size, 0, none⟩) m m) m (cb (ul l 0))) := hidden (own_stay HO.out (bl_alloc wz (.stringIter (sb l) 0)))
    replace HB : Hid (Below w.heap.size w (wz.iter (sb l) 0)) := hidden (bl_trans HB.out (bl_alloc wz (.stringIter (sb l) 0)))
    clear hl
    go_enter Try.func17, Try.ntmps17
    go_upto_region 5 with fail
    generalize wz.iter (sb l) 0 = wy at HO HB HI
    clear hmk r1 r2
    go_loopw [20] (fun bv w' => bv = bv ∧ ∃ k : Nat, k ≤ l.length ∧ Hid (w'.heap[w.heap.size + 1]? = some (.stringIter (sb l) k)) ∧ Hid (∀ i, i < k → dv (l.getD i 0) < 16) ∧ Hid (w'.ownsRow w.heap.size 5 1 (.slice (some ⟨w.heap.size, 0, none⟩) m m) m (cb (ul l k))) ∧ Hid (Below w.heap.size w w')) (fun _ w' => l.length - w'.iterPos (w.heap.size + 1))
    case atStart => exact ⟨rfl, 0, by omega, HI, hidden (fun i hi => by omega), HO, HB⟩
    case round =>
      clear HO HB HI
      obtain ⟨-, k, hk, HI, HD, HO, HB⟩ := hrel
      by_cases hkn : k < l.length
      · by_cases hd : dv (l.getD k 0) < 16
        · have ha : (l.getD k 0).toNat < 128 := by
            unfold dv at hd
            split at hd
            · omega
            · split at hd <;> omega
          have hnx : ∀ ty, (Instr.next (.pointer (some ⟨w.heap.size + 1, 0, none⟩)) true ty).run Try.prog wr = .ok (.tuple #[.bool true, .int .i64 (k : Int), .int .i32 ((l.getD k 0).toNat : Int)]) (wr.iterAt (w.heap.size + 1) (sb l) (k + 1)) := fun ty => by
            have := Lib.run_next_ascii_at (P := Try.prog) wr (w.heap.size + 1) (sb l) k ty HI.out (by rw [sb_size]; exact hkn) (by rw [sb_get l k _ hkn]; exact ha)
            rw [sb_get l k _ hkn] at this
            exact this
          have I1 := hidden (Lib.iterAt_heap wr (w.heap.size + 1) (sb l) k (k + 1) HI.out)
          have G1 := grown_iter wr (w.heap.size + 1) (sb l) (k + 1)
          have O1 := hidden (own_kept HO.out G1 (by simp [Value.ownBlock]))
          have B1 := hidden (below_set HB.out G1 (by omega) (Nat.le_refl _))
          generalize wr.iterAt (w.heap.size + 1) (sb l) (k + 1) = w1 at hnx I1 O1 B1
          clear G1
          have hc := ub_lt l k HD.out
          have x0 := O1.out.cellAt (k / 2) (by omega)
          rw [cb_at _ _ (by rw [ul_len]; omega)] at x0
          have e0 : (ul l k)[k / 2]'(by rw [ul_len]; omega) = ub l k (k / 2) := by simp [ul]
          rw [e0] at x0
          have f0 := O1.out.frozenAt (k / 2)
          have e1 := u8_shl (ub l k (k / 2)).toNat (dv (l.getD k 0)) hc hd
          have e2 := ub_next l k HD.out hd
          have NS := O1.out.stored (k / 2) (.int .u8 ((ub l (k + 1) (k / 2)).toNat : Int))
          have NO := hidden NS.1
          rw [ul_set l k hkn he] at NO
          have NB := hidden (below_set B1.out NS.2 (Nat.le_refl _) (Nat.le_refl _))
          have NI := hidden ((NS.2.block (w.heap.size + 1) (Array.getElem?_eq_some_iff.1 I1.out).1 (by simp)).trans I1.out)
          have ND : Hid (∀ i, i < k + 1 → dv (l.getD i 0) < 16) := hidden (fun i hi => by
            by_cases h : i = k
            · subst h; exact hd
            · exact HD.out i (by omega))
          have DY := hidden (digit_yes (l.getD k 0) hd)
          rw [e2] at e1
          generalize (ub l (k + 1) (k / 2)).toNat = y at e1 NO NB NI e2
          generalize (ub l k (k / 2)).toNat = x at x0 e1 e2
          generalize dv (l.getD k 0) = dd at e1 DY e2
          generalize (l.getD k 0).toNat = cc at hnx DY
          have q0 : wrap64 ((k : Int) / 2) = ((k / 2 : Nat) : Int) := by unfold wrap64; have := HL.out; omega
          have q1 : (0 : Int) ≤ ((k / 2 : Nat) : Int) := by omega
          have q2 : ((k / 2 : Nat) : Int) < (m : Int) := by omega
          generalize k / 2 = kk at x0 f0 NO NB NI q0 q1 q2
          have P0 : wr.iterPos (w.heap.size + 1) = k := by unfold World.iterPos; rw [HI.out]
          have P1 := hidden (iterPos_of NI.out)
          clear NS e0 hc ha hd HI HD HO HB I1 O1 B1 e2
          go_wp2_with (first | (go_at_call 27; refine (DY.out _).mono ?_; rintro e w2 ⟨rfl, rfl⟩; clear DY))
          go_roundw
          case rel => first | exact ⟨trivial, k + 1, by omega, NI, ND, NO, NB⟩ | exact ⟨k + 1, by omega, NI, ND, NO, NB⟩
          case measure => rw [P1.out, P0]; omega
        · have hdv : ¬ dv (l.getD k 0) < 16 := hd
          obtain ⟨r, rw', hr1, hr2, hnx, G1⟩ : ∃ (r : Int) (w' : World), ¬ (48 ≤ r ∧ r ≤ 57) ∧ ¬ (97 ≤ r ∧ r ≤ 102) ∧ (∀ ty, (Instr.next (.pointer (some ⟨w.heap.size + 1, 0, none⟩)) true ty).run Try.prog wr = .ok (.tuple #[.bool true, .int .i64 (k : Int), .int .i32 r]) w') ∧ wr.grownBy w' (some (w.heap.size + 1)) := by
            refine ⟨((Utf8.decode (sb l) k).1 : Int), _, ?_, ?_, fun ty => Lib.run_next_any_at (P := Try.prog) wr (w.heap.size + 1) (sb l) k ty HI.out (by rw [sb_size]; exact hkn), grown_iter _ _ _ _⟩
            all_goals
              have hs : k < (sb l).size := by rw [sb_size]; exact hkn
              by_cases ha : ((sb l)[k]'hs).toNat < 128
              · rw [decode_ascii (sb l) k hs ha, sb_get l k hs hkn]
                unfold dv at hdv
                split at hdv
                · omega
                · split at hdv
                  · omega
                  · simp only; omega
              · have := (decode_high (sb l) k hs (by omega)).1
                omega
          have NB := hidden (below_set HB.out G1 (by omega) (Nat.le_refl _))
          have DN := hidden (digit_no r hr1 hr2)
          have HU := hidden (uh_bad l.length l k (Nat.le_refl _) hkn hdv)
          clear hr1 hr2 G1 HI HD HO HB hd hdv
          go_wp2_with (first | (go_at_call 27; refine (DN.out _).mono ?_; rintro e w2 ⟨rfl, rfl⟩; clear DN))
          refine bodyPost_ret (v := .tuple #[.slice none 0 0, .int .i64 104]) (by simp [results, Try.results17, go_sem]) rfl ⟨_, 104, rfl, by unfold UhR; rw [HU.out]; exact ⟨rfl, rfl⟩, NB.out⟩
      · obtain rfl : k = l.length := by omega
        have hnx : ∀ ty, (Instr.next (.pointer (some ⟨w.heap.size + 1, 0, none⟩)) true ty).run Try.prog wr = .ok (.tuple #[.bool false]) wr := fun ty => Lib.run_next_end_at (P := Try.prog) wr (w.heap.size + 1) (sb l) l.length ty HI.out (by rw [sb_size]; exact hkn)
        have HU := hidden (uh_all l he HD.out)
        clear HI HD
        go_wp2_with fail
        refine bodyPost_ret (v := .tuple #[.slice (some ⟨w.heap.size, 0, none⟩) m m, .int .i64 0]) (by simp [results, Try.results17, go_sem]) rfl ⟨_, 0, rfl, by unfold UhR; rw [HU.out]; refine ⟨rfl, ?_⟩; rw [ul_len, hm]; exact HO.out, HB.out⟩
  · have r1 : (l.length : Int) % 2 = 1 := by omega
    have HU := hidden (uh_odd l.length l (Nat.le_refl _) (by omega))
    clear hl
    go_enter Try.func17, Try.ntmps17
    go_wp2_with fail
    refine bodyPost_ret (v := .tuple #[.slice none 0 0, .int .i64 104]) (by simp [results, Try.results17, go_sem]) rfl ⟨_, 104, rfl, by unfold UhR; rw [HU.out]; exact ⟨rfl, rfl⟩, Below.refl _ _⟩
end Go.Proofs.Ytfkigebbcbfkiaa
