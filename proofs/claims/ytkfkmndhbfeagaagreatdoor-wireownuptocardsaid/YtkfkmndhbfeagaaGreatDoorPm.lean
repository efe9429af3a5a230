import Derived.Test.YtkfkmndhbfeagaaGreatDoorPl
namespace Go.Proofs.YtkfkmndhbfeagaaGreatDoor
open Go.RowKit
set_option linter.unusedVariables false
/-- the first i of a list of those that were read -/
def fL (l : List UInt8) (i : Nat) : Nat → E4 := fun j => if j < i then sv l (7 + 2 * j) else zero4
def fR (l : List UInt8) (i : Nat) : Nat → E4 := fun j => if j < i then sv l (8 + 2 * j) else zero4
theorem fL_up (l : List UInt8) (i : Nat) : up (fL l i) i (sv l (7 + 2 * i)) = fL l (i + 1) := by
  funext j
  unfold up fL
  by_cases e : j = i
  · subst e; rw [if_pos rfl, if_pos (by omega)]
  · rw [if_neg e]
    by_cases h : j < i
    · rw [if_pos h, if_pos (by omega)]
    · rw [if_neg h, if_neg (by omega)]
theorem fR_up (l : List UInt8) (i : Nat) : up (fR l i) i (sv l (8 + 2 * i)) = fR l (i + 1) := by
  funext j
  unfold up fR
  by_cases e : j = i
  · subst e; rw [if_pos rfl, if_pos (by omega)]
  · rw [if_neg e]
    by_cases h : j < i
    · rw [if_pos h, if_pos (by omega)]
    · rw [if_neg h, if_neg (by omega)]
theorem rb_end {w : World} {g q : Nat} {bs : List UInt8} {e : Int} (h : Rb w g q bs e) : Calls Tryz.prog 32 #[.pointer (some ⟨g, 0, none⟩)] w fun r w' => r = .returned (.int .i64 (Tr.en bs e)) ∧ Tr.Kp g w w' := by
  obtain ⟨P, c, h1, h2⟩ := h
  exact (Tr.end_any h1).mono fun r w' ⟨a, b, c⟩ => ⟨a, c⟩
set_option maxRecDepth 100000 in
set_option maxHeartbeats 16000000 in
theorem dec_any (P : Option Addr) (c k : Nat) (l : List UInt8) (w : World) (hT : Tb w) (hB : Tr.By w P c l) (hk : k ≤ 10) (hl : l.length = 32 * (9 + 2 * k)) :
    Calls Tryz.prog 8 #[.slice P l.length c] w fun e w' => ∃ v er, e = .returned (.tuple #[v, .int .i64 er]) ∧ Below w.heap.size w w' ∧
      ((er = 0 ∧ (∀ j, j < 9 + 2 * k → dn (ck l j) < Sm.L) ∧ ∃ bL bR : Nat, v = .agg (pcv (sv l 0) (sv l 1) (sv l 2) (sv l 3) (sv l 4) (sv l 5) (sv l 6) (sv l (7 + 2 * k)) (sv l (8 + 2 * k)) (.slice (some ⟨bL, 0, none⟩) k k) (.slice (some ⟨bR, 0, none⟩) k k)).toArray ∧ Rl w' bL 0 k (fL l k) ∧ Rl w' bR 0 k (fR l k) ∧ bL < w'.heap.size ∧ bR < w'.heap.size ∧ Shp w' bL 52 (k * 4) ∧ Shp w' bR 52 (k * 4) ∧ bL ≠ bR ∧ w.heap.size ≤ bL ∧ w.heap.size ≤ bR) ∨
       (er = 3 ∧ (∃ j, j < 9 + 2 * k ∧ ¬ dn (ck l j) < Sm.L) ∧ v = .agg (pcv zero4 zero4 zero4 zero4 zero4 zero4 zero4 zero4 zero4 (.slice none 0 0) (.slice none 0 0)).toArray)) := by
  have M0 := hidden ((Mw.start w).new (pcv zero4 zero4 zero4 zero4 zero4 zero4 zero4 zero4 zero4 (.slice none 0 0) (.slice none 0 0)) 55)
  have RO : Hid (∀ x, Calls Tryz.prog 29 #[.int .i64 (l.length : Int)] x fun e w' => e = .returned (.tuple #[.int .i64 (k : Int), .bool true]) ∧ w' = x) := hidden (fun x => (roundsOf_any l.length x (by omega)).mono fun e w' ⟨h1, h2⟩ => by
    rcases h1 with ⟨k', h3, h4, h5⟩ | ⟨h4, _⟩
    · obtain rfl : k' = k := by omega
      exact ⟨h5, h2⟩
    · exact absurd hl (h4 k hk))
  have NR := hidden (Tr.newReader_any (hB.keep M0.out.bel) (by omega))
  have T0 : Hid (5 < w.heap.size) := hidden (World.block_lt_of_cell? w _ hT.1)
  have HT := hidden hT
  have HL := hidden hl
  have HK := hidden hk
  have UP : Hid (Tryz.prog.underlying 55 = _) := hidden Tryz.underlying55
  have I2 := hidden (pcv_i2 zero4 zero4 zero4 zero4 zero4 zero4 zero4 zero4 zero4 (.slice none 0 0) (.slice none 0 0))
  have I1 := hidden (pcv_i zero4 zero4 zero4 zero4 zero4 zero4 zero4 zero4 zero4 (.slice none 0 0) (.slice none 0 0))
  have O2 := hidden (pcv_one zero4 zero4 zero4 zero4 zero4 zero4 zero4 zero4 zero4 none none 0 0 0 0)
  have ZL : Hid ((pcv zero4 zero4 zero4 zero4 zero4 zero4 zero4 zero4 zero4 (.slice none 0 0) (.slice none 0 0)).length = 38) := hidden rfl
  generalize hZ : pcv zero4 zero4 zero4 zero4 zero4 zero4 zero4 zero4 zero4 (.slice none 0 0) (.slice none 0 0) = zp at M0 I2 I1 O2 NR ZL ⊢
  have HZ := hidden hZ
  clear hZ hT hB hk hl
  go_enter Tryz.func8, Tryz.ntmps8
  go_upto_region 5 with (first | (refine wpList_allocP rfl rfl ?_; rw [HZ.out]) | (go_at_call 29; refine (RO.out _).mono ?_; rintro e wq ⟨rfl, hq⟩; rw [hq]; clear RO hq wq) | (go_at_call 13; refine (NR.out).mono ?_; rintro e w1 ⟨g, Q, d, rfl, hr, hg, hb⟩; have RD := hidden hr; have GG := hidden hg; have B1 := hidden hb; clear NR hr hg hb))
  have SZ : Hid ((w.alloc (.cells zp.toArray 55)).heap.size = w.heap.size + 1) := hidden (by simp)
  obtain ⟨qb, qo, rfl⟩ := RD.out.by'.none' (by have := HL.out; omega)
  have MW1 := hidden (M0.out.keep B1.out)
  refine dp5 _ k _ _ _ _ _ _ _ _ _ _ _ _ _ _ _ _ _ _ _ _ _ _ _ _ _ _ _ _ _ _ _ _ _ _ _ _ _ _ _ _ _ _ _ _ _ _ _ _ _ _ _ _ _ _ _ _ _ _ _ _ _ _ _ _ _ _ _ _ _ _ _ _ _ _ _ _ w1 HK.out (hidden (fun bL bR B7 wz mz n1 n2 n3 s1 s2 => ?_))
  obtain ⟨q, hq⟩ : ∃ q, qb = q := ⟨_, rfl⟩
  have QL0 := hidden (RD.out.fr _ rfl)
  have HD : Hid (Dn w g q B7 bL bR w.heap.size) := hidden (by
    have a := SZ.out; have b := GG.out; have c := T0.out; have d := RD.out.glt; have e := QL0.out
    have f1 := (mz.r (B7, _) (List.Mem.head _)).2.2.1
    have f2 := (mz.r (bL, _) (List.Mem.tail _ (List.Mem.head _))).2.2.1
    have f3 := (mz.r (bR, _) (List.Mem.tail _ (List.Mem.tail _ (List.Mem.head _)))).2.2.1
    simp only at f1 f2 f3 e
    subst hq
    exact ⟨by omega, by omega, by omega, by omega, by omega, by omega, by omega, by omega, by omega, by omega, by omega, by omega, by omega, by omega, by omega, by omega, by omega, by omega⟩)
  have BZ := hidden (show Below w1.heap.size w1 wz from mz.bel)
  have DM : Hid (Dm w g q B7 bL bR w.heap.size k (pcv zero4 zero4 zero4 zero4 zero4 zero4 zero4 zero4 zero4 (.slice (some ⟨bL, 0, none⟩) k k) (.slice (some ⟨bR, 0, none⟩) k k)) zp (fun _ => zero4) (fun _ => zero4) (ts l (0)).1 (ts l (0)).2 wz) := hidden ⟨⟨(bl_trans M0.out.bel (bl_trans B1.out BZ.out)), fun p hp => by
      simp only [List.mem_cons, List.not_mem_nil, or_false] at hp
      have hD := HD.out
      rcases hp with rfl | rfl | rfl | rfl
      · have := mz.r (B7, _) (List.Mem.head _); exact ⟨this.1, this.2.1, hD.h7, this.2.2.2⟩
      · have := mz.r (bL, _) (List.Mem.tail _ (List.Mem.head _)); exact ⟨this.1, this.2.1, hD.hL, this.2.2.2⟩
      · have := mz.r (bR, _) (List.Mem.tail _ (List.Mem.tail _ (List.Mem.head _))); exact ⟨this.1, this.2.1, hD.hR, this.2.2.2⟩
      · exact (MW1.out.keep BZ.out).r _ (by simp)⟩, ⟨_, _, RD.out.keep BZ.out, fun a ha => by obtain rfl := Option.some.inj ha; exact hq⟩, (HT.out.keep (bl_trans M0.out.bel (bl_trans B1.out BZ.out))), s1, s2⟩
  have QL : Hid (q < wz.heap.size) := hidden (Nat.lt_of_lt_of_le (hq ▸ QL0.out.2) BZ.out.size)
  clear mz n1 n2 n3 s1 s2 hq QL0 BZ MW1 M0 B1 RD GG SZ HT
  have NP : Hid (∀ i x, i < 9 + 2 * k → Rb x g q (ts l i).1 (ts l i).2 → Tb x → q < x.heap.size → Calls Tryz.prog 30 #[.pointer (some ⟨g, 0, none⟩)] x fun r w' => r = .returned (.agg #[.int .u64 (sv l i).x0, .int .u64 (sv l i).x1, .int .u64 (sv l i).x2, .int .u64 (sv l i).x3]) ∧ Rb w' g q (ts l (i + 1)).1 (ts l (i + 1)).2 ∧ Tr.Kp g x w') := hidden (fun i x hi h T hq => nextL T h (fun h0 => ts_room l _ HL.out i hi h0) hq)
  have NS : Hid (∀ i x, i < 9 + 2 * k → Rb x g q (ts l i).1 (ts l i).2 → Tb x → q < x.heap.size → Calls Tryz.prog 31 #[.pointer (some ⟨g, 0, none⟩)] x fun r w' => r = .returned (.agg #[.int .u64 (sv l i).x0, .int .u64 (sv l i).x1, .int .u64 (sv l i).x2, .int .u64 (sv l i).x3]) ∧ Rb w' g q (ts l (i + 1)).1 (ts l (i + 1)).2 ∧ Tr.Kp g x w') := hidden (fun i x hi h T hq => nextS T h (fun h0 => ts_room l _ HL.out i hi h0) hq)
  go_upto_region 7 with (first | (go_at_call 30; refine (NP.out _ _ (by omega) DM.out.rb DM.out.tb QL.out).mono ?_; rintro r wx ⟨rfl, hr, hk⟩; replace DM := hidden (DM.out.next HD.out hr hk); replace QL := hidden (Nat.lt_of_lt_of_le QL.out hk.size); clear hr hk) | (have PX := hidden (DM.out.slot0 HD.out (sv l 0)); refine wpList_storeL rfl 52 _ _ rfl rfl B7 0 [.int .u64 (sv l 0).x0, .int .u64 (sv l 0).x1, .int .u64 (sv l 0).x2, .int .u64 (sv l 0).x3] (by rfl) (by rfl) PX.out.2 (i4aL _) (c4_one _) ?_; replace DM := hidden PX.out.1; replace QL := hidden (Nat.lt_of_lt_of_le QL.out (Nat.le_of_eq (size_setCellsM B7 [.int .u64 (sv l 0).x0, .int .u64 (sv l 0).x1, .int .u64 (sv l 0).x2, .int .u64 (sv l 0).x3] 0 _).symm)); clear PX) | (have PX := hidden (DM.out.slot1 HD.out (sv l 1)); refine wpList_storeL rfl 52 _ _ rfl rfl B7 4 [.int .u64 (sv l 1).x0, .int .u64 (sv l 1).x1, .int .u64 (sv l 1).x2, .int .u64 (sv l 1).x3] (by rfl) (by rfl) PX.out.2 (i4aL _) (c4_one _) ?_; replace DM := hidden PX.out.1; replace QL := hidden (Nat.lt_of_lt_of_le QL.out (Nat.le_of_eq (size_setCellsM B7 [.int .u64 (sv l 1).x0, .int .u64 (sv l 1).x1, .int .u64 (sv l 1).x2, .int .u64 (sv l 1).x3] 4 _).symm)); clear PX) | (have PX := hidden (DM.out.slot2 HD.out (sv l 2)); refine wpList_storeL rfl 52 _ _ rfl rfl B7 8 [.int .u64 (sv l 2).x0, .int .u64 (sv l 2).x1, .int .u64 (sv l 2).x2, .int .u64 (sv l 2).x3] (by rfl) (by rfl) PX.out.2 (i4aL _) (c4_one _) ?_; replace DM := hidden PX.out.1; replace QL := hidden (Nat.lt_of_lt_of_le QL.out (Nat.le_of_eq (size_setCellsM B7 [.int .u64 (sv l 2).x0, .int .u64 (sv l 2).x1, .int .u64 (sv l 2).x2, .int .u64 (sv l 2).x3] 8 _).symm)); clear PX) | (have PX := hidden (DM.out.slot3 HD.out (sv l 3)); refine wpList_storeL rfl 52 _ _ rfl rfl B7 12 [.int .u64 (sv l 3).x0, .int .u64 (sv l 3).x1, .int .u64 (sv l 3).x2, .int .u64 (sv l 3).x3] (by rfl) (by rfl) PX.out.2 (i4aL _) (c4_one _) ?_; replace DM := hidden PX.out.1; replace QL := hidden (Nat.lt_of_lt_of_le QL.out (Nat.le_of_eq (size_setCellsM B7 [.int .u64 (sv l 3).x0, .int .u64 (sv l 3).x1, .int .u64 (sv l 3).x2, .int .u64 (sv l 3).x3] 12 _).symm)); clear PX))
  go_upto_region 9 with (first | (go_at_call 31; refine (NS.out _ _ (by omega) DM.out.rb DM.out.tb QL.out).mono ?_; rintro r wx ⟨rfl, hr, hk⟩; replace DM := hidden (DM.out.next HD.out hr hk); replace QL := hidden (Nat.lt_of_lt_of_le QL.out hk.size); clear hr hk) | (have PX := hidden (DM.out.slot4 HD.out (sv l 4)); refine wpList_storeL rfl 24 _ _ rfl rfl B7 16 [.int .u64 (sv l 4).x0, .int .u64 (sv l 4).x1, .int .u64 (sv l 4).x2, .int .u64 (sv l 4).x3] (by rfl) (by rfl) PX.out.2 (i4aS _) (c4_one _) ?_; replace DM := hidden PX.out.1; replace QL := hidden (Nat.lt_of_lt_of_le QL.out (Nat.le_of_eq (size_setCellsM B7 [.int .u64 (sv l 4).x0, .int .u64 (sv l 4).x1, .int .u64 (sv l 4).x2, .int .u64 (sv l 4).x3] 16 _).symm)); clear PX) | (have PX := hidden (DM.out.slot5 HD.out (sv l 5)); refine wpList_storeL rfl 24 _ _ rfl rfl B7 20 [.int .u64 (sv l 5).x0, .int .u64 (sv l 5).x1, .int .u64 (sv l 5).x2, .int .u64 (sv l 5).x3] (by rfl) (by rfl) PX.out.2 (i4aS _) (c4_one _) ?_; replace DM := hidden PX.out.1; replace QL := hidden (Nat.lt_of_lt_of_le QL.out (Nat.le_of_eq (size_setCellsM B7 [.int .u64 (sv l 5).x0, .int .u64 (sv l 5).x1, .int .u64 (sv l 5).x2, .int .u64 (sv l 5).x3] 20 _).symm)); clear PX) | (have PX := hidden (DM.out.slot6 HD.out (sv l 6)); refine wpList_storeL rfl 24 _ _ rfl rfl B7 24 [.int .u64 (sv l 6).x0, .int .u64 (sv l 6).x1, .int .u64 (sv l 6).x2, .int .u64 (sv l 6).x3] (by rfl) (by rfl) PX.out.2 (i4aS _) (c4_one _) ?_; replace DM := hidden PX.out.1; replace QL := hidden (Nat.lt_of_lt_of_le QL.out (Nat.le_of_eq (size_setCellsM B7 [.int .u64 (sv l 6).x0, .int .u64 (sv l 6).x1, .int .u64 (sv l 6).x2, .int .u64 (sv l 6).x3] 24 _).symm)); clear PX))
  go_loopw [48] (fun kv w' => ∃ i : Nat, i ≤ k ∧ kv = .int .i64 (i : Int) ∧ Hid (Dm w g q B7 bL bR w.heap.size k (pcv (sv l 0) (sv l 1) (sv l 2) (sv l 3) (sv l 4) (sv l 5) (sv l 6) zero4 zero4 (.slice (some ⟨bL, 0, none⟩) k k) (.slice (some ⟨bR, 0, none⟩) k k)) zp (fL l i) (fR l i) (ts l (7 + 2 * i)).1 (ts l (7 + 2 * i)).2 w' ∧ q < w'.heap.size)) (fun k' _ => k - (intOf k').toNat)
  case atStart => exact ⟨0, by omega, rfl, hidden ⟨DM.out, QL.out⟩⟩
  case round =>
    clear DM QL
    obtain ⟨i, hi, rfl, DW⟩ := hrel
    by_cases hin : i < k
    · have k0 : (0 : Int) ≤ (i : Int) := by omega
      have k1 : (i : Int) < (k : Int) := by omega
      have w9 : IntKind.i64.wrap ((i : Int) + 1) = (i : Int) + 1 := IntWalk.i64_in _ (by have := HK.out; omega)
      go_upto_region 11 with fail
      refine dp11 _ g q B7 bL bR w.heap.size k i (pcv (sv l 0) (sv l 1) (sv l 2) (sv l 3) (sv l 4) (sv l 5) (sv l 6) zero4 zero4 (.slice (some ⟨bL, 0, none⟩) k k) (.slice (some ⟨bR, 0, none⟩) k k)) zp (fL l i) (fR l i) (sv l (7 + 2 * i)) (sv l (8 + 2 * i)) (ts l (7 + 2 * i)).1 (ts l (8 + 2 * i)).1 (ts l (9 + 2 * i)).1 (ts l (7 + 2 * i)).2 (ts l (8 + 2 * i)).2 (ts l (9 + 2 * i)).2 _ _ _ _ _ _ _ _ _ _ _ _ _ _ _ _ _ _ _ _ _ _ _ _ _ _ _ _ _ _ _ _ _ _ _ _ _ _ _ _ _ _ _ _ _ _ _ _ _ _ _ _ _ _ _ _ _ _ _ _ _ _ _ _ _ _ _ _ _ _ _ _ _ _ w wr hin HD.out DW.out.2 rfl rfl DW.out.1 (hidden (fun x h1 h2 h3 => by have := NP.out (7 + 2 * i) x (by omega) h1 h2 h3; rwa [show 7 + 2 * i + 1 = 8 + 2 * i by omega] at this)) (hidden (fun x h1 h2 h3 => by have := NP.out (8 + 2 * i) x (by omega) h1 h2 h3; rwa [show 8 + 2 * i + 1 = 9 + 2 * i by omega] at this)) (hidden (fun wz hsz hm => ?_))
      rw [fL_up, fR_up, show 9 + 2 * i = 7 + 2 * (i + 1) by omega] at hm
      have HM := hidden hm
      have QZ := hidden (Nat.lt_of_lt_of_le DW.out.2 hsz)
      clear hm hsz DW
      go_wp2_with fail
      go_roundw
      case rel => exact ⟨i + 1, by omega, by go_num, hidden ⟨HM.out, QZ.out⟩⟩
      case measure => simp [intOf]; omega
    · obtain rfl : i = k := by omega
      have lq : ¬ (i : Int) < (i : Int) := by omega
      have DM := hidden DW.out.1
      have QL := hidden DW.out.2
      clear DW hi hin
      have MB := hidden (fun (x x' : World) (P : List Value) (fl fr : Nat → E4) (bs : List UInt8) (e : Int) (h : Dm w g q B7 bL bR w.heap.size i P zp fl fr bs e x) (hk : Tr.Kp g x x') => h.m.kp hk HD.out.g0 (fun p hp => by
        have D := HD.out
        simp only [List.mem_cons, List.not_mem_nil, or_false] at hp
        rcases hp with rfl | rfl | rfl | rfl
        · exact D.n1
        · exact D.n2
        · exact D.n3
        · exact D.n4))
      rcases ts_inv l (9 + 2 * i) HL.out (9 + 2 * i) (Nat.le_refl _) with ⟨e1, e2, e3, e4⟩ | ⟨e1, e3⟩
      · have EN : Hid (∀ x, Rb x g q (ts l (7 + 2 * i + 1 + 1)).1 (ts l (7 + 2 * i + 1 + 1)).2 → Calls Tryz.prog 32 #[.pointer (some ⟨g, 0, none⟩)] x fun r w' => r = .returned (.int .i64 0) ∧ Tr.Kp g x w') := hidden (fun x h => by
          have hh := rb_end h
          rw [show 7 + 2 * i + 1 + 1 = 9 + 2 * i by omega, e1, e2] at hh
          rwa [show Tr.en (l.drop (32 * (9 + 2 * i))) 0 = 0 by unfold Tr.en; rw [List.length_drop, HL.out]; simp] at hh)
        have GD := hidden e3
        clear e1 e2 e3 e4
        have J2 := hidden (pcv_i2 (sv l 0) (sv l 1) (sv l 2) (sv l 3) (sv l 4) (sv l 5) (sv l 6) (sv l (7 + 2 * i)) (sv l (7 + 2 * i + 1)) (.slice (some ⟨bL, 0, none⟩) i i) (.slice (some ⟨bR, 0, none⟩) i i))
        have J1 := hidden (pcv_i (sv l 0) (sv l 1) (sv l 2) (sv l 3) (sv l 4) (sv l 5) (sv l 6) (sv l (7 + 2 * i)) (sv l (7 + 2 * i + 1)) (.slice (some ⟨bL, 0, none⟩) i i) (.slice (some ⟨bR, 0, none⟩) i i))
        have K2 := hidden (pcv_one (sv l 0) (sv l 1) (sv l 2) (sv l 3) (sv l 4) (sv l 5) (sv l 6) (sv l (7 + 2 * i)) (sv l (7 + 2 * i + 1)) (some ⟨bL, 0, none⟩) (some ⟨bR, 0, none⟩) i i i i)
        go_wp2_with (first | (go_at_call 31; refine (NS.out _ _ (by omega) DM.out.rb DM.out.tb QL.out).mono ?_; rintro r wx ⟨rfl, hr, hk⟩; replace DM := hidden (DM.out.next HD.out hr hk); replace QL := hidden (Nat.lt_of_lt_of_le QL.out hk.size); clear hr hk) | (have PX := hidden (DM.out.slot7 HD.out (sv l (7 + 2 * i))); refine wpList_storeL rfl 24 _ _ rfl rfl B7 30 [.int .u64 (sv l (7 + 2 * i)).x0, .int .u64 (sv l (7 + 2 * i)).x1, .int .u64 (sv l (7 + 2 * i)).x2, .int .u64 (sv l (7 + 2 * i)).x3] (by rfl) (by rfl) PX.out.2 (i4aS _) (c4_one _) ?_; replace DM := hidden PX.out.1; replace QL := hidden (Nat.lt_of_lt_of_le QL.out (Nat.le_of_eq (size_setCellsM B7 [.int .u64 (sv l (7 + 2 * i)).x0, .int .u64 (sv l (7 + 2 * i)).x1, .int .u64 (sv l (7 + 2 * i)).x2, .int .u64 (sv l (7 + 2 * i)).x3] 30 _).symm)); clear PX) | (have PX := hidden (DM.out.slot8 HD.out (sv l (7 + 2 * i + 1))); refine wpList_storeL rfl 24 _ _ rfl rfl B7 34 [.int .u64 (sv l (7 + 2 * i + 1)).x0, .int .u64 (sv l (7 + 2 * i + 1)).x1, .int .u64 (sv l (7 + 2 * i + 1)).x2, .int .u64 (sv l (7 + 2 * i + 1)).x3] (by rfl) (by rfl) PX.out.2 (i4aS _) (c4_one _) ?_; replace DM := hidden PX.out.1; replace QL := hidden (Nat.lt_of_lt_of_le QL.out (Nat.le_of_eq (size_setCellsM B7 [.int .u64 (sv l (7 + 2 * i + 1)).x0, .int .u64 (sv l (7 + 2 * i + 1)).x1, .int .u64 (sv l (7 + 2 * i + 1)).x2, .int .u64 (sv l (7 + 2 * i + 1)).x3] 34 _).symm)); clear PX) | (go_at_call 32; refine (EN.out _ DM.out.rb).mono ?_; rintro r we ⟨rfl, hk⟩; have ME := hidden (MB.out _ _ _ _ _ _ _ DM.out hk); have SF := hidden (And.intro (DM.out.sL.kp hk HD.out.n2) (DM.out.sR.kp hk HD.out.n3)); have RC := hidden (ME.out.r (B7, pcv (sv l 0) (sv l 1) (sv l 2) (sv l 3) (sv l 4) (sv l 5) (sv l 6) (sv l (7 + 2 * i)) (sv l (7 + 2 * i + 1)) (.slice (some ⟨bL, 0, none⟩) i i) (.slice (some ⟨bR, 0, none⟩) i i)) (by simp)).1; have TH := hidden (ME.out.ther (pcv (sv l 0) (sv l 1) (sv l 2) (sv l 3) (sv l 4) (sv l 5) (sv l 6) (sv l (7 + 2 * i)) (sv l (7 + 2 * i + 1)) (.slice (some ⟨bL, 0, none⟩) i i) (.slice (some ⟨bR, 0, none⟩) i i)) (c := w.heap.size) (o := zp) (by simp) (ZL.out.symm ▸ rfl)); have MF := hidden (ME.out.set (M := [(bL, svs i (fL l i)), (bR, svs i (fR l i))]) (pcv (sv l 0) (sv l 1) (sv l 2) (sv l 3) (sv l 4) (sv l 5) (sv l 6) (sv l (7 + 2 * i)) (sv l (7 + 2 * i + 1)) (.slice (some ⟨bL, 0, none⟩) i i) (.slice (some ⟨bR, 0, none⟩) i i)) (c := w.heap.size) (o := zp) (by simp) (ZL.out.symm ▸ rfl) (fun p hp => by (have D := HD.out; simp only [List.mem_cons, List.not_mem_nil, or_false] at hp; rcases hp with rfl | rfl; (· exact ⟨by simp, D.n9⟩); (· exact ⟨by simp, D.n10⟩)))); have LD := hidden (MF.out.var (c := w.heap.size) (ds := pcv (sv l 0) (sv l 1) (sv l 2) (sv l 3) (sv l 4) (sv l 5) (sv l 6) (sv l (7 + 2 * i)) (sv l (7 + 2 * i + 1)) (.slice (some ⟨bL, 0, none⟩) i i) (.slice (some ⟨bR, 0, none⟩) i i)) (by simp) UP.out rfl J1.out); clear hk DM EN MB) | refine wpList_load_mid rfl 55 _ rfl B7 0 (by rfl) (pcv (sv l 0) (sv l 1) (sv l 2) (sv l 3) (sv l 4) (sv l 5) (sv l 6) (sv l (7 + 2 * i)) (sv l (7 + 2 * i + 1)) (.slice (some ⟨bL, 0, none⟩) i i) (.slice (some ⟨bR, 0, none⟩) i i)) _ RC.out UP.out rfl J1.out ?_ | refine wpList_storeL rfl 55 _ _ rfl rfl w.heap.size 0 (pcv (sv l 0) (sv l 1) (sv l 2) (sv l 3) (sv l 4) (sv l 5) (sv l 6) (sv l (7 + 2 * i)) (sv l (7 + 2 * i + 1)) (.slice (some ⟨bL, 0, none⟩) i i) (.slice (some ⟨bR, 0, none⟩) i i)) (by rfl) (by rfl) TH.out J2.out K2.out ?_)
        have rl : ∀ b f, (b, svs i f) ∈ [(w.heap.size, pcv (sv l 0) (sv l 1) (sv l 2) (sv l 3) (sv l 4) (sv l 5) (sv l 6) (sv l (7 + 2 * i)) (sv l (7 + 2 * i + 1)) (.slice (some ⟨bL, 0, none⟩) i i) (.slice (some ⟨bR, 0, none⟩) i i)), (bL, svs i (fL l i)), (bR, svs i (fR l i))] → Rl _ b 0 i f := fun b f hm => rl_of (MF.out.r (b, svs i f) hm).1
        refine bodyPost_ret (v := .tuple #[.agg (pcv (sv l 0) (sv l 1) (sv l 2) (sv l 3) (sv l 4) (sv l 5) (sv l 6) (sv l (7 + 2 * i)) (sv l (7 + 2 * i + 1)) (.slice (some ⟨bL, 0, none⟩) i i) (.slice (some ⟨bR, 0, none⟩) i i)).toArray, .int .i64 0]) (results_pairM Tryz.results8 _ _ _ _ _ _ (by rfl) (by rfl) LD.out) rfl ⟨_, _, rfl, MF.out.bel, .inl ⟨rfl, GD.out, bL, bR, by rw [show 8 + 2 * i = 7 + 2 * i + 1 by omega], rl bL _ (by simp), rl bR _ (by simp), (MF.out.r (bL, svs i (fL l i)) (by simp)).2.2.2, (MF.out.r (bR, svs i (fR l i)) (by simp)).2.2.2, Shp.sets w.heap.size _ 0 SF.out.1, Shp.sets w.heap.size _ 0 SF.out.2, HD.out.n7, HD.out.hL, HD.out.hR⟩⟩
      · have EN : Hid (∀ x, Rb x g q (ts l (7 + 2 * i + 1 + 1)).1 (ts l (7 + 2 * i + 1 + 1)).2 → Calls Tryz.prog 32 #[.pointer (some ⟨g, 0, none⟩)] x fun r w' => r = .returned (.int .i64 3) ∧ Tr.Kp g x w') := hidden (fun x h => by
          have hh := rb_end h
          rw [show 7 + 2 * i + 1 + 1 = 9 + 2 * i by omega, e1] at hh
          rwa [show ∀ bs, Tr.en bs 3 = 3 from fun bs => by unfold Tr.en; simp] at hh)
        have GD := hidden e3
        clear e1 e3
        go_wp2_with (first | (go_at_call 31; refine (NS.out _ _ (by omega) DM.out.rb DM.out.tb QL.out).mono ?_; rintro r wx ⟨rfl, hr, hk⟩; replace DM := hidden (DM.out.next HD.out hr hk); replace QL := hidden (Nat.lt_of_lt_of_le QL.out hk.size); clear hr hk) | (have PX := hidden (DM.out.slot7 HD.out (sv l (7 + 2 * i))); refine wpList_storeL rfl 24 _ _ rfl rfl B7 30 [.int .u64 (sv l (7 + 2 * i)).x0, .int .u64 (sv l (7 + 2 * i)).x1, .int .u64 (sv l (7 + 2 * i)).x2, .int .u64 (sv l (7 + 2 * i)).x3] (by rfl) (by rfl) PX.out.2 (i4aS _) (c4_one _) ?_; replace DM := hidden PX.out.1; replace QL := hidden (Nat.lt_of_lt_of_le QL.out (Nat.le_of_eq (size_setCellsM B7 [.int .u64 (sv l (7 + 2 * i)).x0, .int .u64 (sv l (7 + 2 * i)).x1, .int .u64 (sv l (7 + 2 * i)).x2, .int .u64 (sv l (7 + 2 * i)).x3] 30 _).symm)); clear PX) | (have PX := hidden (DM.out.slot8 HD.out (sv l (7 + 2 * i + 1))); refine wpList_storeL rfl 24 _ _ rfl rfl B7 34 [.int .u64 (sv l (7 + 2 * i + 1)).x0, .int .u64 (sv l (7 + 2 * i + 1)).x1, .int .u64 (sv l (7 + 2 * i + 1)).x2, .int .u64 (sv l (7 + 2 * i + 1)).x3] (by rfl) (by rfl) PX.out.2 (i4aS _) (c4_one _) ?_; replace DM := hidden PX.out.1; replace QL := hidden (Nat.lt_of_lt_of_le QL.out (Nat.le_of_eq (size_setCellsM B7 [.int .u64 (sv l (7 + 2 * i + 1)).x0, .int .u64 (sv l (7 + 2 * i + 1)).x1, .int .u64 (sv l (7 + 2 * i + 1)).x2, .int .u64 (sv l (7 + 2 * i + 1)).x3] 34 _).symm)); clear PX) | (go_at_call 32; refine (EN.out _ DM.out.rb).mono ?_; rintro r we ⟨rfl, hk⟩; have ME := hidden (MB.out _ _ _ _ _ _ _ DM.out hk); have SF := hidden (And.intro (DM.out.sL.kp hk HD.out.n2) (DM.out.sR.kp hk HD.out.n3)); have TH := hidden (ME.out.ther zp (c := w.heap.size) (o := zp) (by simp) rfl); have MF := hidden (ME.out.set (M := []) zp (c := w.heap.size) (o := zp) (by simp) rfl (by simp)); have LD := hidden (MF.out.var (c := w.heap.size) (ds := zp) (by simp) UP.out rfl I1.out); clear hk DM EN MB) | (refine wpList_buildP rfl rfl ?_; rw [HZ.out]) | refine wpList_storeL rfl 55 _ _ rfl rfl w.heap.size 0 zp (by rfl) (by rfl) TH.out I2.out O2.out ?_)
        refine bodyPost_ret (v := .tuple #[.agg zp.toArray, .int .i64 3]) (results_pairM Tryz.results8 _ _ _ _ _ _ (by rfl) (by rfl) LD.out) rfl ⟨_, _, rfl, MF.out.bel, .inr ⟨rfl, GD.out, rfl⟩⟩
end Go.Proofs.YtkfkmndhbfeagaaGreatDoor
