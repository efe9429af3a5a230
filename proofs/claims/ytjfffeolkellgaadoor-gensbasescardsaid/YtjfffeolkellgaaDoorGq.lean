import Derived.Test.YtjfffeolkellgaaDoorGp
namespace Go.Proofs.YtjfffeolkellgaaDoor
open Go.RowKit
theorem fvs_get {n : Nat} {f : Nat → Value} {k j : Nat} (hk : k < n) (hj : j < 26) : (fvs n f)[k * 26 + j]? = (fe (f k))[j]? := by
  induction n with
  | zero => omega
  | succ n ih =>
    rw [fvs_succ]
    by_cases hkn : k < n
    · rw [List.getElem?_append_left (by rw [fvs_len]; omega)]
      exact ih hkn
    · have : k = n := by omega
      subst this
      rw [List.getElem?_append_right (by rw [fvs_len]; omega), fvs_len, show k * 26 + j - k * 26 = j by omega]
theorem own_range {w : World} {B n g c k : Nat} {f : Nat → Value} (h : w.ownsRow B 42 26 (.slice (some ⟨g, 0, none⟩) n c) n (fvs n f)) (hk : k < n) : w.rangeAt g (k * 26) (fe (f k)) := fun j v hv => by
  have hj : j < 26 := (List.getElem?_eq_some_iff.1 hv).1
  rw [h.cellAt (k * 26 + j) (by omega), fvs_get hk hj]
  exact hv
theorem own_shapeP {w : World} {base n s : Nat} {e : TypeId} {v : Value} {xs : List Value} (h : w.ownsRow base e s v n xs) : ∃ (P : Option Addr) (c : Nat), v = .slice P n c := by
  rcases h.2 with ⟨rfl, rfl⟩ | ⟨g, cap, cur, rfl, _⟩
  · exact ⟨none, 0, rfl⟩
  · exact ⟨_, _, rfl⟩
theorem Gs.fiveV (w : World) (t : TypeId) (b0 b1 b2 g1 g2 n : Nat) : Gs (w.alloc (.cells #[c5 b0 b1 b2 g1 g2 n 0, c5 b0 b1 b2 g1 g2 n 1, c5 b0 b1 b2 g1 g2 n 2, c5 b0 b1 b2 g1 g2 n 3, c5 b0 b1 b2 g1 g2 n 4] t)) w.heap.size 5 (c5 b0 b1 b2 g1 g2 n) :=
  ⟨by simp, fun k hk => by
    rw [cell_of_row _ w.heap.size k _ t (0, 0) (heap_alloc_new w _)]
    match k, hk with
    | 0, _ => rfl | 1, _ => rfl | 2, _ => rfl | 3, _ => rfl | 4, _ => rfl, fun k hk => by go_simp⟩
theorem Sq.keep {B n : Nat} {w w' : World} {L0 L1 L2 Gv Hv : Value} (h : Sq B n w L0 L1 L2 Gv Hv) (hb : Below w.heap.size w w') : Sq B n w' L0 L1 L2 Gv Hv := by
  have hg : w.grownBy w' none := ⟨hb.os, hb.tape, hb.output, hb.size, fun k hk _ => hb.block k hk⟩
  exact ⟨h.g.keep hb, h.h.keep hb, h.l0.kept hg (none_or _), h.l1.kept hg (none_or _), h.l2.kept hg (none_or _)⟩
set_option maxRecDepth 100000 in
set_option maxHeartbeats 16000000 in
theorem bases_in (n : Nat) (w : World) (hT : Tb w) (hn : n ≤ 64) :
    Calls Tryd.prog 3 #[.int .i64 (n : Int)] w fun e w' => e = .returned (.bool true) ∧ Below w.heap.size w w' := by
  have HN := hidden hn
  have nn0 : (0 : Int) ≤ (n : Int) := by omega
  have C1 := hidden (basis_any n hn w)
  have C2 := hidden (fun w => rbasis_any n hn w)
  have TBL := hidden (fun (w' : World) (hb : Below w.heap.size w w') => hT.keep hb)
  have hzv := zv81
  have I8 := hidden sinfo81
  have UE : Hid (Tryd.prog.underlying 42 = _) := hidden Tryd.underlying42
  clear hT hn
  go_enter Tryd.func3, Tryd.ntmps3
  go_upto_region 3 with (first
    | (go_at_call 5; refine (C1.out).mono ?_; rintro e w1 ⟨b0, b1, b2, g1, g2, s, rfl, hg, hb1⟩; have HB1 := hidden hb1; have HG := hidden hg; have G1 := hidden (Gs.fiveV w1 27 b0 b1 b2 g1 g2 n); simp only [c5] at G1; clear hb1 C1 hg)
    | (go_at_call 6; refine (C2.out _).mono ?_; rintro e w2 ⟨L0, L1, L2, Gv, Hv, rfl, hq, hb2⟩; obtain ⟨xg, og⟩ := hq.g.own; obtain ⟨xh, oh⟩ := hq.h.own; obtain ⟨PG, cG, rfl⟩ := own_shapeP og; obtain ⟨PH, cH, rfl⟩ := own_shapeP oh; have HB2 := hidden hb2; have HQ := hidden hq; have O2 := hidden (hd3_one (own_one hq.l0) (own_one hq.l1) (own_one hq.l2) (own_one og) (own_one oh)); have TH2 := hidden (show (w2.alloc (.cells zs.toArray 45)).there w2.heap.size 0 (hd3 L0 L1 L2 ++ [Value.slice PG n cG, Value.slice PH n cH]).toArray.size from (Bx1.new w2 zs 45).t); clear hb2 C2 hq og oh)
    | (refine wpList_store_mid rfl 45 _ _ rfl w2.heap.size 0 (hd3 L0 L1 L2 ++ [Value.slice PG n cG, Value.slice PH n cH]).toArray (by rfl) (by rfl) TH2.out I8.out O2.out ?_; rw [List.toList_toArray]; have BS := below_setCellsM (w0 := w2) w2.heap.size (hd3 L0 L1 L2 ++ [Value.slice PG n cG, Value.slice PH n cH]) 0 (bl_alloc w2 (.cells zs.toArray 45)) (Nat.le_refl _); have MS := (Bx1.new w2 zs 45).set (ds := (hd3 L0 L1 L2 ++ [Value.slice PG n cG, Value.slice PH n cH])) rfl; have GW := (G1.out.keep HB2.out).keep BS; have TT : Hid (T8 ((w2.alloc (.cells zs.toArray 45)).setCells w2.heap.size 0 (hd3 L0 L1 L2 ++ [Value.slice PG n cG, Value.slice PH n cH])) w1.heap.size w2.heap.size (Value.slice (some ⟨b0, 0, none⟩) 1 1) (Value.slice (some ⟨b1, 0, none⟩) 2 2) (Value.slice (some ⟨b2, 0, none⟩) 3 3) (Value.slice (some ⟨g1, 0, none⟩) n n) (Value.slice (some ⟨g2, 0, none⟩) n n) (fe L0) (fe L1) (fe L2) (Value.slice PG n cG) (Value.slice PH n cH)) := hidden (T8.of (x := .int .i64 3) (GW.c 0 (by omega)) (GW.c 1 (by omega)) (GW.c 2 (by omega)) (GW.c 3 (by omega)) (GW.c 4 (by omega)) (by rw [size_setCellsM]; simp) rfl rfl rfl MS.r); have BB := hidden (bl_trans (bl_trans HB1.out (bl_trans (bl_alloc w1 _) HB2.out)) BS); have SG := hidden (HG.out.keep (bl_trans (bl_trans (bl_alloc w1 _) HB2.out) BS)); have SQ := hidden (HQ.out.keep BS); clear BS MS GW G1 HB1 HB2 TH2 HG HQ O2; generalize (w2.alloc (.cells zs.toArray 45)).setCells w2.heap.size 0 (hd3 L0 L1 L2 ++ [Value.slice PG n cG, Value.slice PH n cH]) = W at TT BB SG SQ ⊢; generalize w2.heap.size = D at TT ⊢; generalize hA : w1.heap.size = A at TT ⊢; clear hA))
  have BW := hidden (Below.refl W.heap.size W)
  have IE0 : Hid ((Tryd.prog.info? 42).map (·.size) = some (fe L0).length) := hidden einfoG
  have IE1 : Hid ((Tryd.prog.info? 42).map (·.size) = some (fe L1).length) := hidden einfoG
  have IE2 : Hid ((Tryd.prog.info? 42).map (·.size) = some (fe L2).length) := hidden einfoG
  have F0 : Hid (∀ x : World, Below W.heap.size W x → Calls Tryd.prog 7 #[.agg #[Value.slice (some ⟨b0, 0, none⟩) 1 1], .agg (fe L0).toArray] x fun e w' => e = .returned (.bool true) ∧ Below x.heap.size x w') := hidden (fun (x : World) (hb : Below W.heap.size W x) => isFree_unit 0 _ _ _ L0 x (TBL.out _ (bl_trans BB.out hb)) (by omega) ⟨b0, rfl, Nat.le_refl _, SG.out.r0.keep hb⟩ (SQ.out.keep hb).l0)
  have F1 : Hid (∀ x : World, Below W.heap.size W x → Calls Tryd.prog 7 #[.agg #[Value.slice (some ⟨b1, 0, none⟩) 2 2], .agg (fe L1).toArray] x fun e w' => e = .returned (.bool true) ∧ Below x.heap.size x w') := hidden (fun (x : World) (hb : Below W.heap.size W x) => isFree_unit 1 _ _ _ L1 x (TBL.out _ (bl_trans BB.out hb)) (by omega) ⟨b1, rfl, Nat.le_refl _, SG.out.r1.keep hb⟩ (SQ.out.keep hb).l1)
  have F2 : Hid (∀ x : World, Below W.heap.size W x → Calls Tryd.prog 7 #[.agg #[Value.slice (some ⟨b2, 0, none⟩) 3 3], .agg (fe L2).toArray] x fun e w' => e = .returned (.bool true) ∧ Below x.heap.size x w') := hidden (fun (x : World) (hb : Below W.heap.size W x) => isFree_unit 2 _ _ _ L2 x (TBL.out _ (bl_trans BB.out hb)) (by omega) ⟨b2, rfl, Nat.le_refl _, SG.out.r2.keep hb⟩ (SQ.out.keep hb).l2)
  generalize (hd3 L0 L1 L2 ++ [Value.slice PG n cG, Value.slice PH n cH]) = big
  generalize fe L0 = q0 at TT F0 IE0
  generalize fe L1 = q1 at TT F1 IE1
  generalize fe L2 = q2 at TT F2 IE2
  have e0 := TT.out.c0; have e1 := TT.out.c1; have e2 := TT.out.c2; have e3 := TT.out.c3; have e4 := TT.out.c4; have e5 := TT.out.d3; have e6 := TT.out.d4
  go_wp2_with (first | refine wpList_loadG (by rfl) 42 _ rfl D 1 (by rfl) q0 _ TT.out.r0 UE.out rfl IE0.out ?_ | refine wpList_loadG (by rfl) 42 _ rfl D 27 (by rfl) q1 _ TT.out.r1 UE.out rfl IE1.out ?_ | refine wpList_loadG (by rfl) 42 _ rfl D 53 (by rfl) q2 _ TT.out.r2 UE.out rfl IE2.out ?_ | (go_at_call 7; refine (F0.out _ BW.out).mono ?_; rintro e wa ⟨rfl, ha⟩; replace TT := hidden (TT.out.keep ha); replace BW := hidden (bl_trans BW.out ha); have e0 := TT.out.c0; have e1 := TT.out.c1; have e2 := TT.out.c2; have e3 := TT.out.c3; have e4 := TT.out.c4; have e5 := TT.out.d3; have e6 := TT.out.d4; clear ha F0) | (go_at_call 7; refine (F1.out _ BW.out).mono ?_; rintro e wa ⟨rfl, ha⟩; replace TT := hidden (TT.out.keep ha); replace BW := hidden (bl_trans BW.out ha); have e0 := TT.out.c0; have e1 := TT.out.c1; have e2 := TT.out.c2; have e3 := TT.out.c3; have e4 := TT.out.c4; have e5 := TT.out.d3; have e6 := TT.out.d4; clear ha F1) | (go_at_call 7; refine (F2.out _ BW.out).mono ?_; rintro e wa ⟨rfl, ha⟩; replace TT := hidden (TT.out.keep ha); replace BW := hidden (bl_trans BW.out ha); have e0 := TT.out.c0; have e1 := TT.out.c1; have e2 := TT.out.c2; have e3 := TT.out.c3; have e4 := TT.out.c4; have e5 := TT.out.d3; have e6 := TT.out.d4; clear ha F2))
  go_loopw [7] (fun kv w' => ∃ k : Nat, k ≤ n ∧ kv = .int .i64 (k : Int) ∧ Hid (T8 w' A D (Value.slice (some ⟨b0, 0, none⟩) 1 1) (Value.slice (some ⟨b1, 0, none⟩) 2 2) (Value.slice (some ⟨b2, 0, none⟩) 3 3) (Value.slice (some ⟨g1, 0, none⟩) n n) (Value.slice (some ⟨g2, 0, none⟩) n n) q0 q1 q2 (Value.slice PG n cG) (Value.slice PH n cH)) ∧ Hid (Below W.heap.size W w')) (fun k _ => n - (intOf k).toNat)
  case atStart => exact ⟨0, by omega, rfl, TT, BW⟩
  case round =>
    clear TT BW e0 e1 e2 e3 e4 e5 e6
    obtain ⟨k, hk, rfl, hT, hB⟩ := hrel
    have e3 := hT.out.c3
    by_cases hkn : k < n
    · have k0 : (0 : Int) ≤ (k : Int) := by omega
      have k1 : (k : Int) < (n : Int) := by omega
      have w9 : IntKind.i64.wrap ((k : Int) + 1) = (k : Int) + 1 := IntWalk.i64_in _ (by have := HN.out; omega)
      go_upto_region 8 with fail
      have sg := SG.out.keep hB.out
      have sq := SQ.out.keep hB.out
      obtain ⟨f1, f2, a1, a2, a3, a4⟩ := sg.f
      obtain ⟨u1, u2⟩ := a4 k hkn
      have v1 := a1.c k hkn
      have v2 := a2.c k hkn
      obtain ⟨z1, y1, _, r1⟩ := u1
      obtain ⟨z2, y2, _, r2⟩ := u2
      simp only [Value.agg.injEq, Array.mk.injEq, List.cons.injEq, and_true] at y1 y2
      rw [y1] at v1
      rw [y2] at v2
      obtain ⟨h1, o1, m1⟩ := sq.g
      obtain ⟨h2, o2, m2⟩ := sq.h
      obtain ⟨gG, cg, eG, _, _, _⟩ := own_shapeG o1 (by omega)
      obtain ⟨gH, ch, eH, _, _, _⟩ := own_shapeG o2 (by omega)
      simp only [Value.slice.injEq, true_and] at eG eH
      obtain ⟨rfl, rfl⟩ := eG
      obtain ⟨rfl, rfl⟩ := eH
      have S0 : S8 wr A D g1 g2 gG cG gH cH n k (.slice (some ⟨z1, 0, none⟩) (3 + k + 1) (3 + k + 1)) (.slice (some ⟨z2, 0, none⟩) (3 + n + k + 1) (3 + n + k + 1)) (h1 k) (h2 k) wr := ⟨Below.refl _ _, hT.out.c3, hT.out.c4, hT.out.d3, hT.out.d4, v1, v2, own_range o1 hkn, own_range o2 hkn⟩
      have kz : ∀ {x y : World} {B : Nat} {v : Value} {m : Nat} {xs : List Value}, x.ownsRow B 39 4 v m xs → Below x.heap.size x y → y.ownsRow B 39 4 v m xs := fun h hb => own_keepZ h hb
      have hn := HN.out
      have bw := bl_trans BB.out hB.out
      have D1 := hidden (fun (x : World) (hb : Below wr.heap.size wr x) => isFree_unit (3 + k) 0 _ _ (h1 k) x (TBL.out _ (bl_trans bw hb)) (by omega) ⟨z1, rfl, Nat.zero_le _, r1.keep hb⟩ (kz (m1 k hkn) hb))
      have D2 := hidden (fun (x : World) (hb : Below wr.heap.size wr x) => isFree_unit (3 + n + k) 0 _ _ (h2 k) x (TBL.out _ (bl_trans bw hb)) (by omega) ⟨z2, rfl, Nat.zero_le _, r2.keep hb⟩ (kz (m2 k hkn) hb))
      refine gb8 _ A D g1 g2 gG cG gH cH n k z1 z2 _ _ _ _ _ _ _ _ _ _ _ _ _ _ _ _ _ _ _ _ _ _ _ _ _ _ _ _ _ _ _ _ _ _ _ _ _ _ _ _ _ _ _ _ _ _ _ _ _ _ _ _ _ _ _ _ _ _ _ _ _ _ _ _ _ _ _ _ _ _ _ _ _ _ _ _ _ _ _ _ _ _ _ _ _ _ _ _ _ _ _ _ _ _ _ (h1 k) (h2 k) wr hkn S0 D1 D2 (hidden ?_)
      intro wz hz
      have TZ := hidden (hT.out.keep hz)
      have BZ := hidden (bl_trans hB.out hz)
      clear hT hB hz S0 D1 D2 sg sq a1 a2 a3 a4 v1 v2 y1 y2 r1 r2 o1 o2 m1 m2 kz bw
      go_wp2_with fail
      go_roundw
      case rel => exact ⟨k + 1, by omega, by go_num, TZ, BZ⟩
      case measure => simp [intOf]; omega
    · obtain rfl : k = n := by omega
      have lq : ¬ (k : Int) < (k : Int) := by omega
      go_wp2_with fail
      refine bodyPost_ret (v := .bool true) (by simp [results, Tryd.results3, go_sem]) rfl ⟨rfl, bl_trans BB.out hB.out⟩
theorem bases_any (n : Int) (w : World) (hT : Tb w) : Calls Tryd.prog 3 #[.int .i64 n] w fun e w' => e = .returned (.bool true) ∧ Below w.heap.size w w' := by
  by_cases h : n < 0 ∨ 64 < n
  · exact bases_no n w hT h
  · obtain ⟨m, rfl⟩ : ∃ m : Nat, n = (m : Int) := ⟨n.toNat, by omega⟩
    exact bases_in m w hT (by omega)
end Go.Proofs.YtjfffeolkellgaaDoor
