import Derived.Test.YtcenphihmggfkaaDoorSijk
namespace Go.Proofs.YtcenphihmggfkaaDoor
open Go.RowKit
theorem changed_of {w : World} {base : Nat} {e : TypeId} {v : Value} {L : Nat} {g : Nat → E4} (how : w.ownsRow base e 4 v L (svs L g)) : ∃ (p8 : Option Addr) (b8 c8 : Nat), v = .slice p8 L c8 ∧ (0 < L → p8 = some ⟨b8, 0, none⟩ ∧ base ≤ b8 ∧ Rws w b8 L g) := by
  rcases how.2 with ⟨rfl, h0⟩ | ⟨gg, cap, cur, rfl, hg, _, hnc, _, _, _⟩
  · exact ⟨none, 0, 0, by rw [h0], fun h => by omega⟩
  · exact ⟨_, gg, cap, rfl, fun _ => ⟨rfl, hg, Rws.own how⟩⟩
set_option maxRecDepth 100000 in
set_option maxHeartbeats 16000000 in
theorem inverts_any (P : Option Addr) (L cap : Nat) (g : Nat → E4) (w : World) (hT : Tb w) (hL : L ≤ 4398046510976) (hcap : L ≤ cap) (hN : P = none → L = 0 ∧ cap = 0) (hg : ∀ k, k < L → (g k).ok) (hS : Lm w P L g) :
    Calls Tryd.prog 4 #[.slice P L cap] w fun e w' => e = .returned (.bool true) ∧ Below w.heap.size w w' := by
  obtain ⟨i0, hi, hz0, hz1, hz2⟩ := info_parts linfo
  have HI := hidden hi
  have HZ0 := hidden hz0
  have HZ1 := hidden hz1
  have HZ2 := hidden hz2
  have HU : Hid (Tryd.prog.underlying 38 = some (.slice 43)) := hidden (by kernel_rfl)
  have HT := hidden hT
  have HS := hidden hS
  have HG := hidden hg
  have LL : Hid (L ≤ 4398046510976 ∧ L ≤ cap) := hidden ⟨hL, hcap⟩
  have HNN := hidden hN
  have a0 : (0 : Int) ≤ (L : Int) := by omega
  have HD := hidden (fun w' hb => handed_any P L cap g w' hL (hS.keep hb))
  clear hi hz0 hz1 hz2 hT hS hg hL hcap hN
  go_enter Tryd.func4, Tryd.ntmps4
  go_upto_region 1 with fail
  go_cut [3] (fun v wx => ∃ b c : Nat, v = .slice (some ⟨b, 0, none⟩) (L + 2) c ∧ L + 2 ≤ c ∧ w.heap.size ≤ b ∧ Rws wx b (L + 2) (g77 g L) ∧ Below w.heap.size w wx)
  case first =>
    as_aux_lemma =>
      go_wp2_with fail
      refine (HD.out _ (Below.refl _ _)).mono ?_
      rintro e w1 ⟨b, c, rfl, h1, h2, h3, h4⟩
      have H3 := hidden h3
      have H4 := hidden h4
      clear h3 h4
      go_wp2_with fail
      go_meet
      exact ⟨b, c, rfl, h1, h2, H3.out, H4.out⟩
  case rest =>
  obtain ⟨b, c, rfl, hc, hb, r1, b1⟩ := hcut
  have R1 := hidden r1
  have B1 := hidden b1
  clear r1 b1 HD
  generalize wc = w1 at *
  obtain ⟨h, hh⟩ : ∃ h, L / 2 = h := ⟨_, rfl⟩
  have hl1 := LL.out.1
  have hl2 := LL.out.2
  have a1 : (L : Int) ≤ (c : Int) := by omega
  have a2 : ((L : Int) - 0).toNat = L := by omega
  have a3 : ((c : Int) - 0).toNat = c := by omega
  have a4 : (L : Int).toNat = L := by omega
  have a5 : (c : Int).toNat = c := by omega
  have d0 : (L : Int).tdiv 2 = (h : Int) := by rw [Int.tdiv_eq_ediv_of_nonneg (by omega)]; omega
  have d1 : IntKind.i64.wrap (h : Int) = (h : Int) := IntWalk.i64_in _ (by omega)
  have d2 : (0 : Int) ≤ (h : Int) := by omega
  have d3 : (h : Int) ≤ (c : Int) := by omega
  have d4 : ((h : Int) - 0).toNat = h := by omega
  have d5 : (h : Int).toNat = h := by omega
  have HH : Hid (h ≤ L) := hidden (by omega)
  have IA : Hid (∀ m w' rs, m ≤ L → Iw w1 rs g w' → Calls Tryd.prog 10 #[.slice (some ⟨b, 0, none⟩) m c] w' fun e w'' => ∃ b' : Nat, e = .returned (.slice (some ⟨b', 0, none⟩) m m) ∧ Iw w1 ((b', m) :: rs) g w'') := hidden (fun m w' rs hm t => by
    refine (InvertAll_any b m c (g77 g L) w' (HT.out.keep (bl_trans B1.out t.bel)) (by omega) (fun k hk => by rw [show g77 g L k = g k from if_pos (by omega)]; exact HG.out k (by omega)) ((R1.out.keep t.bel).less (by omega))).mono fun e w'' ⟨b', he, hs, hr, hb⟩ => ?_
    exact ⟨b', he, t.new hb b' m hs (hr.congr fun k hk => by rw [show g77 g L k = g k from if_pos (by omega)])⟩)
  have IV : Hid (∀ m b' w' rs, m ≤ L → (b', m) ∈ rs → Iw w1 rs g w' → Calls Tryd.prog 11 #[.slice (some ⟨b', 0, none⟩) m m, .slice P m cap] w' fun e w'' => e = .returned (.bool true) ∧ Iw w1 rs g w'') := hidden (fun m b' w' rs hm hx t => by
    refine (inverses_any b' m P m cap g w' (by omega) (fun k hk => HG.out k (by omega)) (t.rows _ hx).2 ((HS.out.keep (bl_trans B1.out t.bel)).less hm)).mono fun e w'' ⟨he, hb⟩ => ⟨he, t.keep hb⟩)
  have ST : Hid (∀ w' rs, Iw w1 rs g w' → Calls Tryd.prog 12 #[.slice (some ⟨b, 0, none⟩) (L + 2) c, .slice P L cap] w' fun e w'' => e = .returned (.bool true) ∧ Iw w1 rs g w'') := hidden (fun w' rs t => by
    refine (stays_any b c P L cap g w' hl1 (R1.out.keep t.bel) (HS.out.keep (bl_trans B1.out t.bel))).mono fun e w'' ⟨he, hb⟩ => ⟨he, t.keep hb⟩)
  have I0 := hidden (Iw.start w1 g)
  clear hl1 hl2 hh
  go_upto_region 2 with fail
  go_cut [4] (fun v wx => ∃ b' : Nat, v = .slice (some ⟨b', 0, none⟩) L L ∧ Iw w1 [(b', L)] g wx)
  case first =>
    as_aux_lemma =>
      go_wp2_with fail
      refine (IA.out _ _ _ (Nat.le_refl _) I0.out).mono ?_
      rintro e w2 ⟨b', rfl, t1⟩
      have T1 := hidden t1
      clear t1
      go_wp2_with fail
      go_meet
      exact ⟨b', rfl, T1.out⟩
  case rest =>
  obtain ⟨b0, rfl, t1⟩ := hcut
  clear I0
  have I0 := hidden t1
  clear t1
  go_upto_region 3 with fail
  go_cut [5] (fun v wx => ∃ b' : Nat, v = .slice (some ⟨b', 0, none⟩) h h ∧ Iw w1 [(b', h), (b0, L)] g wx)
  case first =>
    as_aux_lemma =>
      go_wp2_with fail
      refine (IA.out _ _ _ HH.out I0.out).mono ?_
      rintro e w2 ⟨b', rfl, t1⟩
      have T1 := hidden t1
      clear t1
      go_wp2_with fail
      go_meet
      exact ⟨b', rfl, T1.out⟩
  case rest =>
  obtain ⟨b1, rfl, t1⟩ := hcut
  clear I0
  have I0 := hidden t1
  clear t1
  go_upto_region 4 with fail
  go_cut [6] (fun v wx => ∃ b' : Nat, v = .slice (some ⟨b', 0, none⟩) L L ∧ Iw w1 [(b', L), (b1, h), (b0, L)] g wx)
  case first =>
    as_aux_lemma =>
      go_wp2_with fail
      refine (IA.out _ _ _ (Nat.le_refl _) I0.out).mono ?_
      rintro e w2 ⟨b', rfl, t1⟩
      have T1 := hidden t1
      clear t1
      go_wp2_with fail
      go_meet
      exact ⟨b', rfl, T1.out⟩
  case rest =>
  obtain ⟨b2, rfl, t1⟩ := hcut
  clear I0
  have I0 := hidden t1
  clear t1
  go_upto_region 5 with fail
  go_cut [53] (fun v wx => v = .bool false ∧ Iw w1 [(b2, L), (b1, h), (b0, L)] g wx)
  case first =>
    as_aux_lemma =>
      go_wp2_with fail
      refine (IV.out _ _ _ _ (Nat.le_refl _) (by simp) I0.out).mono ?_
      rintro e w2 ⟨rfl, t1⟩
      have T1 := hidden t1
      clear t1
      have e1 : (h : Int) ≤ (cap : Int) := by have := LL.out.2; have := HH.out; omega
      have e2 : ((cap : Int) - 0).toNat = cap := by omega
      have e3 : (cap : Int).toNat = cap := by omega
      cases P with
      | none =>
        obtain ⟨rfl, rfl⟩ := HNN.out rfl
        obtain rfl : h = 0 := by have := HH.out; omega
        go_wp2_with fail
        refine (IV.out _ _ _ _ HH.out (by simp) T1.out).mono ?_
        rintro e w3 ⟨rfl, t1⟩
        clear T1
        have T1 := hidden t1
        clear t1
        go_wp2_with fail
        refine (IV.out _ _ _ _ (Nat.le_refl _) (by simp) T1.out).mono ?_
        rintro e w4 ⟨rfl, t1⟩
        clear T1
        have T1 := hidden t1
        clear t1
        go_wp2_with fail
        refine (ST.out _ _ T1.out).mono ?_
        rintro e w5 ⟨rfl, t1⟩
        clear T1
        have T1 := hidden t1
        clear t1
        go_wp2_with fail
        go_meet
        exact ⟨rfl, T1.out⟩
      | some ad =>
        go_wp2_with fail
        refine (IV.out _ _ _ _ HH.out (by simp) T1.out).mono ?_
        rintro e w3 ⟨rfl, t1⟩
        clear T1
        have T1 := hidden t1
        clear t1
        go_wp2_with fail
        refine (IV.out _ _ _ _ (Nat.le_refl _) (by simp) T1.out).mono ?_
        rintro e w4 ⟨rfl, t1⟩
        clear T1
        have T1 := hidden t1
        clear t1
        go_wp2_with fail
        refine (ST.out _ _ T1.out).mono ?_
        rintro e w5 ⟨rfl, t1⟩
        clear T1
        have T1 := hidden t1
        clear t1
        go_wp2_with fail
        go_meet
        exact ⟨rfl, T1.out⟩
  case rest =>
  obtain ⟨rfl, t1⟩ := hcut
  clear I0
  have I0 := hidden t1
  clear t1
  have AP := hidden (inv_apart I0.out LL.out.1 HH.out 23)
  go_upto_region 7 with fail
  generalize wc = w2 at *
  go_cut [69] (fun v wx => v = .bool false ∧ Iw w1 [] g wx)
  case first =>
    as_aux_lemma =>
      go_wp2_with fail
      refine (apart_any _ _ _ _ _ _ _ _ _ AP.out.1 AP.out.2).mono ?_
      rintro e w3 ⟨rfl, hb3⟩
      have T1 : Hid (Iw w1 [] g w3) := hidden ⟨hb3, fun x hx => (by cases hx), List.Pairwise.nil⟩
      clear hb3 AP
      go_wp2_with fail
      refine (IA.out _ _ _ (Nat.le_refl _) T1.out).mono ?_
      rintro e w4 ⟨b', rfl, t1⟩
      clear T1
      have T1 := hidden t1
      clear t1
      go_wp2_with fail
      refine (IV.out _ _ _ _ (Nat.le_refl _) (by simp) T1.out).mono ?_
      rintro e w5 ⟨rfl, t1⟩
      have T2 : Hid (Iw w1 [] g w5) := hidden ⟨t1.bel, fun x hx => (by cases hx), List.Pairwise.nil⟩
      clear t1 T1
      go_wp2_with fail
      go_meet
      exact ⟨rfl, T2.out⟩
  case rest =>
  obtain ⟨rfl, t1⟩ := hcut
  clear I0 AP
  have I0 := hidden t1
  clear t1
  have IT := hidden (fun w => fix (Int_any 1 w (by unfold Sm.Wd; omega)) lst1)
  have I1 : Hid (∀ w2, Iw w1 [] g w2 → Calls Tryd.prog 10 #[.slice (some ⟨w2.heap.size, 0, none⟩) 1 1] (w2.alloc (.cells #[.int .u64 1, .int .u64 0, .int .u64 0, .int .u64 0] 33)) fun e w' => ∃ b' : Nat, e = .returned (.slice (some ⟨b', 0, none⟩) 1 1) ∧ Rws w' b' 1 (fun _ => k1) ∧ Iw w1 [] g w') := hidden (fun w2 t => by
    refine (InvertAll_any w2.heap.size 1 1 (fun _ => k1) _ (HT.out.keep (bl_trans (bl_trans B1.out t.bel) (bl_alloc _ _))) (by omega) (fun _ _ => k1ok) (Rws.one w2 k1 33)).mono fun e w' ⟨b', he, hs, hr, hb⟩ => ?_
    exact ⟨b', he, hr.congr (fun _ _ => by rw [k1n, iv_one]), (t.keep (bl_alloc _ _)).keep hb⟩)
  simp only [E4.v, k1] at IT
  go_upto_region 9 with fail
  go_cut [7] (fun v wx => ∃ b' : Nat, v = .slice (some ⟨b', 0, none⟩) 1 1 ∧ Rws wx b' 1 (fun _ => k1) ∧ Iw w1 [] g wx)
  case first =>
    as_aux_lemma =>
      go_wp2_with fail
      refine (IT.out _).mono ?_
      rintro e w3 ⟨rfl, hb3⟩
      have T1 := hidden (I0.out.keep hb3)
      clear hb3 I0
      go_wp2_with fail
      refine (I1.out _ T1.out).mono ?_
      rintro e w4 ⟨b', rfl, hr, t1⟩
      have T2 := hidden t1
      have R2 := hidden hr
      clear t1 hr T1
      go_wp2_with fail
      go_meet
      exact ⟨b', rfl, R2.out, T2.out⟩
  case rest =>
  obtain ⟨b7, rfl, r7, t1⟩ := hcut
  clear I0 IT I1
  have I0 := hidden (t1.keep (Below.refl _ _))
  have R7 := hidden r7
  clear t1 r7
  have ST7 := hidden (fun w' (hb : Below wc.heap.size wc w') => stays_any b c P L cap g w' LL.out.1 (R1.out.keep (I0.out.keep hb).bel) (HS.out.keep (bl_trans B1.out (I0.out.keep hb).bel)))
  have q1 : ∀ w, (Op.equalIn 10000 33 (.agg #[.int .u64 1, .int .u64 0, .int .u64 0, .int .u64 0]) (.agg #[.int .u64 1, .int .u64 0, .int .u64 0, .int .u64 0])).run Tryd.prog w = .ok true w := fun w => (eq4 ⟨1, 0, 0, 0⟩ ⟨1, 0, 0, 0⟩ w).trans (by rw [E4.same_self])
  go_upto_region 10 with fail
  go_cut [88] (fun v wx => v = .bool false ∧ Iw w1 [] g wx)
  case first =>
    as_aux_lemma =>
      go_wp2_with fail
      refine (ST7.out _ (Below.refl _ _)).mono ?_
      rintro e w3 ⟨rfl, hb3⟩
      have T1 := hidden (I0.out.keep hb3)
      have rr := R7.out.keep hb3
      have c0 := rr.c0 0 (by omega)
      have c1 := rr.c1 0 (by omega)
      have c2 := rr.c2 0 (by omega)
      have c3 := rr.c3 0 (by omega)
      simp only [Nat.zero_mul, Nat.zero_add, k1] at c0 c1 c2 c3
      clear rr hb3
      go_wp2_with fail
      go_meet
      exact ⟨rfl, T1.out⟩
  case rest =>
  obtain ⟨rfl, t1⟩ := hcut
  clear I0 R7 ST7 q1
  have B0 := hidden (bl_trans B1.out t1.bel)
  have R0 := hidden (R1.out.keep t1.bel)
  have hs1 := t1.bel.size
  have hb1 := R1.out.lt
  have hbw : Hid (w.heap.size ≤ b ∧ b < wc.heap.size) := hidden ⟨hb, by omega⟩
  clear t1 hs1 hb1
  go_upto_region 12 with fail
  generalize wc = w8 at *
  clear IA IV ST
  go_cut [8] (fun v wx => ∃ (p8 : Option Addr) (b8 c8 : Nat), v = .slice p8 L c8 ∧ (0 < L → p8 = some ⟨b8, 0, none⟩ ∧ w8.heap.size ≤ b8 ∧ Rws wx b8 L g) ∧ Below w8.heap.size w8 wx)
  case first =>
    as_aux_lemma =>
      have O0 := hidden (World.ownsRow_lit (base := w8.heap.size) (e := 43) (size := 4) w8 #[] 0 (Nat.le_refl _) (by decide) rfl)
      have C0 := hidden (bl_alloc w8 (.cells #[] 43))
      cases P with
      | none =>
        obtain ⟨rfl, rfl⟩ := HNN.out rfl
        go_wp2_with (first | (at_builtin; refine wpList_append_own_none rfl _ _ 38 rfl w8.heap.size 43 i0 4 HU.out HI.out _ 0 [] rfl O0.out rfl ?_))
        go_meet
        obtain ⟨p8, b8, c8, h1, h2⟩ := changed_of (g := g) O0.out
        exact ⟨p8, b8, c8, h1, h2, C0.out⟩
      | some ad =>
        have HC : Hid (∀ j u, (svs L g)[j]? = some u → (w8.alloc (.cells #[] 43)).cell? (ad.add j) = some u) := hidden (fun j u hu => by
          have hj : j < L * 4 := by
            have := (List.getElem?_eq_some_iff.1 hu).1
            rwa [svs_len] at this
          obtain ⟨sb, so, h1, h2⟩ := (HS.out.keep B0.out).keep C0.out
          obtain rfl := Option.some.inj (h1 (by omega))
          rw [Addr.add_lit]
          exact rl_cells (h2 (by omega)) L (Nat.le_refl _) j u hu)
        go_wp2_with (first | (at_builtin; refine wpList_append_own_at _ rfl _ _ 38 rfl w8.heap.size 43 i0 (.agg #[.int .u64 0, .int .u64 0, .int .u64 0, .int .u64 0]) 4 32 HU.out HI.out HZ0.out HZ1.out HZ2.out rfl (by decide) _ 0 [] rfl O0.out ad L cap (svs L g) rfl (svs_len _ _) HC.out (svs_one g L) (by have := LL.out.1; unfold maxLen; omega) (by have := LL.out.1; omega) (by simp) ?_; intro v1 w9 how hgr hnil hat; have HO := hidden how; have HB := hidden (below_trans C0.out (below_grown hgr (by simp) (fun k hk => (O0.out.lt k hk).1))); clear how hgr hnil hat))
        go_meet
        rw [Nat.zero_add, List.nil_append] at HO
        obtain ⟨p8, b8, c8, rfl, h2⟩ := changed_of (g := g) HO.out
        exact ⟨p8, b8, c8, rfl, h2, HB.out⟩
  case rest =>
  obtain ⟨p8, b8, c8, rfl, h8, hbl⟩ := hcut
  have H8 := hidden h8
  have bb := bl_trans B0.out hbl
  have rr := (R0.out.keep hbl).congr (f := fgc g L 0) (fun k _ => by unfold fgc; rw [if_neg (by omega)])
  have BB := hidden bb
  have RR := hidden rr
  have CC : Hid (0 < L → w8.heap.size ≤ b8 ∧ p8 = some ⟨b8, 0, none⟩) := hidden (fun h => ⟨(h8 h).2.1, (h8 h).1⟩)
  have C8 : Hid (0 < L → Rws wc b8 L (cgc g 0)) := hidden (fun h => (h8 h).2.2.congr (fun k _ => by unfold cgc; rw [if_neg (by omega)]))
  clear h8 hbl bb rr H8 B0 R0 R1 B1
  generalize wc = w9 at *
  go_wp2_with fail
  go_loopw [9] (fun jv w' => ∃ i : Nat, i ≤ L ∧ jv = .int .i64 i ∧ Hid (Below w.heap.size w w') ∧ Hid (Rws w' b (L + 2) (fgc g L i)) ∧ Hid (0 < L → Rws w' b8 L (cgc g i))) (fun i _ => L - (intOf i).toNat)
  case atStart => exact ⟨0, by omega, rfl, BB, RR, C8⟩
  case round =>
    clear BB RR C8
    obtain ⟨i, hi, rfl, hbl, hf, hc8⟩ := hrel
    by_cases hin : i < L
    · obtain ⟨sb, so, h1, h2⟩ := HS.out
      obtain rfl := h1 (by omega)
      obtain ⟨hb8, rfl⟩ := CC.out (by omega)
      have rx := (h2 (by omega)).keep hbl.out
      have x1 := rx.c1 i hin
      have ii0 : (0 : Int) ≤ (i : Int) := by omega
      have ii1 : (i : Int) < (L : Int) := by omega
      have ii2 : (i : Int) < ((L + 2 : Nat) : Int) := by omega
      have hl1 := LL.out.1
      have w9' : IntKind.i64.wrap ((i : Int) + 1) = (i : Int) + 1 := IntWalk.i64_in _ (by omega)
      have u1 : IntKind.u64.wrap (i : Int) = (i : Int) := IntWalk.u64_in _ (by omega)
      have u2 : IntKind.u64.wrap ((i : Int) + 3) = (i : Int) + 3 := IntWalk.u64_in _ (by omega)
      have hne : b ≠ b8 := by have := hbw.out.2; omega
      have hg1 : gc g i = ⟨(i : Int) + 3, (g i).x1, 0, 0⟩ := rfl
      generalize (g i).x1 = x at x1 hg1
      have r8 := hc8.out (by omega)
      have N1 := hidden (setS_below wr b (i * 4) ⟨(i : Int) + 3, x, 0, 0⟩ hbl.out hbw.out.1)
      have N2 := hidden ((hf.out.at i (by omega) ⟨(i : Int) + 3, x, 0, 0⟩).congr (f := fgc g L (i + 1)) (fun j _ => by rw [← hg1]; exact fgc_next g L i j))
      have N3 := hidden (r8.farS hne (i * 4) ⟨(i : Int) + 3, x, 0, 0⟩)
      have HG1 := hidden hg1
      have a0' := hf.out.c0 i (by omega)
      have a1' := hf.out.c1 i (by omega)
      have a2' := hf.out.c2 i (by omega)
      have a3' := hf.out.c3 i (by omega)
      generalize fgc g L i i = y at a0' a1' a2' a3'
      have f0 := hf.out.fr (i * 4) (by omega)
      have f1 := hf.out.fr (i * 4 + 1) (by omega)
      have f2 := hf.out.fr (i * 4 + 2) (by omega)
      have f3 := hf.out.fr (i * 4 + 3) (by omega)
      unfold setS at N1 N2 N3
      simp only at N1 N2 N3
      clear rx h1 h2 hl1 hg1 r8 hbl hf hc8
      go_upto_region 16 with fail
      go_cut [98] (fun v wx => Below w.heap.size w wx ∧ Rws wx b (L + 2) (fgc g L (i + 1)) ∧ Rws wx b8 L (cgc g i))
      case first =>
        as_aux_lemma =>
          go_wp2_with fail
          go_meet
          exact ⟨N1.out, N2.out, N3.out⟩
      case rest =>
      obtain ⟨n1, n2, n3⟩ := hcut
      clear N1 N2 N3 a0' a1' a2' a3' f0 f1 f2 f3 x1 u1 u2
      have c0 := n2.c0 i (by omega)
      have c1 := n2.c1 i (by omega)
      have c2 := n2.c2 i (by omega)
      have c3 := n2.c3 i (by omega)
      rw [show fgc g L (i + 1) i = gc g i by unfold fgc; rw [if_pos (by omega)], HG1.out] at c0 c1 c2 c3
      have a0' := n3.c0 i (by omega)
      have a1' := n3.c1 i (by omega)
      have a2' := n3.c2 i (by omega)
      have a3' := n3.c3 i (by omega)
      generalize cgc g i i = y' at a0' a1' a2' a3'
      have f0 := n3.fr (i * 4) (by omega)
      have f1 := n3.fr (i * 4 + 1) (by omega)
      have f2 := n3.fr (i * 4 + 2) (by omega)
      have f3 := n3.fr (i * 4 + 3) (by omega)
      have N1 := hidden (setS_below wc b8 (i * 4) ⟨(i : Int) + 3, x, 0, 0⟩ n1 (by have := hbw.out; omega))
      have N2 := hidden (n2.farS hne.symm (i * 4) ⟨(i : Int) + 3, x, 0, 0⟩)
      have N3 := hidden (fun (_ : 0 < L) => (n3.at i hin ⟨(i : Int) + 3, x, 0, 0⟩).congr (f := cgc g (i + 1)) (fun j _ => by rw [← HG1.out]; exact cgc_next g i j))
      unfold setS at N1 N2 N3
      simp only at c0 c1 c2 c3 N1 N2 N3
      clear n1 n2 n3
      go_wp2_with fail
      go_roundw
      case rel => exact ⟨i + 1, by omega, by go_num, N1, N2, N3⟩
      case measure => simp [intOf]; omega
    · have hii : L = i := by omega
      subst hii
      have lq : ¬ (L : Int) < (L : Int) := by omega
      have gok : ∀ k, k < L → (gc g k).ok := fun k hk => gc_ok (HG.out k hk) (by have := LL.out.1; omega)
      have IA2 := hidden (InvertAll_any b L c (fgc g L L) wr (HT.out.keep hbl.out) (by have := LL.out.1; omega) (fun k hk => by rw [show fgc g L L k = gc g k from if_pos hk]; exact gok k hk) (hf.out.less (by omega)))
      have IV2 := hidden (fun b' w' (hb' : Below wr.heap.size wr w') (hr : Rws w' b' L (fun k => iv (gc g k).n)) => inverses_any b' L p8 L c8 (gc g) w' LL.out.1 gok hr ⟨b8, 0, fun h => (CC.out h).2, fun h => (((hc8.out h).congr (f := gc g) (fun k hk => if_pos hk)).keep hb').rl⟩)
      have B9 := hidden hbl.out
      clear gok hbl hf hc8
      go_wp2_with fail
      refine IA2.out.mono ?_
      rintro e w10 ⟨b', rfl, hs, hr, hb10⟩
      have hr2 := hr.congr (f := fun k => iv (gc g k).n) (fun k hk => by rw [show fgc g L L k = gc g k from if_pos hk])
      have IV3 := hidden (IV2.out b' w10 hb10 hr2)
      have B10 := hidden (bl_trans B9.out hb10)
      clear IA2 hr hr2 hb10 IV2
      go_wp2_with fail
      refine IV3.out.mono ?_
      rintro e w11 ⟨rfl, hb11⟩
      have B11 := hidden (bl_trans B10.out hb11)
      clear hb11 IV3
      go_wp2_with fail
      refine bodyPost_ret (v := .bool true) (by simp [results, Tryd.results4, go_sem]) rfl ⟨rfl, B11.out⟩
end Go.Proofs.YtcenphihmggfkaaDoor
