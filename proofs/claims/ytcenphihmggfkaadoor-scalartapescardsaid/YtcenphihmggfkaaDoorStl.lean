import Derived.Test.YtcenphihmggfkaaDoorStx
import Derived.Laws.AppendOwnNone
namespace Go.Proofs.YtcenphihmggfkaaDoor
open Go.RowKit
theorem byteinfo : (Tryd.prog.info? 5).map (fun i => (i.zero, i.size, i.bytes)) = some (some (.int .u8 0), 1, 1) := by kernel_rfl
theorem blv_len (f : Nat → Int) (L : Nat) : (blv f L).length = L := by simp [blv]
theorem blv_at {w : World} {P : Option Addr} {L : Nat} {f : Nat → Int} {a : Addr} (h : Stm w P L f) (hP : P = some a) : ∀ j u, (blv f L)[j]? = some u → w.cell? (a.add j) = some u := fun j u hu => by
  have hj : j < L := by
    have := (List.getElem?_eq_some_iff.1 hu).1
    simpa [blv] using this
  obtain ⟨sb, so, h1, h2⟩ := h
  have e := h1 (by omega)
  rw [hP] at e
  obtain rfl := Option.some.inj e
  have hc := (h2 (by omega)).c j hj
  simp [blv, hj] at hu
  rw [← hu, Addr.add_lit]
  exact hc
theorem blv_one (f : Nat → Int) (L : Nat) : ∀ u ∈ blv f L, u.oneCell' = true := fun u hu => by
  obtain ⟨j, _, rfl⟩ := List.mem_map.1 hu
  rfl
theorem cell_keepA {w w' : World} {a : Addr} {v : Value} (h : w.cell? a = some v) (hb : Below w.heap.size w w') : w'.cell? a = some v := by
  rw [hb.cell (p := a) (World.block_lt_of_cell? w a h)]; exact h
theorem below_grownA {w w' : World} {base : Nat} {v : Value} (hg : w.grownBy w' v.ownBlock) (hb : base ≤ w.heap.size) (hr : ∀ k, v.ownBlock = some k → base ≤ k) : Below base w w' := below_grown hg hb hr
/-- the copy's bytes as far as they are written over -/
def F1 (f : Nat → Int) (L m : Nat) (j : Nat) : Int := if j < m then (f j + 1) % 256 else f3 f L j
theorem drew_bl4 (w : World) : Below w.heap.size w w.drew := (Below.refl _ _).drew
set_option maxRecDepth 100000 in
set_option maxHeartbeats 16000000 in
theorem tapes_any (P : Option Addr) (L cap : Nat) (i : Int) (f : Nat → Int) (w : World) (hT : Tb w) (hL : L ≤ 140737488351232) (hcap : L ≤ cap) (hN : P = none → L = 0 ∧ cap = 0) (hf : ∀ j, j < L → 0 ≤ f j ∧ f j ≤ 255) (hS : Stm w P L f) :
    Calls Tryd.prog 3 #[.slice P L cap, .int .i64 i] w fun e w' => e = .returned (.bool true) ∧ Below w.heap.size w w' := by
  obtain ⟨i0, hi, hz0, hz1, hz2⟩ := info_parts byteinfo
  have HI := hidden hi
  have HZ0 := hidden hz0
  have HZ1 := hidden hz1
  have HZ2 := hidden hz2
  have HU : Hid (Tryd.prog.underlying 22 = some (.slice 5)) := hidden (by kernel_rfl)
  have HT := hidden hT
  have HS := hidden hS
  have HF := hidden hf
  have LL : Hid (L ≤ 140737488351232 ∧ L ≤ cap) := hidden ⟨hL, hcap⟩
  have HNN := hidden hN
  clear hi hz0 hz1 hz2 hT hS hf hL hcap hN
  go_enter Tryd.func3, Tryd.ntmps3
  go_upto_region 1 with fail
  go_cut [5] (fun v wx => wx.ownsRow w.heap.size 5 1 v L (blv f L) ∧ Below w.heap.size w wx)
  case first =>
    as_aux_lemma =>
      have O0 := hidden (World.ownsRow_lit (base := w.heap.size) (e := 5) (size := 1) w #[] 0 (Nat.le_refl _) (by decide) rfl)
      have B0 := hidden (bl_alloc w (.cells #[] 5))
      cases P with
      | none =>
        obtain ⟨rfl, rfl⟩ := HNN.out rfl
        go_wp2_with (first | (at_builtin; refine wpList_append_own_none rfl _ _ 22 rfl w.heap.size 5 i0 1 HU.out HI.out _ 0 [] rfl O0.out rfl ?_))
        go_meet
        exact ⟨O0.out, B0.out⟩
      | some ad =>
        have HC := hidden (fun j u hu => cell_keepA (blv_at HS.out rfl j u hu) B0.out)
        go_wp2_with (first | (at_builtin; refine wpList_append_own_at _ rfl _ _ 22 rfl w.heap.size 5 i0 (.int .u8 0) 1 1 HU.out HI.out HZ0.out HZ1.out HZ2.out rfl (by decide) _ 0 [] rfl O0.out ad L cap (blv f L) rfl (by rw [blv_len, Nat.mul_one]) HC.out (blv_one f L) (by have := LL.out.1; unfold maxLen; omega) (by have := LL.out.1; omega) (by simp) ?_; intro v1 w1 how hgr hnil hat; have HO := hidden how; have HB := hidden (below_trans B0.out (below_grownA hgr (by simp) (fun k hk => (O0.out.lt k hk).1))); clear how hgr hnil hat))
        go_meet
        rw [Nat.zero_add, List.nil_append] at HO
        exact ⟨HO.out, HB.out⟩
  case rest =>
  obtain ⟨how, hbl⟩ := hcut
  have HO := hidden how
  have HB := hidden hbl
  clear how hbl
  go_upto_region 2 with fail
  go_cut [5] (fun v wx => ∃ g cap2 : Nat, v = .slice (some ⟨g, 0, none⟩) (L + 3) cap2 ∧ L + 3 ≤ cap2 ∧ Ts w g L (f3 f L) [] wx)
  case first =>
    as_aux_lemma =>
      have sz := HB.out.size
      have HA := hidden (HO.out.alloc (.cells #[.int .u8 201, .int .u8 202, .int .u8 203] 5))
      have BA := hidden (below_trans HB.out (below_less (bl_alloc wc (.cells #[.int .u8 201, .int .u8 202, .int .u8 203] 5)) sz))
      have CN := hidden (cells_new wc [.int .u8 201, .int .u8 202, .int .u8 203] 5)
      have SZ : Hid (w.heap.size ≤ (wc.alloc (.cells #[.int .u8 201, .int .u8 202, .int .u8 203] 5)).heap.size) := hidden (by simp; omega)
      clear sz
      go_wp2_with (first | (at_builtin; refine wpList_append_own_at _ rfl _ _ 22 rfl w.heap.size 5 i0 (.int .u8 0) 1 1 HU.out HI.out HZ0.out HZ1.out HZ2.out rfl (by decide) _ L (blv f L) rfl HA.out ⟨wc.heap.size, 0, none⟩ 3 3 [.int .u8 201, .int .u8 202, .int .u8 203] rfl rfl CN.out (by simp [Value.oneCell']) (by have := LL.out.1; unfold maxLen; omega) (by have := LL.out.1; omega) SZ.out ?_; intro v1 w1 how hgr hnil hat; have HO2 := hidden how; have HB2 := hidden (below_trans BA.out (below_grownA hgr SZ.out (fun k hk => (HA.out.lt k hk).1))); clear how hgr hnil hat))
      go_meet
      exact Ts.start HB2.out HF.out HO2.out
  case rest =>
  obtain ⟨g, cap2, rfl, hc2, t1⟩ := hcut
  have T1 := hidden t1
  clear t1 HO HB HI HZ0 HZ1 HZ2 HU
  have hl1 := LL.out.1
  have hl2 := LL.out.2
  have a0 : (0 : Int) ≤ (L : Int) := by omega
  have a1 : (L : Int) ≤ (cap2 : Int) := by omega
  have a2 : ((L : Int) - 0).toNat = L := by omega
  have a3 : ((cap2 : Int) - 0).toNat = cap2 := by omega
  have a4 : (L : Int).toNat = L := by omega
  have a5 : (cap2 : Int).toNat = cap2 := by omega
  have TF := hidden (fun (rs : List (Nat × Nat × (Nat → E4))) (w' : World) (t : Ts w g L (f3 f L) rs w') => Tape_ts t HT.out (by omega) (some ⟨g, 0, none⟩) cap2 i f (by omega) (t.stm (fun j hj => by unfold f3; rw [if_pos hj])))
  have TP := hidden (fun (h : Nat → Int) (rs : List (Nat × Nat × (Nat → E4))) (n : Int) (w' : World) (t : Ts w g L h rs w') => Tape_ts t HT.out (by omega) P cap n f hl2 (HS.out.keep t.bel))
  have RP := hidden (fun (h : Nat → Int) (rs : List (Nat × Nat × (Nat → E4))) (w' : World) (t : Ts w g L h rs w') => rTape_ts t (by omega) P cap i f (HS.out.keep t.bel))
  have TG := hidden (fun (h : Nat → Int) (rs : List (Nat × Nat × (Nat → E4))) (w' : World) (t : Ts w g L h rs w') => Tape_ts t HT.out (by omega) (some ⟨g, 0, none⟩) cap2 i h (by omega) (t.stm (fun _ _ => rfl)))
  have RG := hidden (fun (h : Nat → Int) (rs : List (Nat × Nat × (Nat → E4))) (w' : World) (t : Ts w g L h rs w') => rTape_ts t (by omega) (some ⟨g, 0, none⟩) cap2 i h (t.stm (fun _ _ => rfl)))
  obtain ⟨n, hn⟩ : ∃ n, tn i L = n := ⟨_, rfl⟩
  obtain ⟨er, her⟩ : ∃ er, te i L = er := ⟨_, rfl⟩
  have n4 := tn_le i L
  rw [hn] at n4
  rw [hn, her] at TF RP TG RG
  go_upto_region 3 with fail
  go_cut [6, 7] (fun v ev wx => ∃ (pl : Option Addr) (bl : Nat), v = .slice pl n n ∧ ev = .int .i64 er ∧ (0 < n → pl = some ⟨bl, 0, none⟩) ∧ (n = 0 → pl = none ∨ ∃ x, pl = some ⟨x, 0, none⟩) ∧ Ts w g L (f3 f L) [(bl, n, tp f)] wx)
  case first =>
    as_aux_lemma =>
      clear hl1 hl2 n4
      go_wp2_with fail
      refine (TF.out _ _ T1.out).mono ?_
      rintro e w1 ⟨pl, bl, rfl, hp, hz, t1⟩
      have T2 := hidden t1
      have HP := hidden hp
      have HZ := hidden hz
      clear t1 hp hz
      go_wp2_with fail
      go_meet
      exact ⟨pl, bl, rfl, rfl, HP.out, HZ.out, T2.out⟩
  case rest =>
  obtain ⟨pl, bl, rfl, rfl, hpl, hzl, t1⟩ := hcut
  clear T1 TF
  have T1 := hidden t1
  have HPL := hidden hpl
  have HZL := hidden hzl
  clear t1 hpl hzl
  go_upto_region 4 with fail
  go_cut [8, 9] (fun v ev wx => ∃ (pm : Option Addr) (bm cm : Nat), v = .slice pm n cm ∧ ev = .int .i64 er ∧ (0 < n → pm = some ⟨bm, 0, none⟩) ∧ Ts w g L (f3 f L) [(bm, n, tp f), (bl, n, tp f)] wx)
  case first =>
    as_aux_lemma =>
      clear hl1 hl2 n4
      go_wp2_with fail
      refine (RP.out _ _ _ T1.out).mono ?_
      rintro e w1 ⟨pm, bm, cm, rfl, hp, t1⟩
      have T2 := hidden t1
      have HP := hidden hp
      clear t1 hp
      go_wp2_with fail
      go_meet
      exact ⟨pm, bm, cm, rfl, rfl, HP.out, T2.out⟩
  case rest =>
  obtain ⟨pm, bm, cm, rfl, rfl, hpm, t1⟩ := hcut
  clear T1 RP
  have T1 := hidden t1
  have HPM := hidden hpm
  clear t1 hpm
  have IS := hidden (fun (k : Nat) w => is_any (tp f k) w)
  simp only [E4.v] at IS
  have nn0 : (0 : Int) ≤ (n : Int) := by omega
  have NN := hidden n4
  clear n4 hl1 hl2
  generalize wc = w3 at *
  go_wp2_with fail
  go_loopw [10] (fun kv w' => ∃ k : Nat, k ≤ n ∧ kv = .int .i64 k ∧ Hid (Ts w g L (f3 f L) [(bm, n, tp f), (bl, n, tp f)] w')) (fun k _ => n - (intOf k).toNat)
  case atStart => exact ⟨0, by omega, rfl, T1⟩
  case round =>
    clear T1
    obtain ⟨k, hk, rfl, hM⟩ := hrel
    by_cases hkn : k < n
    · obtain rfl := HPL.out (by omega)
      obtain rfl := HPM.out (by omega)
      have k0 : (0 : Int) ≤ (k : Int) := by omega
      have k1 : (k : Int) < (n : Int) := by omega
      have d := hM.out.keep (drew_bl4 wr)
      have rl := (d.rows (bl, n, tp f) (by simp) (by simp; omega)).2
      have rm := (d.rows (bm, n, tp f) (by simp) (by simp; omega)).2
      simp only at rl rm
      have IK := hidden (IS.out k)
      have w9 : IntKind.i64.wrap ((k : Int) + 1) = (k : Int) + 1 := IntWalk.i64_in _ (by have := NN.out; omega)
      obtain ⟨z, hz⟩ : ∃ z : E4, tp f k = z := ⟨_, rfl⟩
      rw [hz] at IK
      have hn0 : 0 < n := by omega
      have KS : Hid (∀ w', Ts w g L (f3 f L) [(bm, n, tp f), (bl, n, tp f)] w' → (fun w' => Ts w g L (f3 f L) [(bm, n, tp f), (bl, n, tp f)] w' ∧ w'.cell? ⟨bl, k * 4, none⟩ = some (.int .u64 z.x0) ∧ w'.cell? ⟨bl, k * 4 + 1, none⟩ = some (.int .u64 z.x1) ∧ w'.cell? ⟨bl, k * 4 + 2, none⟩ = some (.int .u64 z.x2) ∧ w'.cell? ⟨bl, k * 4 + 3, none⟩ = some (.int .u64 z.x3) ∧ w'.cell? ⟨bm, k * 4, none⟩ = some (.int .u64 z.x0) ∧ w'.cell? ⟨bm, k * 4 + 1, none⟩ = some (.int .u64 z.x1) ∧ w'.cell? ⟨bm, k * 4 + 2, none⟩ = some (.int .u64 z.x2) ∧ w'.cell? ⟨bm, k * 4 + 3, none⟩ = some (.int .u64 z.x3)) w') := hidden (fun w' h => ⟨h, hz ▸ (h.rows (bl, n, tp f) (by simp) hn0).2.c0 k hkn, hz ▸ (h.rows (bl, n, tp f) (by simp) hn0).2.c1 k hkn, hz ▸ (h.rows (bl, n, tp f) (by simp) hn0).2.c2 k hkn, hz ▸ (h.rows (bl, n, tp f) (by simp) hn0).2.c3 k hkn, hz ▸ (h.rows (bm, n, tp f) (by simp) hn0).2.c0 k hkn, hz ▸ (h.rows (bm, n, tp f) (by simp) hn0).2.c1 k hkn, hz ▸ (h.rows (bm, n, tp f) (by simp) hn0).2.c2 k hkn, hz ▸ (h.rows (bm, n, tp f) (by simp) hn0).2.c3 k hkn⟩)
      have K0 := hidden (KS.out _ d)
      clear d rl rm hM hz
      go_upto_region 10 with fail
      go_cut [71] (fun v wx => v = .bool false ∧ Ts w g L (f3 f L) [(bm, n, tp f), (bl, n, tp f)] wx)
      case first =>
        as_aux_lemma =>
          go_region_held3 (fun w' => Ts w g L (f3 f L) [(bm, n, tp f), (bl, n, tp f)] w' ∧ w'.cell? ⟨bl, k * 4, none⟩ = some (.int .u64 z.x0) ∧ w'.cell? ⟨bl, k * 4 + 1, none⟩ = some (.int .u64 z.x1) ∧ w'.cell? ⟨bl, k * 4 + 2, none⟩ = some (.int .u64 z.x2) ∧ w'.cell? ⟨bl, k * 4 + 3, none⟩ = some (.int .u64 z.x3) ∧ w'.cell? ⟨bm, k * 4, none⟩ = some (.int .u64 z.x0) ∧ w'.cell? ⟨bm, k * 4 + 1, none⟩ = some (.int .u64 z.x1) ∧ w'.cell? ⟨bm, k * 4 + 2, none⟩ = some (.int .u64 z.x2) ∧ w'.cell? ⟨bm, k * 4 + 3, none⟩ = some (.int .u64 z.x3)) (first | with_reducible exact K0.out | with_reducible exact hk.out)
            (first | (go_at_call 7; with_reducible refine (IK.out _).mono ?_; rintro e wn ⟨rfl, hb⟩; have hk := hidden (KS.out _ ((show Ts w g L (f3 f L) [(bm, n, tp f), (bl, n, tp f)] _ from And.left (by assumption)).keep hb))))
          go_wp2_with fail
          go_meet
          exact ⟨rfl, hk.out.1⟩
      case rest =>
      obtain ⟨rfl, t2⟩ := hcut
      have T2 := hidden t2
      clear t2 K0 KS
      go_wp2_with fail
      go_roundw
      case rel => exact ⟨k + 1, by omega, by go_num, T2⟩
      case measure => simp [intOf]; omega
    · have hkn : n = k := by omega
      subst hkn
      have lq : ¬ (n : Int) < (n : Int) := by omega
      have M1 := hidden (hM.out.congr (f := F1 f L 0) (fun j _ => by unfold F1; rw [if_neg (by omega)]))
      clear hM hk
      go_upto_region 12 with fail
      clear lq
      generalize wr = w4 at *
      go_wp2_with fail
      go_loopw [11] (fun mv w' => ∃ m : Nat, m ≤ L ∧ mv = .int .i64 m ∧ Hid (Ts w g L (F1 f L m) [(bm, n, tp f), (bl, n, tp f)] w')) (fun m _ => L - (intOf m).toNat)
      case atStart => exact ⟨0, by omega, rfl, M1⟩
      case round =>
        clear M1
        obtain ⟨m, hm, rfl, hM⟩ := hrel
        by_cases hmL : m < L
        · obtain ⟨sb, so, hp1, hb1⟩ := HS.out
          obtain rfl := hp1 (by omega)
          have BSS := (hb1 (by omega)).keep hM.out.bel
          have hl1 := LL.out.1
          have hl2 := LL.out.2
          have m0 : (0 : Int) ≤ (m : Int) := by omega
          have m1 : (m : Int) < (L : Int) := by omega
          have m2 : (m : Int) < ((L + 3 : Nat) : Int) := by omega
          have c1 := hM.out.c m (by omega)
          have g1 := hM.out.fr m (by omega)
          have c2 := BSS.c m hmL
          have xr := BSS.r m hmL
          rw [show F1 f L m m = f m by unfold F1 f3; rw [if_neg (by omega), if_pos hmL]] at c1
          have NM := hidden ((hM.out.keep (drew_bl4 wr)).put m (by omega) ((f m + 1) % 256) (by omega) |>.congr (f := F1 f L (m + 1)) (fun j _ => by
            unfold F1
            by_cases hj : j = m
            · subst hj; rw [if_pos rfl, if_pos (by omega)]
            · rw [if_neg hj]
              by_cases hl : j < m
              · rw [if_pos hl, if_pos (by omega)]
              · rw [if_neg hl, if_neg (by omega)]))
          have w5 : IntKind.u8.wrap (f m + 1) = (f m + 1) % 256 := by rw [IntKind.wrap_u8]
          have w9 : IntKind.i64.wrap ((m : Int) + 1) = (m : Int) + 1 := IntWalk.i64_in _ (by omega)
          have d1 : wr.drew.cell? ⟨g, m, none⟩ = some (.int .u8 (f m)) := c1
          have d2 : wr.drew.cell? ⟨sb, so + m, none⟩ = some (.int .u8 (f m)) := c2
          have d3 : wr.drew.frozen? ⟨g, m, none⟩ = false := g1
          clear hM BSS hb1 hp1 c1 g1 c2 xr hl1 hl2
          generalize f m = x at *
          go_upto_region 15 with fail
          go_cut [86] (fun v wx => v = .bool false ∧ wx = wr.drew)
          case first =>
            as_aux_lemma =>
              go_region_with fail
              all_goals
                clear d1 d2 d3 w5 w9
                go_wp2_with fail
                go_meet
                exact ⟨rfl, rfl⟩
          case rest =>
          obtain ⟨rfl, rfl⟩ := hcut
          generalize wr.drew = wd at *
          go_wp2_with fail
          go_roundw
          case rel => exact ⟨m + 1, by omega, by go_num, NM⟩
          case measure => simp [intOf]; omega
        · have hmL : L = m := by omega
          subst hmL
          have lq : ¬ (L : Int) < (L : Int) := by omega
          have M1 := hidden hM.out
          clear hM hm
          go_upto_region 18 with fail
          clear lq
          generalize wr = w5 at *
          go_wp2_with fail
          go_loopw [12] (fun kv w' => ∃ k : Nat, k ≤ n ∧ kv = .int .i64 k ∧ Hid (Ts w g L (F1 f L L) [(bm, n, tp f), (bl, n, tp f)] w')) (fun k _ => n - (intOf k).toNat)
          case atStart => exact ⟨0, by omega, rfl, M1⟩
          case round =>
            clear M1
            obtain ⟨k, hk, rfl, hM⟩ := hrel
            by_cases hkn : k < n
            · obtain rfl := HPL.out (by omega)
              obtain rfl := HPM.out (by omega)
              have k0 : (0 : Int) ≤ (k : Int) := by omega
              have k1 : (k : Int) < (n : Int) := by omega
              have d := hM.out.keep (drew_bl4 wr)
              have IK := hidden (IS.out k)
              have w9 : IntKind.i64.wrap ((k : Int) + 1) = (k : Int) + 1 := IntWalk.i64_in _ (by have := NN.out; omega)
              obtain ⟨z, hz⟩ : ∃ z : E4, tp f k = z := ⟨_, rfl⟩
              rw [hz] at IK
              have hn0 : 0 < n := by omega
              have KS : Hid (∀ w', Ts w g L (F1 f L L) [(bm, n, tp f), (bl, n, tp f)] w' → (fun w' => Ts w g L (F1 f L L) [(bm, n, tp f), (bl, n, tp f)] w' ∧ w'.cell? ⟨bl, k * 4, none⟩ = some (.int .u64 z.x0) ∧ w'.cell? ⟨bl, k * 4 + 1, none⟩ = some (.int .u64 z.x1) ∧ w'.cell? ⟨bl, k * 4 + 2, none⟩ = some (.int .u64 z.x2) ∧ w'.cell? ⟨bl, k * 4 + 3, none⟩ = some (.int .u64 z.x3) ∧ w'.cell? ⟨bm, k * 4, none⟩ = some (.int .u64 z.x0) ∧ w'.cell? ⟨bm, k * 4 + 1, none⟩ = some (.int .u64 z.x1) ∧ w'.cell? ⟨bm, k * 4 + 2, none⟩ = some (.int .u64 z.x2) ∧ w'.cell? ⟨bm, k * 4 + 3, none⟩ = some (.int .u64 z.x3)) w') := hidden (fun w' h => ⟨h, hz ▸ (h.rows (bl, n, tp f) (by simp) hn0).2.c0 k hkn, hz ▸ (h.rows (bl, n, tp f) (by simp) hn0).2.c1 k hkn, hz ▸ (h.rows (bl, n, tp f) (by simp) hn0).2.c2 k hkn, hz ▸ (h.rows (bl, n, tp f) (by simp) hn0).2.c3 k hkn, hz ▸ (h.rows (bm, n, tp f) (by simp) hn0).2.c0 k hkn, hz ▸ (h.rows (bm, n, tp f) (by simp) hn0).2.c1 k hkn, hz ▸ (h.rows (bm, n, tp f) (by simp) hn0).2.c2 k hkn, hz ▸ (h.rows (bm, n, tp f) (by simp) hn0).2.c3 k hkn⟩)
              have K0 := hidden (KS.out _ d)
              clear d hM hz
              go_upto_region 21 with fail
              go_cut [110] (fun v wx => v = .bool false ∧ Ts w g L (F1 f L L) [(bm, n, tp f), (bl, n, tp f)] wx)
              case first =>
                as_aux_lemma =>
                  go_region_held3 (fun w' => Ts w g L (F1 f L L) [(bm, n, tp f), (bl, n, tp f)] w' ∧ w'.cell? ⟨bl, k * 4, none⟩ = some (.int .u64 z.x0) ∧ w'.cell? ⟨bl, k * 4 + 1, none⟩ = some (.int .u64 z.x1) ∧ w'.cell? ⟨bl, k * 4 + 2, none⟩ = some (.int .u64 z.x2) ∧ w'.cell? ⟨bl, k * 4 + 3, none⟩ = some (.int .u64 z.x3) ∧ w'.cell? ⟨bm, k * 4, none⟩ = some (.int .u64 z.x0) ∧ w'.cell? ⟨bm, k * 4 + 1, none⟩ = some (.int .u64 z.x1) ∧ w'.cell? ⟨bm, k * 4 + 2, none⟩ = some (.int .u64 z.x2) ∧ w'.cell? ⟨bm, k * 4 + 3, none⟩ = some (.int .u64 z.x3)) (first | with_reducible exact K0.out | with_reducible exact hk.out)
                    (first | (go_at_call 7; with_reducible refine (IK.out _).mono ?_; rintro e wn ⟨rfl, hb⟩; have hk := hidden (KS.out _ ((show Ts w g L (F1 f L L) [(bm, n, tp f), (bl, n, tp f)] _ from And.left (by assumption)).keep hb))))
                  go_wp2_with fail
                  go_meet
                  exact ⟨rfl, hk.out.1⟩
              case rest =>
              obtain ⟨rfl, t2⟩ := hcut
              have T2 := hidden t2
              clear t2 K0 KS
              go_wp2_with fail
              go_roundw
              case rel => exact ⟨k + 1, by omega, by go_num, T2⟩
              case measure => simp [intOf]; omega
            · have hkn : n = k := by omega
              subst hkn
              have lq : ¬ (n : Int) < (n : Int) := by omega
              have M1 := hidden hM.out
              clear hM hk
              have c0 := M1.out.c L (by omega)
              have c1 := M1.out.c (L + 1) (by omega)
              have c2 := M1.out.c (L + 2) (by omega)
              rw [show F1 f L L L = 201 by unfold F1 f3; rw [if_neg (by omega), if_neg (by omega)]; omega] at c0
              rw [show F1 f L L (L + 1) = 202 by unfold F1 f3; rw [if_neg (by omega), if_neg (by omega)]; omega] at c1
              rw [show F1 f L L (L + 2) = 203 by unfold F1 f3; rw [if_neg (by omega), if_neg (by omega)]; omega] at c2
              have hl1 := LL.out.1
              have e1 : IntKind.i64.wrap ((L : Int) + 1) = (L : Int) + 1 := IntWalk.i64_in _ (by omega)
              have e2 : IntKind.i64.wrap ((L : Int) + 2) = (L : Int) + 2 := IntWalk.i64_in _ (by omega)
              have e3 : (L : Int) < (L : Int) + 3 := by omega
              have e4 : (L : Int) + 1 < (L : Int) + 3 := by omega
              have e5 : (L : Int) + 2 < (L : Int) + 3 := by omega
              have e6 : ((L : Int) + 1).toNat = L + 1 := by omega
              have e7 : ((L : Int) + 2).toNat = L + 2 := by omega
              have e8 : (0 : Int) ≤ (L : Int) + 1 := by omega
              have e9 : (0 : Int) ≤ (L : Int) + 2 := by omega
              have e10 : ((L + 3 : Nat) : Int) = (L : Int) + 3 := by omega
              clear hl1
              go_upto_region 25 with fail
              clear lq c0 c1 c2 e1 e2 e3 e4 e5 e6 e7 e8 e9 e10
              generalize wr = w6 at *
              obtain ⟨q, hq⟩ : ∃ q, IntKind.i64.wrap (i.tdiv 2) = q := ⟨_, rfl⟩
              obtain ⟨nb, hnb⟩ : ∃ x, tn q L = x := ⟨_, rfl⟩
              obtain ⟨eb, heb⟩ : ∃ x, te q L = x := ⟨_, rfl⟩
              have nb4 := tn_le q L
              rw [hnb] at nb4
              have NB := hidden nb4
              have TA := hidden (fun (rs : List (Nat × Nat × (Nat → E4))) (w' : World) (t : Ts w g L (F1 f L L) rs w') => TP.out _ rs i w' t)
              rw [hn, her] at TA
              have TB := hidden (fun (rs : List (Nat × Nat × (Nat → E4))) (w' : World) (t : Ts w g L (F1 f L L) rs w') => TP.out _ rs q w' t)
              rw [hnb, heb] at TB
              clear nb4 hnb heb TP
              go_cut [13, 14] (fun v ev wx => ∃ (pp : Option Addr) (bb' : Nat), v = .slice pp n n ∧ ev = .int .i64 er ∧ (0 < n → pp = some ⟨bb', 0, none⟩) ∧ (n = 0 → pp = none ∨ ∃ x, pp = some ⟨x, 0, none⟩) ∧ Ts w g L (F1 f L L) ((bb', n, tp f) :: [(bm, n, tp f), (bl, n, tp f)]) wx)
              case first =>
                as_aux_lemma =>
                  go_wp2_with fail
                  refine (TA.out _ _ M1.out).mono ?_
                  rintro e w7 ⟨pp, bb', rfl, hp, hz, t1⟩
                  have T2 := hidden t1
                  have QP := hidden hp
                  have QZ := hidden hz
                  clear t1 hp hz
                  go_wp2_with fail
                  go_meet
                  exact ⟨pp, bb', rfl, rfl, QP.out, QZ.out, T2.out⟩
              case rest =>
              obtain ⟨pa, ba, rfl, rfl, hpp, hzz, t1⟩ := hcut
              clear M1
              have M1 := hidden t1
              have HPA := hidden hpp
              have HZA := hidden hzz
              clear t1 hpp hzz
              go_upto_region 26 with fail
              go_cut [15, 16] (fun v ev wx => ∃ (pp : Option Addr) (bb' : Nat), v = .slice pp nb nb ∧ ev = .int .i64 eb ∧ (0 < nb → pp = some ⟨bb', 0, none⟩) ∧ (nb = 0 → pp = none ∨ ∃ x, pp = some ⟨x, 0, none⟩) ∧ Ts w g L (F1 f L L) ((bb', nb, tp f) :: [(ba, n, tp f), (bm, n, tp f), (bl, n, tp f)]) wx)
              case first =>
                as_aux_lemma =>
                  go_wp2_with fail
                  refine (TB.out _ _ M1.out).mono ?_
                  rintro e w7 ⟨pp, bb', rfl, hp, hz, t1⟩
                  have T2 := hidden t1
                  have QP := hidden hp
                  have QZ := hidden hz
                  clear t1 hp hz
                  go_wp2_with fail
                  go_meet
                  exact ⟨pp, bb', rfl, rfl, QP.out, QZ.out, T2.out⟩
              case rest =>
              obtain ⟨pb, bb, rfl, rfl, hpp, hzz, t1⟩ := hcut
              clear M1
              have M1 := hidden t1
              have HPB := hidden hpp
              have HZB := hidden hzz
              clear t1 hpp hzz
              go_upto_region 27 with fail
              go_cut [17, 18] (fun v ev wx => ∃ (pp : Option Addr) (bb' : Nat), v = .slice pp n n ∧ ev = .int .i64 er ∧ (0 < n → pp = some ⟨bb', 0, none⟩) ∧ (n = 0 → pp = none ∨ ∃ x, pp = some ⟨x, 0, none⟩) ∧ Ts w g L (F1 f L L) ((bb', n, tp f) :: [(bb, nb, tp f), (ba, n, tp f), (bm, n, tp f), (bl, n, tp f)]) wx)
              case first =>
                as_aux_lemma =>
                  go_wp2_with fail
                  refine (TA.out _ _ M1.out).mono ?_
                  rintro e w7 ⟨pp, bb', rfl, hp, hz, t1⟩
                  have T2 := hidden t1
                  have QP := hidden hp
                  have QZ := hidden hz
                  clear t1 hp hz
                  go_wp2_with fail
                  go_meet
                  exact ⟨pp, bb', rfl, rfl, QP.out, QZ.out, T2.out⟩
              case rest =>
              obtain ⟨pc, bc, rfl, rfl, hpp, hzz, t1⟩ := hcut
              clear M1
              have M1 := hidden t1
              have HPC := hidden hpp
              have HZC := hidden hzz
              clear t1 hpp hzz
              clear hq
              generalize wc = w8 at *
              go_upto_region 30 with fail
              go_wp2_with fail
              go_loopw [19] (fun kv w' => ∃ k : Nat, k ≤ n ∧ kv = .int .i64 k ∧ Hid (Ts w g L (F1 f L L) [(bc, n, tp f), (bb, nb, tp f), (ba, n, tp f), (bm, n, tp f), (bl, n, tp f)] w')) (fun k _ => n - (intOf k).toNat)
              case atStart => exact ⟨0, by omega, rfl, M1⟩
              case round =>
                clear M1
                obtain ⟨k, hk, rfl, hM⟩ := hrel
                by_cases hkn : k < n
                · obtain rfl := HPA.out (by omega)
                  obtain rfl := HPM.out (by omega)
                  obtain rfl := HPC.out (by omega)
                  have k0 : (0 : Int) ≤ (k : Int) := by omega
                  have k1 : (k : Int) < (n : Int) := by omega
                  have d := hM.out.keep (drew_bl4 wr)
                  have IK := hidden (IS.out k)
                  have w9 : IntKind.i64.wrap ((k : Int) + 1) = (k : Int) + 1 := IntWalk.i64_in _ (by have := NN.out; omega)
                  obtain ⟨z, hz⟩ : ∃ z : E4, tp f k = z := ⟨_, rfl⟩
                  rw [hz] at IK
                  have hn0 : 0 < n := by omega
                  have KS : Hid (∀ w', Ts w g L (F1 f L L) [(bc, n, tp f), (bb, nb, tp f), (ba, n, tp f), (bm, n, tp f), (bl, n, tp f)] w' → (fun w' => Ts w g L (F1 f L L) [(bc, n, tp f), (bb, nb, tp f), (ba, n, tp f), (bm, n, tp f), (bl, n, tp f)] w' ∧ w'.cell? ⟨ba, k * 4, none⟩ = some (.int .u64 z.x0) ∧ w'.cell? ⟨ba, k * 4 + 1, none⟩ = some (.int .u64 z.x1) ∧ w'.cell? ⟨ba, k * 4 + 2, none⟩ = some (.int .u64 z.x2) ∧ w'.cell? ⟨ba, k * 4 + 3, none⟩ = some (.int .u64 z.x3) ∧ w'.cell? ⟨bm, k * 4, none⟩ = some (.int .u64 z.x0) ∧ w'.cell? ⟨bm, k * 4 + 1, none⟩ = some (.int .u64 z.x1) ∧ w'.cell? ⟨bm, k * 4 + 2, none⟩ = some (.int .u64 z.x2) ∧ w'.cell? ⟨bm, k * 4 + 3, none⟩ = some (.int .u64 z.x3) ∧ w'.cell? ⟨bc, k * 4, none⟩ = some (.int .u64 z.x0) ∧ w'.cell? ⟨bc, k * 4 + 1, none⟩ = some (.int .u64 z.x1) ∧ w'.cell? ⟨bc, k * 4 + 2, none⟩ = some (.int .u64 z.x2) ∧ w'.cell? ⟨bc, k * 4 + 3, none⟩ = some (.int .u64 z.x3)) w') := hidden (fun w' h => ⟨h, hz ▸ (h.rows (ba, n, tp f) (by simp) hn0).2.c0 k hkn, hz ▸ (h.rows (ba, n, tp f) (by simp) hn0).2.c1 k hkn, hz ▸ (h.rows (ba, n, tp f) (by simp) hn0).2.c2 k hkn, hz ▸ (h.rows (ba, n, tp f) (by simp) hn0).2.c3 k hkn, hz ▸ (h.rows (bm, n, tp f) (by simp) hn0).2.c0 k hkn, hz ▸ (h.rows (bm, n, tp f) (by simp) hn0).2.c1 k hkn, hz ▸ (h.rows (bm, n, tp f) (by simp) hn0).2.c2 k hkn, hz ▸ (h.rows (bm, n, tp f) (by simp) hn0).2.c3 k hkn, hz ▸ (h.rows (bc, n, tp f) (by simp) hn0).2.c0 k hkn, hz ▸ (h.rows (bc, n, tp f) (by simp) hn0).2.c1 k hkn, hz ▸ (h.rows (bc, n, tp f) (by simp) hn0).2.c2 k hkn, hz ▸ (h.rows (bc, n, tp f) (by simp) hn0).2.c3 k hkn⟩)
                  have K0 := hidden (KS.out _ d)
                  clear d hM hz
                  go_upto_region 33 with fail
                  go_cut [193] (fun v wx => v = .bool false ∧ Ts w g L (F1 f L L) [(bc, n, tp f), (bb, nb, tp f), (ba, n, tp f), (bm, n, tp f), (bl, n, tp f)] wx)
                  case first =>
                    as_aux_lemma =>
                      go_region_held3 (fun w' => Ts w g L (F1 f L L) [(bc, n, tp f), (bb, nb, tp f), (ba, n, tp f), (bm, n, tp f), (bl, n, tp f)] w' ∧ w'.cell? ⟨ba, k * 4, none⟩ = some (.int .u64 z.x0) ∧ w'.cell? ⟨ba, k * 4 + 1, none⟩ = some (.int .u64 z.x1) ∧ w'.cell? ⟨ba, k * 4 + 2, none⟩ = some (.int .u64 z.x2) ∧ w'.cell? ⟨ba, k * 4 + 3, none⟩ = some (.int .u64 z.x3) ∧ w'.cell? ⟨bm, k * 4, none⟩ = some (.int .u64 z.x0) ∧ w'.cell? ⟨bm, k * 4 + 1, none⟩ = some (.int .u64 z.x1) ∧ w'.cell? ⟨bm, k * 4 + 2, none⟩ = some (.int .u64 z.x2) ∧ w'.cell? ⟨bm, k * 4 + 3, none⟩ = some (.int .u64 z.x3) ∧ w'.cell? ⟨bc, k * 4, none⟩ = some (.int .u64 z.x0) ∧ w'.cell? ⟨bc, k * 4 + 1, none⟩ = some (.int .u64 z.x1) ∧ w'.cell? ⟨bc, k * 4 + 2, none⟩ = some (.int .u64 z.x2) ∧ w'.cell? ⟨bc, k * 4 + 3, none⟩ = some (.int .u64 z.x3)) (first | with_reducible exact K0.out | with_reducible exact hk.out)
                        (first | (go_at_call 7; with_reducible refine (IK.out _).mono ?_; rintro e wn ⟨rfl, hb⟩; have hk := hidden (KS.out _ ((show Ts w g L (F1 f L L) [(bc, n, tp f), (bb, nb, tp f), (ba, n, tp f), (bm, n, tp f), (bl, n, tp f)] _ from And.left (by assumption)).keep hb))))
                      go_wp2_with fail
                      go_meet
                      exact ⟨rfl, hk.out.1⟩
                  case rest =>
                  obtain ⟨rfl, t2⟩ := hcut
                  have T2 := hidden t2
                  clear t2 K0 KS
                  go_wp2_with fail
                  go_roundw
                  case rel => exact ⟨k + 1, by omega, by go_num, T2⟩
                  case measure => simp [intOf]; omega
                · have hkn : n = k := by omega
                  subst hkn
                  have lq : ¬ (n : Int) < (n : Int) := by omega
                  have M1 := hidden hM.out
                  clear hM hk
                  go_upto_region 35 with fail
                  clear lq
                  generalize wr = w9 at *
                  go_cut [20, 21] (fun v ev wx => ∃ (pp : Option Addr) (bb' cc : Nat), v = .slice pp n cc ∧ ev = .int .i64 er ∧ (0 < n → pp = some ⟨bb', 0, none⟩) ∧ Ts w g L (F1 f L L) ((bb', n, tp (F1 f L L)) :: [(bc, n, tp f), (bb, nb, tp f), (ba, n, tp f), (bm, n, tp f), (bl, n, tp f)]) wx)
                  case first =>
                    as_aux_lemma =>
                      go_wp2_with fail
                      refine (RG.out _ _ _ M1.out).mono ?_
                      rintro e w7 ⟨pp, bb', cc, rfl, hp, t1⟩
                      have T2 := hidden t1
                      have QP := hidden hp
                      clear t1 hp
                      go_wp2_with fail
                      go_meet
                      exact ⟨pp, bb', cc, rfl, rfl, QP.out, T2.out⟩
                  case rest =>
                  obtain ⟨pg, bg, cg, rfl, rfl, hpp, t1⟩ := hcut
                  clear M1
                  have M1 := hidden t1
                  have HPG := hidden hpp
                  clear t1 hpp
                  go_upto_region 36 with fail
                  go_cut [22, 23] (fun v ev wx => ∃ (pp : Option Addr) (bb' : Nat), v = .slice pp n n ∧ ev = .int .i64 er ∧ (0 < n → pp = some ⟨bb', 0, none⟩) ∧ (n = 0 → pp = none ∨ ∃ x, pp = some ⟨x, 0, none⟩) ∧ Ts w g L (F1 f L L) ((bb', n, tp (F1 f L L)) :: (bg, n, tp (F1 f L L)) :: [(bc, n, tp f), (bb, nb, tp f), (ba, n, tp f), (bm, n, tp f), (bl, n, tp f)]) wx)
                  case first =>
                    as_aux_lemma =>
                      go_wp2_with fail
                      refine (TG.out _ _ _ M1.out).mono ?_
                      rintro e w7 ⟨pp, bb', rfl, hp, hz, t1⟩
                      have T2 := hidden t1
                      have QP := hidden hp
                      have QZ := hidden hz
                      clear t1 hp hz
                      go_wp2_with fail
                      go_meet
                      exact ⟨pp, bb', rfl, rfl, QP.out, QZ.out, T2.out⟩
                  case rest =>
                  obtain ⟨po, bo, rfl, rfl, hpp, hzz, t1⟩ := hcut
                  clear M1
                  have M1 := hidden t1
                  have HPO := hidden hpp
                  have HZO := hidden hzz
                  clear t1 hpp hzz
                  have IT := hidden (fun (k : Nat) w => is_any (tp (F1 f L L) k) w)
                  simp only [E4.v] at IT
                  clear a0 a1 a2 a3 a4 a5 TG RG TA TB
                  go_upto_region 39 with fail
                  generalize wc = w10 at *
                  go_wp2_with fail
                  go_loopw [24] (fun kv w' => ∃ k : Nat, k ≤ n ∧ kv = .int .i64 k ∧ Hid (Ts w g L (F1 f L L) [(bo, n, tp (F1 f L L)), (bg, n, tp (F1 f L L)), (bc, n, tp f), (bb, nb, tp f), (ba, n, tp f), (bm, n, tp f), (bl, n, tp f)] w')) (fun k _ => n - (intOf k).toNat)
                  case atStart => exact ⟨0, by omega, rfl, M1⟩
                  case round =>
                    clear M1
                    obtain ⟨k, hk, rfl, hM⟩ := hrel
                    by_cases hkn : k < n
                    · obtain rfl := HPO.out (by omega)
                      obtain rfl := HPG.out (by omega)
                      have k0 : (0 : Int) ≤ (k : Int) := by omega
                      have k1 : (k : Int) < (n : Int) := by omega
                      have d := hM.out.keep (drew_bl4 wr)
                      have IK := hidden (IT.out k)
                      have w9 : IntKind.i64.wrap ((k : Int) + 1) = (k : Int) + 1 := IntWalk.i64_in _ (by have := NN.out; omega)
                      obtain ⟨z, hz⟩ : ∃ z : E4, tp (F1 f L L) k = z := ⟨_, rfl⟩
                      rw [hz] at IK
                      have hn0 : 0 < n := by omega
                      have KS : Hid (∀ w', Ts w g L (F1 f L L) [(bo, n, tp (F1 f L L)), (bg, n, tp (F1 f L L)), (bc, n, tp f), (bb, nb, tp f), (ba, n, tp f), (bm, n, tp f), (bl, n, tp f)] w' → (fun w' => Ts w g L (F1 f L L) [(bo, n, tp (F1 f L L)), (bg, n, tp (F1 f L L)), (bc, n, tp f), (bb, nb, tp f), (ba, n, tp f), (bm, n, tp f), (bl, n, tp f)] w' ∧ w'.cell? ⟨bo, k * 4, none⟩ = some (.int .u64 z.x0) ∧ w'.cell? ⟨bo, k * 4 + 1, none⟩ = some (.int .u64 z.x1) ∧ w'.cell? ⟨bo, k * 4 + 2, none⟩ = some (.int .u64 z.x2) ∧ w'.cell? ⟨bo, k * 4 + 3, none⟩ = some (.int .u64 z.x3) ∧ w'.cell? ⟨bg, k * 4, none⟩ = some (.int .u64 z.x0) ∧ w'.cell? ⟨bg, k * 4 + 1, none⟩ = some (.int .u64 z.x1) ∧ w'.cell? ⟨bg, k * 4 + 2, none⟩ = some (.int .u64 z.x2) ∧ w'.cell? ⟨bg, k * 4 + 3, none⟩ = some (.int .u64 z.x3)) w') := hidden (fun w' h => ⟨h, hz ▸ (h.rows (bo, n, tp (F1 f L L)) (by simp) hn0).2.c0 k hkn, hz ▸ (h.rows (bo, n, tp (F1 f L L)) (by simp) hn0).2.c1 k hkn, hz ▸ (h.rows (bo, n, tp (F1 f L L)) (by simp) hn0).2.c2 k hkn, hz ▸ (h.rows (bo, n, tp (F1 f L L)) (by simp) hn0).2.c3 k hkn, hz ▸ (h.rows (bg, n, tp (F1 f L L)) (by simp) hn0).2.c0 k hkn, hz ▸ (h.rows (bg, n, tp (F1 f L L)) (by simp) hn0).2.c1 k hkn, hz ▸ (h.rows (bg, n, tp (F1 f L L)) (by simp) hn0).2.c2 k hkn, hz ▸ (h.rows (bg, n, tp (F1 f L L)) (by simp) hn0).2.c3 k hkn⟩)
                      have K0 := hidden (KS.out _ d)
                      clear d hM hz
                      go_upto_region 42 with fail
                      go_cut [237] (fun v wx => v = .bool false ∧ Ts w g L (F1 f L L) [(bo, n, tp (F1 f L L)), (bg, n, tp (F1 f L L)), (bc, n, tp f), (bb, nb, tp f), (ba, n, tp f), (bm, n, tp f), (bl, n, tp f)] wx)
                      case first =>
                        as_aux_lemma =>
                          go_region_held3 (fun w' => Ts w g L (F1 f L L) [(bo, n, tp (F1 f L L)), (bg, n, tp (F1 f L L)), (bc, n, tp f), (bb, nb, tp f), (ba, n, tp f), (bm, n, tp f), (bl, n, tp f)] w' ∧ w'.cell? ⟨bo, k * 4, none⟩ = some (.int .u64 z.x0) ∧ w'.cell? ⟨bo, k * 4 + 1, none⟩ = some (.int .u64 z.x1) ∧ w'.cell? ⟨bo, k * 4 + 2, none⟩ = some (.int .u64 z.x2) ∧ w'.cell? ⟨bo, k * 4 + 3, none⟩ = some (.int .u64 z.x3) ∧ w'.cell? ⟨bg, k * 4, none⟩ = some (.int .u64 z.x0) ∧ w'.cell? ⟨bg, k * 4 + 1, none⟩ = some (.int .u64 z.x1) ∧ w'.cell? ⟨bg, k * 4 + 2, none⟩ = some (.int .u64 z.x2) ∧ w'.cell? ⟨bg, k * 4 + 3, none⟩ = some (.int .u64 z.x3)) (first | with_reducible exact K0.out | with_reducible exact hk.out)
                            (first | (go_at_call 7; with_reducible refine (IK.out _).mono ?_; rintro e wn ⟨rfl, hb⟩; have hk := hidden (KS.out _ ((show Ts w g L (F1 f L L) [(bo, n, tp (F1 f L L)), (bg, n, tp (F1 f L L)), (bc, n, tp f), (bb, nb, tp f), (ba, n, tp f), (bm, n, tp f), (bl, n, tp f)] _ from And.left (by assumption)).keep hb))))
                          go_wp2_with fail
                          go_meet
                          exact ⟨rfl, hk.out.1⟩
                      case rest =>
                      obtain ⟨rfl, t2⟩ := hcut
                      have T2 := hidden t2
                      clear t2 K0 KS
                      go_wp2_with fail
                      go_roundw
                      case rel => exact ⟨k + 1, by omega, by go_num, T2⟩
                      case measure => simp [intOf]; omega
                    · have hkn : n = k := by omega
                      subst hkn
                      have lq : ¬ (n : Int) < (n : Int) := by omega
                      have M1 := hidden hM.out
                      clear hM hk
                      have AP := hidden (tapes_apart M1.out NN.out NB.out HPL.out HPA.out HPB.out HPC.out HPO.out HZL.out HZA.out HZB.out HZC.out HZO.out 23)
                      go_upto_region 44 with fail
                      clear lq
                      generalize wr = w11 at *
                      go_wp2_with (first | (go_at_call 8; refine (apart_any _ _ _ _ _ _ _ _ _ AP.out.1 AP.out.2).mono ?_; rintro e w12 ⟨rfl, hb⟩))
                      refine bodyPost_ret (v := .bool true) (by simp [results, Tryd.results3, go_sem]) rfl ⟨rfl, hb⟩
end Go.Proofs.YtcenphihmggfkaaDoor
