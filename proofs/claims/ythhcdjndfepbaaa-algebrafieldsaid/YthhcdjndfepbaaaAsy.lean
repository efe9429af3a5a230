import Derived.Test.YthhcdjndfepbaaaAct
namespace Go.Proofs.Ythhcdjndfepbaaa
open Go.RowKit
def slen : Value → Nat
  | .slice _ n _ => n
  | _ => 0
theorem svl_len (f : Nat → Int) (n : Nat) : (svl f n).length = n := by simp [svl]
theorem svl_put (F : Nat → Int) (q : Nat) (x : Int) : svl (fun k => if k = q then x else F k) (q + 1) = svl F q ++ [.int .i64 x] := by
  rw [svl_succ, if_pos rfl]
  congr 1
  unfold svl
  exact List.map_congr_left fun k hk => by have := List.mem_range.1 hk; simp only [if_neg (show k ≠ q by omega)]
/-- a list of one's own -/
theorem own_list {w : World} {base : Nat} {e : TypeId} {v : Value} {q : Nat} {F : Nat → Int} (how : w.ownsRow base e 1 v q (svl F q)) :
    ∃ (P : Option Addr) (c g : Nat), v = .slice P q c ∧ q ≤ c ∧ (0 < q → P = some ⟨g, 0, none⟩ ∧ base ≤ g) ∧ (P = none → c = 0) ∧ Il w P q F := by
  rcases how.2 with ⟨rfl, h0⟩ | ⟨g, cap, cur, rfl, hg, _, hnc, _, _, _⟩
  · exact ⟨none, 0, 0, by rw [h0], by omega, fun h => by omega, fun _ => rfl, ⟨0, 0, fun h => by omega, fun k hk => by omega⟩⟩
  · refine ⟨_, cap, g, rfl, hnc, fun _ => ⟨rfl, hg⟩, fun h => (by cases h), ⟨g, 0, fun _ => rfl, fun k hk => ?_⟩⟩
    rw [Nat.zero_add, how.cellAt k (by omega)]
    simp [svl, hk]
theorem own_keep7 {w1 w2 : World} {base : Nat} {e : TypeId} {v : Value} {n : Nat} {xs : List Value} (h : w1.ownsRow base e 1 v n xs) (hb : Below w1.heap.size w1 w2) : w2.ownsRow base e 1 v n xs :=
  h.kept (row := none) ⟨hb.os, hb.tape, hb.output, hb.size, fun k hk _ => hb.block k hk⟩ (by cases v.ownBlock <;> simp)
theorem own_mono7 {w : World} {base base' : Nat} {e : TypeId} {v : Value} {n : Nat} {xs : List Value} (h : w.ownsRow base e 1 v n xs) (hb : base' ≤ base) : w.ownsRow base' e 1 v n xs :=
  ⟨h.1, h.2.imp id (fun ⟨g, cap, cur, a, hg, r⟩ => ⟨g, cap, cur, a, Nat.le_trans hb hg, r⟩)⟩
theorem Il.less {w : World} {P : Option Addr} {n m : Nat} {f : Nat → Int} (h : Il w P n f) (hm : m ≤ n) : Il w P m f := by
  obtain ⟨sb, so, h1, h2⟩ := h
  exact ⟨sb, so, fun h => h1 (by omega), fun k hk => h2 k (by omega)⟩
/-- rows out of one list -/
def rsl (g c n i : Nat) : List Value := (List.range i).map fun k => .slice (some ⟨g, k * n, none⟩) n (c - k * n)
theorem rsl_succ (g c n i : Nat) : rsl g c n (i + 1) = rsl g c n i ++ [.slice (some ⟨g, i * n, none⟩) n (c - i * n)] := by simp [rsl, List.range_succ]
theorem rsl_len (g c n i : Nat) : (rsl g c n i).length = i := by simp [rsl]
theorem own_any {w : World} {base : Nat} {e : TypeId} {v : Value} {q : Nat} {xs : List Value} (how : w.ownsRow base e 1 v q xs) : ∃ (P : Option Addr) (c : Nat), v = .slice P q c := by
  rcases how.2 with ⟨rfl, h0⟩ | ⟨g, cap, cur, rfl, hg, _, hnc, _, _, _⟩
  · exact ⟨none, 0, by rw [h0]⟩
  · exact ⟨_, cap, rfl⟩
/-- the rows as they lie -/
theorem rows_mt {w : World} {base : Nat} {e : TypeId} {Pr P : Option Addr} {n cr g c q : Nat} {F : Nat → Int} (how : w.ownsRow base e 1 (.slice Pr n cr) n (rsl g c n n)) (il : Il w P q F) (hP : 0 < q → P = some ⟨g, 0, none⟩) (hq : n * n ≤ q) :
    ∃ B, (0 < n → Pr = some ⟨B, 0, none⟩) ∧ n ≤ cr ∧ Mt w B 0 n (fun _ => g) (fun i => i * n) (fun i => c - i * n) (fun i j => F (i * n + j)) := by
  have hin : ∀ i j, i < n → j < n → i * n + j < n * n := fun i j hi hj => by
    have h1 : (i + 1) * n ≤ n * n := Nat.mul_le_mul_right n hi
    rw [Nat.succ_mul] at h1
    omega
  rcases how.2 with ⟨e0, h0⟩ | ⟨B, cap, cur, e0, hg, _, hnc, _, _, _⟩
  · subst h0
    exact ⟨0, fun h => by omega, by omega, ⟨fun i hi => by omega, fun i j hi => by omega⟩⟩
  · obtain ⟨rfl, _, rfl⟩ := Value.slice.inj e0
    refine ⟨B, fun _ => rfl, hnc, ⟨fun i hi => ?_, fun i j hi hj => ?_⟩⟩
    · rw [Nat.zero_add, how.cellAt i (by omega)]
      simp [rsl, hi]
    · obtain ⟨sb, so, h1, h2⟩ := il
      have hlt := hin i j hi hj
      have e1 := h1 (by omega)
      rw [hP (by omega)] at e1
      obtain ⟨rfl, rfl⟩ : g = sb ∧ 0 = so := by simpa using e1
      have := h2 (i * n + j) (by omega)
      rwa [Nat.zero_add] at this
theorem rowinfo : (Try.prog.info? 24).map (fun i => (i.zero, i.size, i.bytes)) = some (some (.slice none 0 0), 1, 24) := by kernel_rfl
theorem tmod4 (n : Int) : (n.tmod 4 + 4).tmod 4 = n % 4 := by
  rw [Int.tmod_eq_emod_of_nonneg (by have := Int.lt_tmod_of_pos n (show (0 : Int) < 4 by decide); omega)]
  have := Int.tmod_add_mul_tdiv n 4
  omega
set_option maxRecDepth 100000 in
set_option maxHeartbeats 16000000 in
theorem system_any (SC : SolveC) (IC : InnerC) (EC : EvalC) (P1 P2 : Option Addr) (L1 c1 L2 c2 : Nat) (N : Int) (f1 f2 : Nat → Int) (w : World) (h1 : Il w P1 L1 f1) (h2 : Il w P2 L2 f2) :
    Calls Try.prog 3 #[.slice P1 L1 c1, .int .i64 N, .slice P2 L2 c2] w fun e w' => e = .returned (.bool true) ∧ Below w.heap.size w w' := by
  have HSC := hidden SC
  have HIC := hidden IC
  have AL := hidden (fun w => alive_any SC EC w)
  have S1 := hidden (fun w' (hb : Below w.heap.size w w') => sevens_any P1 L1 c1 f1 w' (h1.keep hb))
  have S2 := hidden (fun w' (hb : Below w.heap.size w w') => sevens_any P2 L2 c2 f2 w' (h2.keep hb))
  obtain ⟨i0, hi, hz0, hz1, hz2⟩ := info_parts seveninfo
  have HI := hidden hi
  have HZ0 := hidden hz0
  have HZ1 := hidden hz1
  have HZ2 := hidden hz2
  have HU : Hid (Try.prog.underlying 24 = some (.slice 27)) := hidden (by kernel_rfl)
  clear SC IC EC h1 h2 hi hz0 hz1 hz2
  obtain ⟨i1, hi, hz0, hz1, hz2⟩ := info_parts rowinfo
  have RI := hidden hi
  have RZ0 := hidden hz0
  have RZ1 := hidden hz1
  have RZ2 := hidden hz2
  have RU : Hid (Try.prog.underlying 28 = some (.slice 24)) := hidden (by kernel_rfl)
  clear hi hz0 hz1 hz2
  go_enter Try.func3, Try.ntmps3
  go_upto_region 1 with fail
  go_cut [17] (fun v wx => v = .bool false ∧ Below w.heap.size w wx)
  case first =>
    as_aux_lemma =>
      go_wp2_with fail
      refine (AL.out _).mono ?_
      rintro e w1 ⟨rfl, hb⟩
      have B1 := hidden hb
      clear hb
      go_wp2_with fail
      go_meet
      exact ⟨rfl, B1.out⟩
  case rest =>
  obtain ⟨rfl, hb⟩ := hcut
  have B0 := hidden hb
  clear hb AL
  generalize wc = wa at *
  obtain ⟨n, hn⟩ : ∃ n : Nat, N % 4 = (n : Int) := ⟨(N % 4).toNat, by have := Int.emod_nonneg N (show (4 : Int) ≠ 0 by decide); omega⟩
  have hn3 : n ≤ 3 := by have := Int.emod_lt_of_pos N (show (0 : Int) < 4 by decide); omega
  have m1 := tm_wrap N 4 (by decide) (by decide)
  have m2 : IntKind.i64.wrap (N.tmod 4 + 4) = N.tmod 4 + 4 := IntWalk.i64_in _ (by have := tm_bd N 4 (by decide); omega)
  have m3 : (N.tmod 4 + 4).tmod 4 = (n : Int) := (tmod4 N).trans hn
  have m4 : IntKind.i64.wrap (n : Int) = (n : Int) := IntWalk.i64_in _ (by omega)
  have HN := hidden hn3
  clear hn hn3
  go_upto_region 4 with fail
  clear m1 m2 m3 m4
  go_cut [7] (fun v wx => ∃ (q : Nat) (P : Option Addr) (c : Nat) (F : Nat → Int), q ≤ 40 ∧ v = .slice P q c ∧ wx.ownsRow w.heap.size 27 1 v q (svl F q) ∧ Below w.heap.size w wx)
  case first =>
    as_aux_lemma =>
      go_wp2_with fail
      refine (S1.out _ B0.out).mono ?_
      rintro e w1 ⟨v, rfl, how, hb⟩
      obtain ⟨P, c, g, rfl, -⟩ := own_list how
      have how2 := how
      have HO : Hid (w1.ownsRow w.heap.size 27 1 (.slice P (min L1 40) c) (min L1 40) (svl f1 (min L1 40))) := hidden (own_mono7 how2 B0.out.size)
      have B1 := hidden (bl_trans B0.out hb)
      clear how how2 hb
      go_wp2_with fail
      go_meet
      exact ⟨_, P, c, f1, by omega, rfl, HO.out, B1.out⟩
  case rest =>
  obtain ⟨q, P, c, F, hq, rfl, how, hb⟩ := hcut
  have HO := hidden how
  have BB := hidden hb
  have HQ := hidden hq
  clear how hb hq S1
  generalize wc = wb at *
  obtain ⟨k, hk⟩ : ∃ k, n * n = k := ⟨_, rfl⟩
  have hk9 : k ≤ 9 := by rw [← hk]; exact Nat.mul_le_mul HN.out HN.out
  have nn : IntKind.i64.wrap ((n : Int) * (n : Int)) = (k : Int) := by
    have : (n : Int) * (n : Int) = (k : Int) := by rw [← hk]; simp
    rw [this]; exact IntWalk.i64_in _ (by omega)
  have HK := hidden hk
  have HK9 := hidden hk9
  clear hk hk9
  go_wp2_with fail
  go_loopw [7] (fun v w' => ∃ (q : Nat) (P : Option Addr) (c : Nat) (F : Nat → Int), q ≤ 40 ∧ v = .slice P q c ∧ Hid (w'.ownsRow w.heap.size 27 1 (.slice P q c) q (svl F q)) ∧ Hid (Below w.heap.size w w')) (fun v _ => 9 - slen v)
  case atStart => exact ⟨q, P, c, F, HQ.out, rfl, HO, BB⟩
  case round =>
    clear HO BB HQ
    obtain ⟨q, P, c, F, hq, rfl, how, hbl⟩ := hrel
    have q0 : (0 : Int) ≤ (q : Int) := by omega
    by_cases hqk : q < k
    · have ii1 : (q : Int) < (k : Int) := by omega
      have w3 : IntKind.i64.wrap (3 * (q : Int)) = 3 * (q : Int) := IntWalk.i64_in _ (by omega)
      have k9 := HK9.out
      have hsz := hbl.out.size
      have a1 := hidden (how.out.alloc (.cells #[.int .i64 (3 * (q : Int))] 27))
      have a2 := hidden (cells_new wr [.int .i64 (3 * (q : Int))] 27)
      have a3 : Hid (∀ u ∈ [Value.int .i64 (3 * (q : Int))], u.oneCell' = true) := hidden (by simp [Value.oneCell'])
      have a4 : Hid (q + 1 ≤ maxLen) := hidden (by unfold maxLen; omega)
      have a5 : Hid ((q + 1) * 8 ≤ 140737488355328) := hidden (by omega)
      have a6 : Hid (w.heap.size ≤ (wr.alloc (.cells #[.int .i64 (3 * (q : Int))] 27)).heap.size) := hidden (by simp; omega)
      have b6 := hidden (bl_trans hbl.out (bl_alloc wr (.cells #[.int .i64 (3 * (q : Int))] 27)))
      clear hsz how hbl k9
      go_wp2_with (first | (at_builtin; refine wpList_append_own_at _ rfl _ _ 24 rfl w.heap.size 27 i0 (.agg #[.int .i64 0]) 1 8 HU.out HI.out HZ0.out HZ1.out HZ2.out rfl (by decide) _ _ _ rfl a1.out ⟨wr.heap.size, 0, none⟩ 1 1 [.int .i64 (3 * (q : Int))] rfl rfl a2.out a3.out a4.out a5.out a6.out ?_; intro v' w3 hown hgr hnil hat; have HB := hidden (below_trans b6.out (below_grown hgr a6.out (fun k hk => (a1.out.lt k hk).1))); rw [← svl_put] at hown; obtain ⟨P', c', g', rfl, -⟩ := own_list hown; have HO := hidden hown; clear hown hgr hnil hat))
      go_roundw
      case rel => exact ⟨q + 1, P', c', _, by have := HK9.out; omega, rfl, HO, HB⟩
      case measure => simp only [slen]; have := HK9.out; omega
    · have lq : ¬ (q : Int) < (k : Int) := by omega
      have HQK : Hid (n * n ≤ q) := hidden (by rw [HK.out]; omega)
      have HQ := hidden hq
      clear hq hqk
      go_upto_region 7 with fail
      clear lq nn
      generalize wr = wb2 at *
      obtain ⟨P0, c0, g, e0, hqc, hg, _, il⟩ := own_list how.out
      obtain ⟨rfl, _, rfl⟩ := Value.slice.inj e0
      have HQC := hidden hqc
      have HGG := hidden hg
      have IL := hidden il
      have BW := hidden hbl.out
      clear e0 hqc hg il how hbl
      go_cut [8] (fun v wx => ∃ (q' : Nat) (P' : Option Addr) (c' : Nat) (F' : Nat → Int), q' ≤ 40 ∧ v = .slice P' q' c' ∧ wx.ownsRow wb2.heap.size 27 1 (.slice P' q' c') q' (svl F' q') ∧ Below wb2.heap.size wb2 wx)
      case first =>
        as_aux_lemma =>
          go_wp2_with fail
          refine (S2.out _ BW.out).mono ?_
          rintro e w1 ⟨v, rfl, how, hb⟩
          obtain ⟨P', c', g', rfl, -⟩ := own_list how
          have HO := hidden how
          have B1 := hidden hb
          clear how hb
          go_wp2_with fail
          go_meet
          exact ⟨_, P', c', f2, by omega, rfl, HO.out, B1.out⟩
      case rest =>
      obtain ⟨q1, Q1, d1, F1, hq1, rfl, how, hb⟩ := hcut
      have HO := hidden how
      have BB := hidden hb
      have HQ1 := hidden hq1
      clear how hb hq1 S2
      generalize wc = wb3 at *
      go_wp2_with fail
      go_loopw [8] (fun v w' => ∃ (q : Nat) (P : Option Addr) (c : Nat) (F : Nat → Int), q ≤ 40 ∧ v = .slice P q c ∧ Hid (w'.ownsRow wb2.heap.size 27 1 (.slice P q c) q (svl F q)) ∧ Hid (Below wb2.heap.size wb2 w')) (fun v _ => 3 - slen v)
      case atStart => exact ⟨q1, Q1, d1, F1, HQ1.out, rfl, HO, BB⟩
      case round =>
        clear HO BB HQ1
        obtain ⟨q1, Q1, d1, F1, hq1, rfl, how, hbl⟩ := hrel
        have q0' : (0 : Int) ≤ (q1 : Int) := by omega
        by_cases hqk : q1 < n
        · have ii1 : (q1 : Int) < (n : Int) := by omega
          have hsz := hbl.out.size
          have a1 := hidden (how.out.alloc (.cells #[.int .i64 1] 27))
          have a2 := hidden (cells_new wr [.int .i64 1] 27)
          have a3 : Hid (∀ u ∈ [Value.int .i64 1], u.oneCell' = true) := hidden (by simp [Value.oneCell'])
          have a4 : Hid (q1 + 1 ≤ maxLen) := hidden (by unfold maxLen; omega)
          have a5 : Hid ((q1 + 1) * 8 ≤ 140737488355328) := hidden (by omega)
          have a6 : Hid (wb2.heap.size ≤ (wr.alloc (.cells #[.int .i64 1] 27)).heap.size) := hidden (by simp; omega)
          have b6 := hidden (bl_trans hbl.out (bl_alloc wr (.cells #[.int .i64 1] 27)))
          clear hsz how hbl
          go_wp2_with (first | (at_builtin; refine wpList_append_own_at _ rfl _ _ 24 rfl wb2.heap.size 27 i0 (.agg #[.int .i64 0]) 1 8 HU.out HI.out HZ0.out HZ1.out HZ2.out rfl (by decide) _ _ _ rfl a1.out ⟨wr.heap.size, 0, none⟩ 1 1 [.int .i64 1] rfl rfl a2.out a3.out a4.out a5.out a6.out ?_; intro v' w3 hown hgr hnil hat; have HB := hidden (below_trans b6.out (below_grown hgr a6.out (fun k hk => (a1.out.lt k hk).1))); rw [← svl_put] at hown; obtain ⟨P', c', g', rfl, -⟩ := own_list hown; have HO := hidden hown; clear hown hgr hnil hat))
          go_roundw
          case rel => exact ⟨q1 + 1, P', c', _, by have := HN.out; omega, rfl, HO, HB⟩
          case measure => simp only [slen]; have := HN.out; omega
        · have lq : ¬ (q1 : Int) < (n : Int) := by omega
          obtain ⟨Q0, e0, g1, ee, hqc, _, hnil, il⟩ := own_list how.out
          obtain ⟨rfl, _, rfl⟩ := Value.slice.inj ee
          have IL1 := hidden (il.less (show n ≤ q1 by omega))
          have NC : Hid (n ≤ d1) := hidden (by omega)
          have BB := hidden hbl.out
          have b0 : (0 : Int) ≤ (n : Int) := by omega
          have b1 : (n : Int) ≤ (d1 : Int) := by omega
          have b2 : ((n : Int) - 0).toNat = n := by omega
          have b3 : ((d1 : Int) - 0).toNat = d1 := by omega
          have b4 : (n : Int).toNat = n := by omega
          have b5 : (d1 : Int).toNat = d1 := by omega
          have HNI := hidden hnil
          clear hq1 hqk ee hqc hnil il how hbl
          go_upto_region 10 with fail
          clear lq
          generalize wr = wb4 at *
          go_cut [8] (fun v wx => v = .slice Q1 n d1 ∧ wx = wb4)
          case first =>
            as_aux_lemma =>
              cases Q1 with
              | none =>
                obtain rfl := HNI.out rfl
                obtain rfl : n = 0 := by have := NC.out; omega
                go_wp2_with fail
                go_meet
                exact ⟨rfl, rfl⟩
              | some ad =>
                go_wp2_with fail
                go_meet
                exact ⟨rfl, rfl⟩
          case rest =>
          obtain ⟨rfl, rfl⟩ := hcut
          clear HNI b0 b1 b2 b3 b4 b5
          generalize wc = w5 at *
          go_upto_region 12 with fail
          go_wp2_with fail
          go_loopw [9, 10] (fun rv iv w' => ∃ (i : Nat) (Pr : Option Addr) (cr : Nat), i ≤ n ∧ iv = .int .i64 i ∧ rv = .slice Pr i cr ∧ Hid (w'.ownsRow w5.heap.size 24 1 (.slice Pr i cr) i (rsl g c n i)) ∧ Hid (Below w5.heap.size w5 w')) (fun _ i _ => n - (intOf i).toNat)
          case atStart => exact ⟨0, none, 0, by omega, rfl, rfl, hidden (World.ownsRow_nil _ _ _ _), hidden (Below.refl _ _)⟩
          case round =>
            obtain ⟨i, Pr, cr, hi, rfl, rfl, how, hbl⟩ := hrel
            by_cases hin : i < n
            · have hn3 := HN.out
              have hqk := HQK.out
              have hqc := HQC.out
              obtain ⟨t, ht⟩ : ∃ t, i * n = t := ⟨_, rfl⟩
              have h1 : (i + 1) * n ≤ n * n := Nat.mul_le_mul_right n hin
              rw [Nat.succ_mul, ht] at h1
              have hnn : n * n ≤ 9 := Nat.mul_le_mul hn3 hn3
              obtain ⟨hP, _⟩ := HGG.out (by omega)
              subst hP
              obtain ⟨ss, hss⟩ : ∃ s, t + n = s := ⟨_, rfl⟩
              have z1 : (i : Int) * (n : Int) = (t : Int) := by rw [← ht]; simp
              have u1 : IntKind.i64.wrap ((i : Int) * (n : Int)) = (t : Int) := by rw [z1]; exact IntWalk.i64_in _ (by omega)
              have u2 : IntKind.i64.wrap ((t : Int) + (n : Int)) = (ss : Int) := by rw [show (t : Int) + (n : Int) = (ss : Int) by omega]; exact IntWalk.i64_in _ (by omega)
              have s0 : (0 : Int) ≤ (t : Int) := by omega
              have s1 : (t : Int) ≤ (ss : Int) := by omega
              have s2 : (ss : Int) ≤ (c : Int) := by omega
              have s3 : (t : Int).toNat = t := by omega
              have s4 : (ss : Int).toNat = ss := by omega
              have s5 : ((ss : Int) - (t : Int)).toNat = n := by omega
              have s6 : ((c : Int) - (t : Int)).toNat = c - t := by omega
              have s7 : ss - t = n := by omega
              have i1' : (i : Int) < (n : Int) := by omega
              have w9 : IntKind.i64.wrap ((i : Int) + 1) = (i : Int) + 1 := IntWalk.i64_in _ (by omega)
              have RS := hidden (rsl_succ g c n i)
              rw [ht] at RS
              have hsz := hbl.out.size
              have a1 := hidden (how.out.alloc (.cells #[.slice (some ⟨g, t, none⟩) n (c - t)] 24))
              have a2 := hidden (cells_new wr [.slice (some ⟨g, t, none⟩) n (c - t)] 24)
              have a3 : Hid (∀ u ∈ [Value.slice (some ⟨g, t, none⟩) n (c - t)], u.oneCell' = true) := hidden (by simp [Value.oneCell'])
              have a4 : Hid (i + 1 ≤ maxLen) := hidden (by unfold maxLen; omega)
              have a5 : Hid ((i + 1) * 24 ≤ 140737488355328) := hidden (by omega)
              have a6 : Hid (w5.heap.size ≤ (wr.alloc (.cells #[.slice (some ⟨g, t, none⟩) n (c - t)] 24)).heap.size) := hidden (by simp; omega)
              have b6 := hidden (bl_trans hbl.out (bl_alloc wr (.cells #[.slice (some ⟨g, t, none⟩) n (c - t)] 24)))
              clear hsz how hbl hn3 hqk hqc h1 hnn hss z1 ht
              go_wp2_with (first | (at_builtin; refine wpList_append_own_at _ rfl _ _ 28 rfl w5.heap.size 24 i1 (.slice none 0 0) 1 24 RU.out RI.out RZ0.out RZ1.out RZ2.out rfl (by decide) _ _ _ rfl a1.out ⟨wr.heap.size, 0, none⟩ 1 1 [.slice (some ⟨g, t, none⟩) n (c - t)] rfl rfl a2.out a3.out a4.out a5.out a6.out ?_; intro v' w3 hown hgr hnil hat; have HB := hidden (below_trans b6.out (below_grown hgr a6.out (fun k hk => (a1.out.lt k hk).1))); obtain ⟨P', c', rfl⟩ := own_any hown; have HO := hidden hown; clear hown hgr hnil hat))
              go_roundw
              case rel => exact ⟨i + 1, P', c', by omega, by go_num, rfl, hidden (by rw [RS.out]; exact HO.out), HB⟩
              case measure => simp [intOf]; omega
            · have hii : n = i := by omega
              subst hii
              have lq : ¬ (n : Int) < (n : Int) := by omega
              have b7 := bl_trans BB.out hbl.out
              obtain ⟨B, hB, hcr, mt⟩ := rows_mt how.out (IL.out.keep b7) (fun h => (HGG.out h).1) HQK.out
              have MT := hidden mt
              have HBB := hidden hB
              have B7 := hidden (bl_trans BW.out b7)
              have IR := hidden (IL1.out.keep hbl.out)
              have SV := hidden (HSC.out B 0 n cr (fun _ => g) (fun i => i * n) (fun i => c - i * n) (fun i j => F (i * n + j)) Pr Q1 d1 F1 wr HN.out hcr NC.out hB mt (fun i hi => by
                have h1 : (i + 1) * n ≤ n * n := Nat.mul_le_mul_right n hi
                rw [Nat.succ_mul] at h1
                have := HQK.out
                have := HQC.out
                omega) (IL1.out.keep hbl.out))
              have HCR := hidden hcr
              clear b7 hB hcr mt how hbl hi
              go_upto_region 16 with fail
              clear lq
              generalize wr = w6 at *
              generalize hA : (fun i j => F (i * n + j)) = A at *
              go_cut [11, 12] (fun v ev wx => ∃ er : Int, ev = .int .i64 er ∧ SolA w6 wx n A F1 v er)
              case first =>
                as_aux_lemma =>
                  go_wp2_with fail
                  refine SV.out.mono ?_
                  rintro e w7 ⟨v, er, rfl, hs⟩
                  have HS := hidden hs
                  clear hs
                  go_wp2_with fail
                  go_meet
                  exact ⟨er, rfl, HS.out⟩
              case rest =>
              obtain ⟨er, rfl, hs⟩ := hcut
              have B8 := hidden hs.bel
              have HG := hidden (fun w' (hb : Below w6.heap.size w6 w') => hangs_any B 0 n cr (fun _ => g) (fun i => i * n) (fun i => c - i * n) A Pr w' HN.out HBB.out (MT.out.keep hb))
              clear SV hA
              rcases hs.res with ⟨rfl, hdet, Px, cx, xs, hxc, rfl, hil, hsol⟩ | ⟨rfl, hdet, Px, cx, rfl⟩
              · rw [hg_free (fun h => hdet (Mx.det_dep pm7 h))] at HG
                have HIL := hidden hil
                have HSOL := hidden hsol
                have HXC := hidden hxc
                clear hs hdet hil hsol hxc
                generalize wc = w8 at *
                go_upto_region 20 with fail
                go_wp2_with fail
                go_loopw [13] (fun iv w' => ∃ i : Nat, i ≤ n ∧ iv = .int .i64 i ∧ Hid (Below w8.heap.size w8 w')) (fun i _ => n - (intOf i).toNat)
                case atStart => exact ⟨0, by omega, rfl, hidden (Below.refl _ _)⟩
                case round =>
                  obtain ⟨i, hi, rfl, hbl⟩ := hrel
                  by_cases hin : i < n
                  · obtain rfl := HBB.out (by omega)
                    have i0' : (0 : Int) ≤ (i : Int) := by omega
                    have i1' : (i : Int) < (n : Int) := by omega
                    have w9 : IntKind.i64.wrap ((i : Int) + 1) = (i : Int) + 1 := IntWalk.i64_in _ (by have := HN.out; omega)
                    have b9 := bl_trans B8.out hbl.out
                    have mt := MT.out.keep b9
                    have c1' := mt.row i hin
                    rw [Nat.zero_add] at c1'
                    have hcl : n ≤ c - i * n := by
                      have h1 : (i + 1) * n ≤ n * n := Nat.mul_le_mul_right n hin
                      rw [Nat.succ_mul] at h1
                      have := HQK.out
                      have := HQC.out
                      omega
                    have hxc : n ≤ cx := HXC.out
                    have IN := hidden (HIC.out (some ⟨g, i * n, none⟩) Px n (c - i * n) cx (fun j => A i j) xs wr (by have := HN.out; omega) hcl hxc ⟨g, i * n, fun _ => rfl, fun k hk => mt.el i k hin hk⟩ (HIL.out.keep hbl.out))
                    obtain ⟨sb, so, hq1, hr1⟩ := IR.out
                    obtain rfl := hq1 (by omega)
                    have hs1 := HSOL.out i hin
                    have cr1 := cell_keep (hr1 i hin) b9
                    have HS1 := hidden hs1
                    have CR1 := hidden cr1
                    have B9 := hidden b9
                    clear hs1 cr1 b9 mt hcl hxc hq1 hr1
                    go_upto_region 23 with fail
                    go_cut [14, 15] (fun pw ev wx => ∃ (bv : Nat) (k : Int), pw = .pointer (some ⟨bv, 0, none⟩) ∧ ev = .int .i64 0 ∧ wx.cell? ⟨bv, 0, none⟩ = some (.int .i64 k) ∧ wx.cell? ⟨sb, so + i, none⟩ = some (.int .i64 (F1 i)) ∧ k % 7 = F1 i % 7 ∧ Below w8.heap.size w8 wx)
                    case first =>
                      as_aux_lemma =>
                        go_wp2_with fail
                        refine IN.out.mono ?_
                        rintro e wi ⟨k, rfl, hk, hbi⟩
                        unfold sv
                        have K1 := hidden ((hk.trans HS1.out).mod)
                        have K2 := hidden (bl_trans (bl_trans hbl.out hbi) (bl_alloc wi (.cells #[.int .i64 k] 27)))
                        have K3 := hidden (cell_keep (cell_keep CR1.out hbi) (bl_alloc wi (.cells #[.int .i64 k] 27)))
                        have K4 : Hid ((wi.alloc (.cells #[.int .i64 k] 27)).cell? ⟨wi.heap.size, 0, none⟩ = some (.int .i64 k)) := hidden (by go_simp)
                        clear hk hbi
                        go_wp2_with fail
                        go_meet
                        exact ⟨_, k, rfl, rfl, K4.out, K3.out, K1.out, K2.out⟩
                    case rest =>
                    obtain ⟨bv, k, rfl, rfl, k1, k2, k3, k4⟩ := hcut
                    obtain ⟨y, hy⟩ : ∃ y, F1 i % 7 = y := ⟨_, rfl⟩
                    have RV : Hid (∀ w, Calls Try.prog 10 #[sv k] w fun e w' => e = .returned (.int .i64 y) ∧ Below w.heap.size w w') := hidden (fun w => by rw [← hy, ← k3]; exact r_any k w)
                    have RR : Hid (∀ w, Calls Try.prog 10 #[sv (F1 i)] w fun e w' => e = .returned (.int .i64 y) ∧ Below w.heap.size w w') := hidden (fun w => by rw [← hy]; exact r_any (F1 i) w)
                    unfold sv at RV RR
                    generalize F1 i = z at *
                    have KS : Hid (∀ w', Below wc.drew.heap.size wc.drew w' → (fun w' => Below wc.drew.heap.size wc.drew w' ∧ w'.cell? ⟨bv, 0, none⟩ = some (.int .i64 k) ∧ w'.cell? ⟨sb, so + i, none⟩ = some (.int .i64 z)) w') := hidden (fun w' h => ⟨h, cell_keep (cell_keep k1 (bl_drew _)) h, cell_keep (cell_keep k2 (bl_drew _)) h⟩)
                    have K0 := hidden (KS.out _ (Below.refl _ _))
                    have BW8 := hidden (bl_trans k4 (bl_drew wc))
                    clear k1 k2 k3 k4 hy hbl IN CR1 HS1 B9
                    go_upto_region 24 with fail
                    go_cut [105] (fun v wx => v = .bool false ∧ Below w8.heap.size w8 wx)
                    case first =>
                      as_aux_lemma =>
                        go_region_held3 (fun w' => Below wc.drew.heap.size wc.drew w' ∧ w'.cell? ⟨bv, 0, none⟩ = some (.int .i64 k) ∧ w'.cell? ⟨sb, so + i, none⟩ = some (.int .i64 z)) (first | with_reducible exact K0.out | with_reducible exact hk.out)
                          (first | (go_at_call 10; with_reducible refine (RV.out _).mono ?_; rintro e wn ⟨rfl, hb⟩; have hk := hidden (KS.out _ (bl_trans (show Below wc.drew.heap.size wc.drew _ from And.left (by assumption)) hb))) | (go_at_call 10; with_reducible refine (RR.out _).mono ?_; rintro e wn ⟨rfl, hb⟩; have hk := hidden (KS.out _ (bl_trans (show Below wc.drew.heap.size wc.drew _ from And.left (by assumption)) hb))))
                        go_wp2_with fail
                        go_meet
                        exact ⟨rfl, bl_trans BW8.out hk.out.1⟩
                    case rest =>
                    obtain ⟨rfl, hb3⟩ := hcut
                    have B3 := hidden hb3
                    clear hb3 K0 KS RV RR BW8
                    go_wp2_with fail
                    go_roundw
                    case rel => exact ⟨i + 1, by omega, by go_num, B3⟩
                    case measure => simp [intOf]; omega
                  · have hii : n = i := by omega
                    subst hii
                    have lq : ¬ (n : Int) < (n : Int) := by omega
                    have H9 := hidden (HG.out _ (bl_trans B8.out hbl.out))
                    have B9 := hidden (bl_trans (bl_trans B7.out B8.out) hbl.out)
                    clear hbl hi
                    go_wp2_with fail
                    refine H9.out.mono ?_
                    rintro e w9 ⟨rfl, hb9⟩
                    have B10 := hidden (bl_trans B9.out hb9)
                    clear hb9
                    go_wp2_with fail
                    refine bodyPost_ret (v := .bool true) (by simp [results, Try.results3, go_sem]) rfl ⟨rfl, B10.out⟩
              · rw [hg_dep (Mx.dep_det pm7 n A hdet)] at HG
                clear hs hdet
                generalize wc = w8 at *
                go_wp2_with fail
                refine (HG.out _ B8.out).mono ?_
                rintro e w9 ⟨rfl, hb9⟩
                have B9 := hidden (bl_trans (bl_trans B7.out B8.out) hb9)
                clear hb9
                go_wp2_with fail
                refine bodyPost_ret (v := .bool true) (by simp [results, Try.results3, go_sem]) rfl ⟨rfl, B9.out⟩
end Go.Proofs.Ythhcdjndfepbaaa
