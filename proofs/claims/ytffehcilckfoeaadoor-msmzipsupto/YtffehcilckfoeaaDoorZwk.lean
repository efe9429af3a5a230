import Derived.Test.YtffehcilckfoeaaDoorZbr
import Derived.Test.YtffehcilckfoeaaDoorZun
import Derived.Test.YtffehcilckfoeaaDoorZip
namespace Go.Proofs.YtffehcilckfoeaaDoor
open Go.RowKit
theorem own_lm {w : World} {base n : Nat} {e : TypeId} {v : Value} {g : Nat → E4} (h : w.ownsRow base e 4 v n (svs n g)) : ∃ (P : Option Addr) (c : Nat), v = .slice P n c ∧ Lm w P n g := by
  rcases rl_own h with ⟨h1, h2⟩ | ⟨gg, cap, h1, _, _, h4⟩
  · subst h2
    exact ⟨none, 0, h1, 0, 0, fun h => absurd h (by omega), fun h => absurd h (by omega)⟩
  · exact ⟨_, cap, h1, gg, 0, fun _ => rfl, fun _ => h4⟩
theorem rl_lm {w : World} {b L : Nat} {f : Nat → E4} (h : Rl w b 0 (L + 1) (g7 f L)) : Lm w (some ⟨b, 0, none⟩) L f := by
  have e : ∀ k, k < L → g7 f L k = f k := fun k hk => if_pos hk
  refine ⟨b, 0, fun _ => rfl, fun _ => ⟨fun k hk => ?_, fun k hk => ?_, fun k hk => ?_, fun k hk => ?_⟩⟩
  · rw [← e k hk]; exact h.c0 k (by omega)
  · rw [← e k hk]; exact h.c1 k (by omega)
  · rw [← e k hk]; exact h.c2 k (by omega)
  · rw [← e k hk]; exact h.c3 k (by omega)
theorem Rl.farT {w : World} {b o n d p : Nat} {g : Nat → E4} {x y : E4} (h : Rl w b o n g) (hn : d ≠ b) : Rl (setT w d p x y) b o n g :=
  ⟨fun k hk => by rw [setT_far _ _ _ _ _ hn]; exact h.c0 k hk, fun k hk => by rw [setT_far _ _ _ _ _ hn]; exact h.c1 k hk, fun k hk => by rw [setT_far _ _ _ _ _ hn]; exact h.c2 k hk, fun k hk => by rw [setT_far _ _ _ _ _ hn]; exact h.c3 k hk⟩
/-- what must stand till the end: the copy, the second list -/
structure Zs (w0 w : World) (b u L : Nat) (f h : Nat → E4) : Prop where
  bel : Below w0.heap.size w0 w
  own : Rl w b 0 (L + 1) (g7 f L)
  us : Rt w u L f h
theorem Zs.keep {w0 w w' : World} {b u L : Nat} {f h : Nat → E4} (z : Zs w0 w b u L f h) (hb : Below w.heap.size w w') : Zs w0 w' b u L f h := ⟨bl_trans z.bel hb, z.own.keep hb, z.us.keep hb⟩
theorem Zs.put {w0 w : World} {b u t o L : Nat} {f h : Nat → E4} {x y : E4} (z : Zs w0 w b u L f h) (h0 : w0.heap.size ≤ t) (h1 : t ≠ b) (h2 : t ≠ u) : Zs w0 (setT w t o x y) b u L f h := ⟨setT_bel z.bel h0, z.own.farT h1, z.us.far h2⟩
theorem leastZ (z : E4) (w : World) (hT : Tb w) (hz : z.ok) : Calls Tryd.prog 9 #[.agg #[.int .u64 z.x0, .int .u64 z.x1, .int .u64 z.x2, .int .u64 z.x3]] w fun e w' => e = .returned (.agg #[.int .u64 (lst z.n).x0, .int .u64 (lst z.n).x1, .int .u64 (lst z.n).x2, .int .u64 (lst z.n).x3]) ∧ Below w.heap.size w w' :=
  (Least_any z w hT hz).mono (fun e w' ⟨r, h1, h2, h3⟩ => ⟨by rw [h1, h2]; rfl, h3⟩)
theorem moreT_made {w : World} {t L : Nat} {f h : Nat → E4} (r : Rt w t L f h) (base : Nat) (ty : TypeId) : ∃ xs, MoreT w base ty (.slice (some ⟨t, 0, none⟩) L L) L xs := by
  refine ⟨(List.range (L * 8)).map (fun k => tn (f (k / 8)) (h (k / 8)) (k % 8)), Or.inr ⟨t, rfl, by simp, fun j u hu => ?_⟩⟩
  rw [addr_add]
  obtain ⟨hj, hv⟩ := List.getElem?_eq_some_iff.1 hu
  simp only [List.length_map, List.length_range] at hj
  simp only [List.getElem_map, List.getElem_range] at hv
  rw [← hv]
  have := r.c (j / 8) (by omega) (j % 8) (by omega)
  rwa [show j / 8 * 8 + j % 8 = j by omega] at this
set_option maxRecDepth 100000 in
set_option maxHeartbeats 64000000 in
theorem zips_any (P0 P1 : Option Addr) (L0 c0 L1 c1 : Nat) (f h : Nat → E4) (n : Int) (w : World) (hn : -9223372036854775808 ≤ n ∧ n ≤ 9223372036854775807) (hT : Tb w) (hL0 : L0 ≤ 1048576) (hL1 : L1 ≤ 1048576)
    (hN0 : P0 = none → L0 = 0 ∧ c0 = 0) (hF0 : Lm w P0 L0 f) (hF1 : Lm w P1 L1 h) (ok0 : ∀ k, k < L0 → (f k).ok) (ok1 : ∀ k, k < L1 → (h k).ok) :
    Calls Tryd.prog 3 #[.slice P0 L0 c0, .slice P1 L1 c1, .int .i64 n] w fun e w' => e = .returned (.bool true) ∧ Below w.heap.size w w' := by
  have HT := hidden hT
  have HL0 := hidden hL0
  have HL1 := hidden hL1
  have HN := hidden hn
  have HF0 := hidden hF0
  have HF1 := hidden hF1
  have OK0 := hidden ok0
  have OK1 := hidden ok1
  have BO := hidden Bound_any
  have RB := hidden rBound_any
  have CP : Hid (∀ w', Below w.heap.size w w' → Calls Tryd.prog 6 #[.slice P0 L0 c0] w' fun e w'' => ∃ b c : Nat, e = .returned (.slice (some ⟨b, 0, none⟩) L0 c) ∧ L0 + 1 ≤ c ∧ w'.heap.size ≤ b ∧ Rl w'' b 0 (L0 + 1) (g7 f L0) ∧ Below w'.heap.size w' w'') := hidden (fun w' hb => copied_any P0 L0 c0 f w' hL0 hN0 (hF0.keep hb))
  have l00 : (0 : Int) ≤ (L0 : Int) := by omega
  have l10 : (0 : Int) ≤ (L1 : Int) := by omega
  have e8 : bdW 8193 = 0 := if_pos (Or.inr (by decide))
  clear hT hL0 hL1 hn hN0 hF0 hF1 ok0 ok1
  go_enter Tryd.func3, Tryd.ntmps3
  go_wp2_with fail
  go_loopw [7] (fun iv w' => ∃ i : Nat, i ≤ 41 ∧ iv = .int .i64 ((i : Int) - 1) ∧ Hid (Below w.heap.size w w')) (fun i _ => (40 - intOf i).toNat)
  case atStart => exact ⟨0, by omega, rfl, hidden (Below.refl _ _)⟩
  case round =>
    obtain ⟨i, hi, rfl, hB⟩ := hrel
    by_cases hin : i < 41
    · obtain ⟨v, hv⟩ : ∃ v : Int, (i : Int) - 1 = v := ⟨_, rfl⟩
      rw [hv]
      have v1 : v < 40 := by omega
      have w9 : IntKind.i64.wrap (v + 1) = v + 1 := IntWalk.i64_in _ (by omega)
      have HV : Hid (-9223372036854775808 ≤ v ∧ v ≤ 9223372036854775807) := hidden (by omega)
      go_wp2_with (first | (go_at_call 4; refine (BO.out _ HV.out _).mono ?_; rintro e wa ⟨rfl, ha⟩; replace hB := hidden (bl_trans hB.out ha); clear ha) | (go_at_call 5; refine (RB.out _ HV.out _).mono ?_; rintro e wa ⟨rfl, ha⟩; replace hB := hidden (bl_trans hB.out ha); clear ha))
      go_roundw
      case rel => exact ⟨i + 1, by omega, congrArg (Value.int .i64) (by omega), hB⟩
      case measure => simp [intOf]; omega
    · obtain rfl : i = 41 := by omega
      clear hin hi
      have HM : Hid (-9223372036854775808 ≤ (8192 : Int) ∧ (8192 : Int) ≤ 9223372036854775807) := hidden (by omega)
      have HK : Hid (-9223372036854775808 ≤ (8193 : Int) ∧ (8193 : Int) ≤ 9223372036854775807) := hidden (by omega)
      go_wp2_with (first | (go_at_call 4; refine (BO.out _ (by first | exact HN.out | exact HM.out | exact HK.out) _).mono ?_; rintro e wa ⟨rfl, ha⟩; replace hB := hidden (bl_trans hB.out ha); clear ha) | (go_at_call 5; refine (RB.out _ (by first | exact HN.out | exact HM.out) _).mono ?_; rintro e wa ⟨rfl, ha⟩; replace hB := hidden (bl_trans hB.out ha); clear ha))
      generalize wa = w1 at *
      clear BO RB HM HK e8
      obtain ⟨i0, hi, hz0, hz1, hz2⟩ := info_parts linfoZ
      have HI := hidden hi
      have HZ0 := hidden hz0
      have HZ1 := hidden hz1
      have HZ2 := hidden hz2
      have HU : Hid (Tryd.prog.underlying 24 = some (.slice 29)) := hidden (by kernel_rfl)
      clear hi hz0 hz1 hz2
      go_loopw [8, 9] (fun ov iv w' => ∃ i : Nat, i ≤ L1 ∧ iv = .int .i64 i ∧ Hid (w'.ownsRow w.heap.size 29 4 ov i (svs i h)) ∧ Hid (Below w.heap.size w w')) (fun _ i _ => L1 - (intOf i).toNat)
      case atStart => exact ⟨0, by omega, rfl, hidden (World.ownsRow_nil _ _ _ _), hB⟩
      case round =>
        clear hB
        obtain ⟨i, hi, rfl, how, hbl⟩ := hrel
        by_cases hin : i < L1
        · obtain ⟨sb, so, h1, h2⟩ := HF1.out
          obtain rfl := h1 (by omega)
          have rx := (h2 (by omega)).keep hbl.out
          have ii0 : (0 : Int) ≤ (i : Int) := by omega
          have ii1 : (i : Int) < (L1 : Int) := by omega
          have w9 : IntKind.i64.wrap ((i : Int) + 1) = (i : Int) + 1 := IntWalk.i64_in _ (by have := HL1.out; omega)
          have x0 := rx.c0 i hin
          have x1 := rx.c1 i hin
          have x2 := rx.c2 i hin
          have x3 := rx.c3 i hin
          obtain ⟨z, hz⟩ : ∃ z, h i = z := ⟨_, rfl⟩
          rw [hz] at x0 x1 x2 x3
          have HZ := hidden hz
          have hsz := hbl.out.size
          have a1 := hidden (how.out.alloc (.cells #[.int .u64 z.x0, .int .u64 z.x1, .int .u64 z.x2, .int .u64 z.x3] 29))
          have a2 := hidden (cells_new wr [.int .u64 z.x0, .int .u64 z.x1, .int .u64 z.x2, .int .u64 z.x3] 29)
          have a3 : Hid (∀ u ∈ [Value.int .u64 z.x0, .int .u64 z.x1, .int .u64 z.x2, .int .u64 z.x3], u.oneCell' = true) := hidden (by simp [Value.oneCell'])
          have a4 : Hid (i + 1 ≤ maxLen) := hidden (by have := HL1.out; unfold maxLen; omega)
          have a5 : Hid ((i + 1) * 32 ≤ 140737488355328) := hidden (by have := HL1.out; omega)
          have a6 : Hid (w.heap.size ≤ (wr.alloc (.cells #[.int .u64 z.x0, .int .u64 z.x1, .int .u64 z.x2, .int .u64 z.x3] 29)).heap.size) := hidden (by simp; omega)
          have b6 := hidden (bl_trans hbl.out (bl_alloc wr (.cells #[.int .u64 z.x0, .int .u64 z.x1, .int .u64 z.x2, .int .u64 z.x3] 29)))
          clear rx hz h1 h2 hsz how hbl
          go_wp2_with (first | (at_builtin; refine wpList_append_own_at _ rfl _ _ 24 rfl w.heap.size 29 i0 (.agg #[.int .u64 0, .int .u64 0, .int .u64 0, .int .u64 0]) 4 32 HU.out HI.out HZ0.out HZ1.out HZ2.out rfl (by decide) _ i (svs i h) rfl a1.out ⟨wr.heap.size, 0, none⟩ 1 1 [.int .u64 z.x0, .int .u64 z.x1, .int .u64 z.x2, .int .u64 z.x3] rfl rfl a2.out a3.out a4.out a5.out a6.out ?_; intro v' w3 hown hgr hnil hat; have HO := hidden hown; have HB := hidden (below_trans b6.out (below_grown hgr a6.out (fun k hk => (a1.out.lt k hk).1))); clear hown hgr hnil hat))
          go_roundw
          case rel => exact ⟨i + 1, by omega, by go_num, hidden (by rw [svs_succ, HZ.out]; exact HO.out), HB⟩
          case measure => simp [intOf]; omega
        · obtain rfl : i = L1 := by omega
          clear hin hi HI HZ0 HZ1 HZ2 HU
          have lq : ¬ (i : Int) < (i : Int) := by omega
          obtain ⟨PL, cL, rfl, hlm⟩ := own_lm how.out
          have LM := hidden hlm
          clear how hlm
          go_upto_region 14 with (first | (go_at_call 6; refine (CP.out _ hbl.out).mono ?_; rintro e wa ⟨b, cb, rfl, hcb, hbs, hr, ha⟩; have B2 := hidden (bl_trans hbl.out ha); have RO := hidden hr; replace LM := hidden (LM.out.keep ha); have hb0 := Nat.le_trans hbl.out.size hbs; clear ha hr hbs))
          generalize wa = w2 at *
          clear CP hbl
          by_cases hLL : L0 = i
          · subst hLL
            generalize L0 = L at *
            clear HL1
            have ZP : Hid (∀ w', Below w2.heap.size w2 w' → Calls Tryd.prog 7 #[.slice (some ⟨b, 0, none⟩) L cb, .slice PL L cL] w' fun e w'' => ∃ t : Nat, e = .returned (.tuple #[.slice (some ⟨t, 0, none⟩) L L, .int .i64 0]) ∧ w'.heap.size ≤ t ∧ Rt w'' t L f h ∧ Below w'.heap.size w' w'') := hidden (fun w' hb => zip_any _ _ L cb cL f h w' HL0.out (rl_lm (RO.out.keep hb)) (LM.out.keep hb))
            go_upto_region 15 with (first | (go_at_call 7; refine (ZP.out _ (Below.refl _ _)).mono ?_; rintro e wa ⟨t, rfl, ht, hrt, ha⟩; have B3 := hidden ha; have RT := hidden hrt; clear ha hrt))
            generalize wa = w3 at *
            go_upto_region 16 with (first | (go_at_call 7; refine (ZP.out _ B3.out).mono ?_; rintro e wa ⟨u, rfl, hu, hru, ha⟩; have B4 := hidden ha; have RU := hidden hru; clear ha hru))
            generalize wa = w4 at *
            have htu : t ≠ u := by have := RT.out.lt; omega
            have htb : t ≠ b ∧ w.heap.size ≤ t := by
              have h8 := B2.out.size
              have h9 : b < w2.heap.size := World.block_lt_of_cell? _ ⟨b, 0 + L * 4, none⟩ (RO.out.c0 L (by omega))
              omega
            have ZS : Hid (Zs w w4 b u L f h) := hidden ⟨bl_trans (bl_trans B2.out B3.out) B4.out, (RO.out.keep B3.out).keep B4.out, RU.out⟩
            replace RT := hidden (RT.out.keep B4.out)
            have UN : Hid (∀ w', Below w4.heap.size w4 w' → Calls Tryd.prog 8 #[.slice (some ⟨b, 0, none⟩) L cb, .slice P0 L c0] w' fun e w'' => e = .returned (.bool true) ∧ Below w'.heap.size w' w'') := hidden (fun w' hb => untouched_any b cb P0 L c0 f w' HL0.out hcb (ZS.out.keep hb).own (HF0.out.keep (bl_trans ZS.out.bel hb)))
            clear ZP B2 B3 B4 RO LM RU
            go_wp2_with (first | (go_at_call 8; refine (UN.out _ (Below.refl _ _)).mono ?_; rintro e wa ⟨rfl, ha⟩; have B5 := hidden ha; clear ha))
            generalize wa = w5 at *
            replace ZS := hidden (ZS.out.keep B5.out)
            replace RT := hidden (RT.out.keep B5.out)
            clear UN B5
            go_loopw [15] (fun kv w' => ∃ k : Nat, k ≤ L ∧ kv = .int .i64 (k : Int) ∧ Hid (Below w5.heap.size w5 w')) (fun k _ => L - (intOf k).toNat)
            case atStart => exact ⟨0, by omega, rfl, hidden (Below.refl _ _)⟩
            case round =>
              obtain ⟨k, hk, rfl, hB⟩ := hrel
              by_cases hkn : k < L
              · have k0 : (0 : Int) ≤ (k : Int) := by omega
                have k1 : (k : Int) < (L : Int) := by omega
                have w9 : IntKind.i64.wrap ((k : Int) + 1) = (k : Int) + 1 := IntWalk.i64_in _ (by have := HL0.out; omega)
                obtain ⟨sb, so, h1, h2⟩ := HF0.out
                obtain rfl := h1 (by omega)
                obtain ⟨tb, tq, h3, h4⟩ := HF1.out
                obtain rfl := h3 (by omega)
                have r1 := h2 (by omega)
                have r2 := h4 (by omega)
                have aok := OK0.out k hkn
                have cok := OK1.out k hkn
                obtain ⟨a, ha⟩ : ∃ a, f k = a := ⟨_, rfl⟩
                obtain ⟨c, hc⟩ : ∃ c, h k = c := ⟨_, rfl⟩
                have KSt : Hid (∀ w', Below w5.heap.size w5 w' → (fun w' => Below w5.heap.size w5 w' ∧ w'.cell? ⟨t, k * 8, none⟩ = some (.int .u64 a.x0) ∧ w'.cell? ⟨t, k * 8 + 1, none⟩ = some (.int .u64 a.x1) ∧ w'.cell? ⟨t, k * 8 + 2, none⟩ = some (.int .u64 a.x2) ∧ w'.cell? ⟨t, k * 8 + 3, none⟩ = some (.int .u64 a.x3) ∧ w'.cell? ⟨t, k * 8 + 4, none⟩ = some (.int .u64 c.x0) ∧ w'.cell? ⟨t, k * 8 + 5, none⟩ = some (.int .u64 c.x1) ∧ w'.cell? ⟨t, k * 8 + 6, none⟩ = some (.int .u64 c.x2) ∧ w'.cell? ⟨t, k * 8 + 7, none⟩ = some (.int .u64 c.x3) ∧ w'.cell? ⟨sb, so + k * 4, none⟩ = some (.int .u64 a.x0) ∧ w'.cell? ⟨sb, so + k * 4 + 1, none⟩ = some (.int .u64 a.x1) ∧ w'.cell? ⟨sb, so + k * 4 + 2, none⟩ = some (.int .u64 a.x2) ∧ w'.cell? ⟨sb, so + k * 4 + 3, none⟩ = some (.int .u64 a.x3) ∧ w'.cell? ⟨tb, tq + k * 4, none⟩ = some (.int .u64 c.x0) ∧ w'.cell? ⟨tb, tq + k * 4 + 1, none⟩ = some (.int .u64 c.x1) ∧ w'.cell? ⟨tb, tq + k * 4 + 2, none⟩ = some (.int .u64 c.x2) ∧ w'.cell? ⟨tb, tq + k * 4 + 3, none⟩ = some (.int .u64 c.x3)) w') := hidden (fun w' hb => by
                  have s1 := r1.keep (bl_trans ZS.out.bel hb)
                  have s2 := r2.keep (bl_trans ZS.out.bel hb)
                  have s3 := (RT.out).keep hb
                  have y0 := s1.c0 k hkn
                  have y1 := s1.c1 k hkn
                  have y2 := s1.c2 k hkn
                  have y3 := s1.c3 k hkn
                  have z0 := s2.c0 k hkn
                  have z1 := s2.c1 k hkn
                  have z2 := s2.c2 k hkn
                  have z3 := s2.c3 k hkn
                  have q := s3.c k hkn
                  rw [ha] at y0 y1 y2 y3 q
                  rw [hc] at z0 z1 z2 z3 q
                  exact ⟨hb, q 0 (by omega), q 1 (by omega), q 2 (by omega), q 3 (by omega), q 4 (by omega), q 5 (by omega), q 6 (by omega), q 7 (by omega), y0, y1, y2, y3, z0, z1, z2, z3⟩)
                have K0 := hidden (KSt.out _ (bl_trans hB.out (drew_blW wr)))
                obtain ⟨x, hx⟩ : ∃ x, lst a.n = x := ⟨_, rfl⟩
                obtain ⟨y, hy⟩ : ∃ y, lst c.n = y := ⟨_, rfl⟩
                have LA : Hid (∀ w', Below w5.heap.size w5 w' → Calls Tryd.prog 9 #[.agg #[.int .u64 a.x0, .int .u64 a.x1, .int .u64 a.x2, .int .u64 a.x3]] w' fun e w'' => e = .returned (.agg #[.int .u64 x.x0, .int .u64 x.x1, .int .u64 x.x2, .int .u64 x.x3]) ∧ Below w'.heap.size w' w'') := hidden (fun w' hb => by rw [← hx]; exact leastZ a w' (HT.out.keep (bl_trans ZS.out.bel hb)) (by rw [← ha]; exact aok))
                have LC : Hid (∀ w', Below w5.heap.size w5 w' → Calls Tryd.prog 9 #[.agg #[.int .u64 c.x0, .int .u64 c.x1, .int .u64 c.x2, .int .u64 c.x3]] w' fun e w'' => e = .returned (.agg #[.int .u64 y.x0, .int .u64 y.x1, .int .u64 y.x2, .int .u64 y.x3]) ∧ Below w'.heap.size w' w'') := hidden (fun w' hb => by rw [← hy]; exact leastZ c w' (HT.out.keep (bl_trans ZS.out.bel hb)) (by rw [← hc]; exact cok))
                have qx : ∀ w, (Op.equalIn 10000 27 (.agg #[.int .u64 x.x0, .int .u64 x.x1, .int .u64 x.x2, .int .u64 x.x3]) (.agg #[.int .u64 x.x0, .int .u64 x.x1, .int .u64 x.x2, .int .u64 x.x3])).run Tryd.prog w = .ok true w := fun w => (eq4 x x w).trans (by rw [E4.same_self])
                have qy : ∀ w, (Op.equalIn 10000 27 (.agg #[.int .u64 y.x0, .int .u64 y.x1, .int .u64 y.x2, .int .u64 y.x3]) (.agg #[.int .u64 y.x0, .int .u64 y.x1, .int .u64 y.x2, .int .u64 y.x3])).run Tryd.prog w = .ok true w := fun w => (eq4 y y w).trans (by rw [E4.same_self])
                clear ha hc hx hy aok cok r1 r2 h1 h2 h3 h4 hB
                go_upto_region 23 with fail
                go_cut [136] (fun v wx => v = .bool false ∧ Below w5.heap.size w5 wx)
                case first =>
                  as_aux_lemma =>
                    refine wp_region_noPanic ?_
                    refine wp_region_held_drew (S := fun w' => Below w5.heap.size w5 w' ∧ w'.cell? ⟨t, k * 8, none⟩ = some (.int .u64 a.x0) ∧ w'.cell? ⟨t, k * 8 + 1, none⟩ = some (.int .u64 a.x1) ∧ w'.cell? ⟨t, k * 8 + 2, none⟩ = some (.int .u64 a.x2) ∧ w'.cell? ⟨t, k * 8 + 3, none⟩ = some (.int .u64 a.x3) ∧ w'.cell? ⟨t, k * 8 + 4, none⟩ = some (.int .u64 c.x0) ∧ w'.cell? ⟨t, k * 8 + 5, none⟩ = some (.int .u64 c.x1) ∧ w'.cell? ⟨t, k * 8 + 6, none⟩ = some (.int .u64 c.x2) ∧ w'.cell? ⟨t, k * 8 + 7, none⟩ = some (.int .u64 c.x3) ∧ w'.cell? ⟨sb, so + k * 4, none⟩ = some (.int .u64 a.x0) ∧ w'.cell? ⟨sb, so + k * 4 + 1, none⟩ = some (.int .u64 a.x1) ∧ w'.cell? ⟨sb, so + k * 4 + 2, none⟩ = some (.int .u64 a.x2) ∧ w'.cell? ⟨sb, so + k * 4 + 3, none⟩ = some (.int .u64 a.x3) ∧ w'.cell? ⟨tb, tq + k * 4, none⟩ = some (.int .u64 c.x0) ∧ w'.cell? ⟨tb, tq + k * 4 + 1, none⟩ = some (.int .u64 c.x1) ∧ w'.cell? ⟨tb, tq + k * 4 + 2, none⟩ = some (.int .u64 c.x2) ∧ w'.cell? ⟨tb, tq + k * 4 + 3, none⟩ = some (.int .u64 c.x3)) (by kernel_rfl) K0.out (fun hHeld => ?_)
                    refine wpAnyH_take (i := 0) (oi := { dst := some 110, op := Op.move (Operand.tmp 11), type := 31, pos := "law.go:332", after := #[], guard := none }) (v := ?_) rfl (by kernel_rfl) (by kernel_rfl) (by kernel_rfl) (fun _ _ _ h => h) (Or.inl ⟨by rfl, ?_⟩) hHeld ?_
                    rotate_left 1
                    · (intro w0 hSw; (try dsimp only at hSw); go_simp; try with_reducible rfl)
                    simp only [Act.put, List.setIfInBounds_toArray, List.set_cons_zero, List.set_cons_succ]
                    refine wpAnyH_take (i := 1) (oi := { dst := some 111, op := Op.move (Operand.tmp 15), type := 3, pos := "law.go:332", after := #[], guard := none }) (v := ?_) rfl (by kernel_rfl) (by kernel_rfl) (by kernel_rfl) (fun _ _ _ h => h) (Or.inl ⟨by rfl, ?_⟩) hHeld ?_
                    rotate_left 1
                    · (intro w0 hSw; (try dsimp only at hSw); go_simp; try with_reducible rfl)
                    simp only [Act.put, List.setIfInBounds_toArray, List.set_cons_zero, List.set_cons_succ]
                    refine wpAnyH_take (i := 2) (oi := { dst := some 112, op := Op.indexAddr 31 (Operand.tmp 110) (Operand.tmp 111), type := 0, pos := "law.go:332", after := #[{ on := 0, ground := Ground.data }, { on := 1, ground := Ground.data }], guard := none }) (v := ?_) rfl (by kernel_rfl) (by kernel_rfl) (by kernel_rfl) (fun _ _ _ h => h) (Or.inl ⟨by rfl, ?_⟩) hHeld ?_
                    rotate_left 1
                    · (intro w0 hSw; (try dsimp only at hSw); go_simp; try with_reducible rfl)
                    simp only [Act.put, List.setIfInBounds_toArray, List.set_cons_zero, List.set_cons_succ]
                    refine wpAnyH_take (i := 3) (oi := { dst := some 113, op := Op.fieldAddr 37 (Operand.tmp 112) 0, type := 0, pos := "law.go:332", after := #[{ on := 2, ground := Ground.data }], guard := none }) (v := ?_) rfl (by kernel_rfl) (by kernel_rfl) (by kernel_rfl) (fun _ _ _ h => h) (Or.inl ⟨by rfl, ?_⟩) hHeld ?_
                    rotate_left 1
                    · (intro w0 hSw; (try dsimp only at hSw); go_simp; try with_reducible rfl)
                    simp only [Act.put, List.setIfInBounds_toArray, List.set_cons_zero, List.set_cons_succ]
                    refine wpAnyH_take (i := 4) (oi := { dst := some 114, op := Op.load 27 (Operand.tmp 113), type := 27, pos := "law.go:332", after := #[{ on := 3, ground := Ground.data }], guard := none }) (v := ?_) rfl (by kernel_rfl) (by kernel_rfl) (by kernel_rfl) (fun _ _ _ h => h) (Or.inl ⟨by rfl, ?_⟩) hHeld ?_
                    rotate_left 1
                    · (intro w0 hSw; (try dsimp only at hSw); go_simp; try with_reducible rfl)
                    simp only [Act.put, List.setIfInBounds_toArray, List.set_cons_zero, List.set_cons_succ]
                    refine wpAnyH_take (i := 6) (oi := { dst := some 116, op := Op.move (Operand.tmp 0), type := 22, pos := "law.go:332", after := #[], guard := none }) (v := ?_) rfl (by kernel_rfl) (by kernel_rfl) (by kernel_rfl) (fun _ _ _ h => h) (Or.inl ⟨by rfl, ?_⟩) hHeld ?_
                    rotate_left 1
                    · (intro w0 hSw; (try dsimp only at hSw); go_simp; try with_reducible rfl)
                    simp only [Act.put, List.setIfInBounds_toArray, List.set_cons_zero, List.set_cons_succ]
                    refine wpAnyH_take (i := 7) (oi := { dst := some 117, op := Op.move (Operand.tmp 15), type := 3, pos := "law.go:332", after := #[], guard := none }) (v := ?_) rfl (by kernel_rfl) (by kernel_rfl) (by kernel_rfl) (fun _ _ _ h => h) (Or.inl ⟨by rfl, ?_⟩) hHeld ?_
                    rotate_left 1
                    · (intro w0 hSw; (try dsimp only at hSw); go_simp; try with_reducible rfl)
                    simp only [Act.put, List.setIfInBounds_toArray, List.set_cons_zero, List.set_cons_succ]
                    refine wpAnyH_take (i := 8) (oi := { dst := some 118, op := Op.indexAddr 22 (Operand.tmp 116) (Operand.tmp 117), type := 0, pos := "law.go:332", after := #[{ on := 6, ground := Ground.data }, { on := 7, ground := Ground.data }], guard := none }) (v := ?_) rfl (by kernel_rfl) (by kernel_rfl) (by kernel_rfl) (fun _ _ _ h => h) (Or.inl ⟨by rfl, ?_⟩) hHeld ?_
                    rotate_left 1
                    · (intro w0 hSw; (try dsimp only at hSw); go_simp; try with_reducible rfl)
                    simp only [Act.put, List.setIfInBounds_toArray, List.set_cons_zero, List.set_cons_succ]
                    refine wpAnyH_take (i := 9) (oi := { dst := some 119, op := Op.load 27 (Operand.tmp 118), type := 27, pos := "law.go:332", after := #[{ on := 8, ground := Ground.data }], guard := none }) (v := ?_) rfl (by kernel_rfl) (by kernel_rfl) (by kernel_rfl) (fun _ _ _ h => h) (Or.inl ⟨by rfl, ?_⟩) hHeld ?_
                    rotate_left 1
                    · (intro w0 hSw; (try dsimp only at hSw); go_simp; try with_reducible rfl)
                    simp only [Act.put, List.setIfInBounds_toArray, List.set_cons_zero, List.set_cons_succ]
                    refine wpAnyH_ready (rs := [5]) (by kernel_rfl) (by simp) ?_
                    refine AllReadyH.cons (o := { dst := some 115, op := Op.call { callee := Callee.value (Operand.func 9), args := #[Operand.tmp 114], argTypes := #[27] }, type := 27, pos := "law.go:332", after := #[{ on := 4, ground := Ground.data }], guard := none }) rfl (fun K hK => ?_) AllReadyH.nil
                    go_simp
                    refine (LA.out _ hHeld.1).mono ?_
                    rintro e wn ⟨rfl, hb⟩
                    have hk := hidden (KSt.out _ (bl_trans hHeld.1 hb))
                    go_wp2_with fail
                    refine hK.out _ _ hk.out (fun hHeld2 => ?_)
                    clear hK K hHeld hb hk
                    have hHeld := hHeld2
                    clear hHeld2
                    refine wpAnyH_ready (rs := [10]) (by kernel_rfl) (by simp) ?_
                    refine AllReadyH.cons (o := { dst := some 120, op := Op.call { callee := Callee.value (Operand.func 9), args := #[Operand.tmp 119], argTypes := #[27] }, type := 27, pos := "law.go:332", after := #[{ on := 9, ground := Ground.data }, { on := 5, ground := Ground.chain }], guard := none }) rfl (fun K hK => ?_) AllReadyH.nil
                    go_simp
                    refine (LA.out _ hHeld.1).mono ?_
                    rintro e wn ⟨rfl, hb⟩
                    have hk := hidden (KSt.out _ (bl_trans hHeld.1 hb))
                    go_wp2_with fail
                    refine hK.out _ _ hk.out (fun hHeld2 => ?_)
                    clear hK K hHeld hb hk
                    have hHeld := hHeld2
                    clear hHeld2
                    refine wpAnyH_take (i := 11) (oi := { dst := some 121, op := Op.binOp BinOp.neq 27 (Operand.tmp 115) (Operand.tmp 120) 27, type := 4, pos := "law.go:332", after := #[{ on := 5, ground := Ground.data }, { on := 10, ground := Ground.data }], guard := none }) (v := ?_) rfl (by kernel_rfl) (by kernel_rfl) (by kernel_rfl) (fun _ _ _ h => h) (Or.inl ⟨by rfl, ?_⟩) hHeld ?_
                    rotate_left 1
                    · (intro w0 hSw; (try dsimp only at hSw); go_simp; try with_reducible rfl)
                    simp only [Act.put, List.setIfInBounds_toArray, List.set_cons_zero, List.set_cons_succ]
                    refine wpAnyH_take (i := 12) (oi := { dst := some 122, op := Op.move (Operand.tmp 121), type := 4, pos := "law.go:332", after := #[{ on := 11, ground := Ground.data }, { on := 10, ground := Ground.chain }], guard := none }) (v := ?_) rfl (by kernel_rfl) (by kernel_rfl) (by kernel_rfl) (fun _ _ _ h => h) (Or.inl ⟨by rfl, ?_⟩) hHeld ?_
                    rotate_left 1
                    · (intro w0 hSw; (try dsimp only at hSw); go_simp; try with_reducible rfl)
                    simp only [Act.put, List.setIfInBounds_toArray, List.set_cons_zero, List.set_cons_succ]
                    refine wpAnyH_take (i := 13) (oi := { dst := some 123, op := Op.move (Operand.tmp 11), type := 31, pos := "law.go:332", after := #[{ on := 12, ground := Ground.guard }], guard := some (12, false) }) (v := ?_) rfl (by kernel_rfl) (by kernel_rfl) (by kernel_rfl) (fun _ _ _ h => h) (Or.inl ⟨by rfl, ?_⟩) hHeld ?_
                    rotate_left 1
                    · (intro w0 hSw; (try dsimp only at hSw); go_simp; try with_reducible rfl)
                    simp only [Act.put, List.setIfInBounds_toArray, List.set_cons_zero, List.set_cons_succ]
                    refine wpAnyH_take (i := 14) (oi := { dst := some 124, op := Op.move (Operand.tmp 15), type := 3, pos := "law.go:332", after := #[{ on := 12, ground := Ground.guard }], guard := some (12, false) }) (v := ?_) rfl (by kernel_rfl) (by kernel_rfl) (by kernel_rfl) (fun _ _ _ h => h) (Or.inl ⟨by rfl, ?_⟩) hHeld ?_
                    rotate_left 1
                    · (intro w0 hSw; (try dsimp only at hSw); go_simp; try with_reducible rfl)
                    simp only [Act.put, List.setIfInBounds_toArray, List.set_cons_zero, List.set_cons_succ]
                    refine wpAnyH_take (i := 15) (oi := { dst := some 125, op := Op.indexAddr 31 (Operand.tmp 123) (Operand.tmp 124), type := 0, pos := "law.go:332", after := #[{ on := 13, ground := Ground.data }, { on := 14, ground := Ground.data }, { on := 12, ground := Ground.guard }], guard := some (12, false) }) (v := ?_) rfl (by kernel_rfl) (by kernel_rfl) (by kernel_rfl) (fun _ _ _ h => h) (Or.inl ⟨by rfl, ?_⟩) hHeld ?_
                    rotate_left 1
                    · (intro w0 hSw; (try dsimp only at hSw); go_simp; try with_reducible rfl)
                    simp only [Act.put, List.setIfInBounds_toArray, List.set_cons_zero, List.set_cons_succ]
                    refine wpAnyH_take (i := 16) (oi := { dst := some 126, op := Op.fieldAddr 37 (Operand.tmp 125) 1, type := 0, pos := "law.go:332", after := #[{ on := 15, ground := Ground.data }, { on := 12, ground := Ground.guard }], guard := some (12, false) }) (v := ?_) rfl (by kernel_rfl) (by kernel_rfl) (by kernel_rfl) (fun _ _ _ h => h) (Or.inl ⟨by rfl, ?_⟩) hHeld ?_
                    rotate_left 1
                    · (intro w0 hSw; (try dsimp only at hSw); go_simp; try with_reducible rfl)
                    simp only [Act.put, List.setIfInBounds_toArray, List.set_cons_zero, List.set_cons_succ]
                    refine wpAnyH_take (i := 17) (oi := { dst := some 127, op := Op.fieldAddr 29 (Operand.tmp 126) 0, type := 0, pos := "law.go:332", after := #[{ on := 16, ground := Ground.data }, { on := 12, ground := Ground.guard }], guard := some (12, false) }) (v := ?_) rfl (by kernel_rfl) (by kernel_rfl) (by kernel_rfl) (fun _ _ _ h => h) (Or.inl ⟨by rfl, ?_⟩) hHeld ?_
                    rotate_left 1
                    · (intro w0 hSw; (try dsimp only at hSw); go_simp; try with_reducible rfl)
                    simp only [Act.put, List.setIfInBounds_toArray, List.set_cons_zero, List.set_cons_succ]
                    refine wpAnyH_take (i := 18) (oi := { dst := some 128, op := Op.load 27 (Operand.tmp 127), type := 27, pos := "law.go:332", after := #[{ on := 17, ground := Ground.data }, { on := 12, ground := Ground.guard }], guard := some (12, false) }) (v := ?_) rfl (by kernel_rfl) (by kernel_rfl) (by kernel_rfl) (fun _ _ _ h => h) (Or.inl ⟨by rfl, ?_⟩) hHeld ?_
                    rotate_left 1
                    · (intro w0 hSw; (try dsimp only at hSw); go_simp; try with_reducible rfl)
                    simp only [Act.put, List.setIfInBounds_toArray, List.set_cons_zero, List.set_cons_succ]
                    refine wpAnyH_take (i := 20) (oi := { dst := some 130, op := Op.move (Operand.tmp 1), type := 22, pos := "law.go:332", after := #[{ on := 12, ground := Ground.guard }], guard := some (12, false) }) (v := ?_) rfl (by kernel_rfl) (by kernel_rfl) (by kernel_rfl) (fun _ _ _ h => h) (Or.inl ⟨by rfl, ?_⟩) hHeld ?_
                    rotate_left 1
                    · (intro w0 hSw; (try dsimp only at hSw); go_simp; try with_reducible rfl)
                    simp only [Act.put, List.setIfInBounds_toArray, List.set_cons_zero, List.set_cons_succ]
                    refine wpAnyH_take (i := 21) (oi := { dst := some 131, op := Op.move (Operand.tmp 15), type := 3, pos := "law.go:332", after := #[{ on := 12, ground := Ground.guard }], guard := some (12, false) }) (v := ?_) rfl (by kernel_rfl) (by kernel_rfl) (by kernel_rfl) (fun _ _ _ h => h) (Or.inl ⟨by rfl, ?_⟩) hHeld ?_
                    rotate_left 1
                    · (intro w0 hSw; (try dsimp only at hSw); go_simp; try with_reducible rfl)
                    simp only [Act.put, List.setIfInBounds_toArray, List.set_cons_zero, List.set_cons_succ]
                    refine wpAnyH_take (i := 22) (oi := { dst := some 132, op := Op.indexAddr 22 (Operand.tmp 130) (Operand.tmp 131), type := 0, pos := "law.go:332", after := #[{ on := 20, ground := Ground.data }, { on := 21, ground := Ground.data }, { on := 12, ground := Ground.guard }], guard := some (12, false) }) (v := ?_) rfl (by kernel_rfl) (by kernel_rfl) (by kernel_rfl) (fun _ _ _ h => h) (Or.inl ⟨by rfl, ?_⟩) hHeld ?_
                    rotate_left 1
                    · (intro w0 hSw; (try dsimp only at hSw); go_simp; try with_reducible rfl)
                    simp only [Act.put, List.setIfInBounds_toArray, List.set_cons_zero, List.set_cons_succ]
                    refine wpAnyH_take (i := 23) (oi := { dst := some 133, op := Op.load 27 (Operand.tmp 132), type := 27, pos := "law.go:332", after := #[{ on := 22, ground := Ground.data }, { on := 12, ground := Ground.guard }], guard := some (12, false) }) (v := ?_) rfl (by kernel_rfl) (by kernel_rfl) (by kernel_rfl) (fun _ _ _ h => h) (Or.inl ⟨by rfl, ?_⟩) hHeld ?_
                    rotate_left 1
                    · (intro w0 hSw; (try dsimp only at hSw); go_simp; try with_reducible rfl)
                    simp only [Act.put, List.setIfInBounds_toArray, List.set_cons_zero, List.set_cons_succ]
                    refine wpAnyH_ready (rs := [19]) (by kernel_rfl) (by simp) ?_
                    refine AllReadyH.cons (o := { dst := some 129, op := Op.call { callee := Callee.value (Operand.func 9), args := #[Operand.tmp 128], argTypes := #[27] }, type := 27, pos := "law.go:332", after := #[{ on := 18, ground := Ground.data }, { on := 12, ground := Ground.chain }, { on := 12, ground := Ground.guard }], guard := some (12, false) }) rfl (fun K hK => ?_) AllReadyH.nil
                    go_simp
                    refine (LC.out _ hHeld.1).mono ?_
                    rintro e wn ⟨rfl, hb⟩
                    have hk := hidden (KSt.out _ (bl_trans hHeld.1 hb))
                    go_wp2_with fail
                    refine hK.out _ _ hk.out (fun hHeld2 => ?_)
                    clear hK K hHeld hb hk
                    have hHeld := hHeld2
                    clear hHeld2
                    refine wpAnyH_ready (rs := [24]) (by kernel_rfl) (by simp) ?_
                    refine AllReadyH.cons (o := { dst := some 134, op := Op.call { callee := Callee.value (Operand.func 9), args := #[Operand.tmp 133], argTypes := #[27] }, type := 27, pos := "law.go:332", after := #[{ on := 23, ground := Ground.data }, { on := 19, ground := Ground.chain }, { on := 12, ground := Ground.guard }], guard := some (12, false) }) rfl (fun K hK => ?_) AllReadyH.nil
                    go_simp
                    refine (LC.out _ hHeld.1).mono ?_
                    rintro e wn ⟨rfl, hb⟩
                    have hk := hidden (KSt.out _ (bl_trans hHeld.1 hb))
                    go_wp2_with fail
                    refine hK.out _ _ hk.out (fun hHeld2 => ?_)
                    clear hK K hHeld hb hk
                    have hHeld := hHeld2
                    clear hHeld2
                    refine wpAnyH_take (i := 25) (oi := { dst := some 135, op := Op.binOp BinOp.neq 27 (Operand.tmp 129) (Operand.tmp 134) 27, type := 4, pos := "law.go:332", after := #[{ on := 19, ground := Ground.data }, { on := 24, ground := Ground.data }, { on := 12, ground := Ground.guard }], guard := some (12, false) }) (v := ?_) rfl (by kernel_rfl) (by kernel_rfl) (by kernel_rfl) (fun _ _ _ h => h) (Or.inl ⟨by rfl, ?_⟩) hHeld ?_
                    rotate_left 1
                    · (intro w0 hSw; (try dsimp only at hSw); go_simp; try with_reducible rfl)
                    simp only [Act.put, List.setIfInBounds_toArray, List.set_cons_zero, List.set_cons_succ]
                    refine wpAnyH_take (i := 26) (oi := { dst := some 136, op := Op.pick (Operand.tmp 122) (Operand.const (Value.bool true)) (Operand.tmp 135), type := 4, pos := "law.go:332", after := #[{ on := 12, ground := Ground.data }, { on := 25, ground := Ground.data }], guard := none }) (v := ?_) rfl (by kernel_rfl) (by kernel_rfl) (by kernel_rfl) (fun _ _ _ h => h) (Or.inl ⟨by rfl, ?_⟩) hHeld ?_
                    rotate_left 1
                    · (intro w0 hSw; (try dsimp only at hSw); go_simp; try with_reducible rfl)
                    simp only [Act.put, List.setIfInBounds_toArray, List.set_cons_zero, List.set_cons_succ]
                    refine wpAnyH_done (by kernel_rfl) ?_ _
                    refine NoPanic.normal ?_
                    have HH := hidden hHeld.1
                    clear hHeld
                    go_wp2_with fail
                    go_meet
                    exact ⟨rfl, HH.out⟩
                case rest =>
                obtain ⟨rfl, hb⟩ := hcut
                have HB := hidden hb
                clear hb KSt K0 LA LC qx qy
                go_wp2_with fail
                go_roundw
                case rel => exact ⟨k + 1, by omega, by go_num, HB⟩
                case measure => simp [intOf]; omega
              · obtain rfl : k = L := by omega
                clear hkn hk
                have lq : ¬ (k : Int) < (k : Int) := by omega
                generalize k = L at *
                go_upto_region 25 with fail
                generalize wr = w6 at *
                have ZS0 := hidden (ZS.out.keep hB.out)
                have RT0 := hidden (RT.out.keep hB.out)
                clear hB
                go_wp2_with fail
                clear RT ZS
                go_loopw [16] (fun kv w' => ∃ (k : Nat) (p q : Nat → E4), k ≤ L ∧ kv = .int .i64 (k : Int) ∧ Hid (Rt w' t L p q) ∧ Hid (Zs w w' b u L f h)) (fun k _ => L - (intOf k).toNat)
                case atStart => exact ⟨0, f, h, by omega, rfl, RT0, ZS0⟩
                case round =>
                  clear RT0 ZS0
                  obtain ⟨k, p, q, hk, rfl, hR, hZ⟩ := hrel
                  by_cases hkn : k < L
                  · have k0 : (0 : Int) ≤ (k : Int) := by omega
                    have k1 : (k : Int) < (L : Int) := by omega
                    have w9 : IntKind.i64.wrap ((k : Int) + 1) = (k : Int) + 1 := IntWalk.i64_in _ (by have := HL0.out; omega)
                    have d0 : wr.cell? ⟨t, k * 8, none⟩ = some (.int .u64 (p k).x0) := hR.out.c k hkn 0 (by omega)
                    have f0 := hR.out.fr (k * 8) (by omega)
                    have d1 : wr.cell? ⟨t, k * 8 + 1, none⟩ = some (.int .u64 (p k).x1) := hR.out.c k hkn 1 (by omega)
                    have f1 := hR.out.fr (k * 8 + 1) (by omega)
                    have d2 : wr.cell? ⟨t, k * 8 + 2, none⟩ = some (.int .u64 (p k).x2) := hR.out.c k hkn 2 (by omega)
                    have f2 := hR.out.fr (k * 8 + 2) (by omega)
                    have d3 : wr.cell? ⟨t, k * 8 + 3, none⟩ = some (.int .u64 (p k).x3) := hR.out.c k hkn 3 (by omega)
                    have f3 := hR.out.fr (k * 8 + 3) (by omega)
                    have d4 : wr.cell? ⟨t, k * 8 + 4, none⟩ = some (.int .u64 (q k).x0) := hR.out.c k hkn 4 (by omega)
                    have f4 := hR.out.fr (k * 8 + 4) (by omega)
                    have d5 : wr.cell? ⟨t, k * 8 + 5, none⟩ = some (.int .u64 (q k).x1) := hR.out.c k hkn 5 (by omega)
                    have f5 := hR.out.fr (k * 8 + 5) (by omega)
                    have d6 : wr.cell? ⟨t, k * 8 + 6, none⟩ = some (.int .u64 (q k).x2) := hR.out.c k hkn 6 (by omega)
                    have f6 := hR.out.fr (k * 8 + 6) (by omega)
                    have d7 : wr.cell? ⟨t, k * 8 + 7, none⟩ = some (.int .u64 (q k).x3) := hR.out.c k hkn 7 (by omega)
                    have f7 := hR.out.fr (k * 8 + 7) (by omega)
                    have YR := hidden (hR.out.set k hkn ⟨55, 0, 0, 0⟩ ⟨0, 0, 0, 0⟩)
                    have YZ := hidden (hZ.out.put (o := k * 8) (x := ⟨55, 0, 0, 0⟩) (y := ⟨0, 0, 0, 0⟩) htb.2 htb.1 htu)
                    unfold setT at YR YZ
                    simp only at YR YZ
                    clear hR hZ
                    go_wp2_with fail
                    go_roundw
                    case rel => exact ⟨k + 1, _, _, by omega, by go_num, YR, YZ⟩
                    case measure => simp [intOf]; omega
                  · obtain rfl : k = L := by omega
                    clear hkn hk
                    have lq : ¬ (k : Int) < (k : Int) := by omega
                    generalize k = L at *
                    go_upto_region 29 with fail
                    generalize wr = w7 at *
                    obtain ⟨i0, hi, hz0, hz1, hz2⟩ := info_parts tinfoZ
                    have HI := hidden hi
                    have HZ0 := hidden hz0
                    have HZ1 := hidden hz1
                    have HZ2 := hidden hz2
                    have HU : Hid (Tryd.prog.underlying 31 = some (.slice 37)) := hidden (by kernel_rfl)
                    obtain ⟨xs, hxs⟩ := moreT_made hR.out w7.heap.size 37
                    have MT := hidden hxs
                    clear hi hz0 hz1 hz2 hR hxs
                    go_wp2_with fail
                    go_loopw [11, 17] (fun tv iv w' => ∃ (i : Nat) (xs : List Value), i ≤ 40 ∧ iv = .int .i64 (i : Int) ∧ Hid (MoreT w' w7.heap.size 37 tv (L + i) xs) ∧ Hid (Below w7.heap.size w7 w')) (fun _ i _ => 40 - (intOf i).toNat)
                    case atStart => exact ⟨0, xs, by omega, rfl, MT, hidden (Below.refl _ _)⟩
                    case round =>
                      clear MT
                      clear xs
                      obtain ⟨i, xs, hi, rfl, how, hbl⟩ := hrel
                      by_cases hin : i < 40
                      · have ii1 : (i : Int) < 40 := by omega
                        have w9 : IntKind.i64.wrap ((i : Int) + 1) = (i : Int) + 1 := IntWalk.i64_in _ (by omega)
                        have hsz := hbl.out.size
                        have a1 := hidden (how.out.alloc (.cells #[.int .u64 55, .int .u64 0, .int .u64 0, .int .u64 0, .int .u64 0, .int .u64 0, .int .u64 0, .int .u64 0] 37))
                        have a2 := hidden (cells_new wr [.int .u64 55, .int .u64 0, .int .u64 0, .int .u64 0, .int .u64 0, .int .u64 0, .int .u64 0, .int .u64 0] 37)
                        have a3 : Hid (∀ u ∈ [Value.int .u64 55, .int .u64 0, .int .u64 0, .int .u64 0, .int .u64 0, .int .u64 0, .int .u64 0, .int .u64 0], u.oneCell' = true) := hidden (by simp [Value.oneCell'])
                        have a4 : Hid (L + i + 1 ≤ maxLen) := hidden (by have := HL0.out; unfold maxLen; omega)
                        have a5 : Hid ((L + i + 1) * 64 ≤ 140737488355328) := hidden (by have := HL0.out; omega)
                        have a6 : Hid (w7.heap.size ≤ (wr.alloc (.cells #[.int .u64 55, .int .u64 0, .int .u64 0, .int .u64 0, .int .u64 0, .int .u64 0, .int .u64 0, .int .u64 0] 37)).heap.size) := hidden (by simp; omega)
                        have b6 := hidden (bl_trans hbl.out (bl_alloc wr (.cells #[.int .u64 55, .int .u64 0, .int .u64 0, .int .u64 0, .int .u64 0, .int .u64 0, .int .u64 0, .int .u64 0] 37)))
                        clear hsz how hbl
                        go_wp2_with (first | (at_builtin; refine wpList_append_moreT _ rfl _ _ 31 rfl w7.heap.size 37 i0 (.agg #[.int .u64 0, .int .u64 0, .int .u64 0, .int .u64 0, .int .u64 0, .int .u64 0, .int .u64 0, .int .u64 0]) 64 HU.out HI.out HZ0.out HZ1.out HZ2.out rfl _ (L + i) xs rfl a1.out ⟨wr.heap.size, 0, none⟩ [.int .u64 55, .int .u64 0, .int .u64 0, .int .u64 0, .int .u64 0, .int .u64 0, .int .u64 0, .int .u64 0] rfl rfl a2.out a3.out a4.out a5.out a6.out ?_; intro v' w8 hown hb8; have HO := hidden hown; have HB := hidden (below_trans b6.out hb8); clear hown hb8))
                        go_roundw
                        case rel => exact ⟨i + 1, _, by omega, by go_num, hidden (Or.inl HO.out), HB⟩
                        case measure => simp [intOf]; omega
                      · obtain rfl : i = 40 := by omega
                        clear hin hi how HI HZ0 HZ1 HZ2 HU
                        go_upto_region 33 with fail
                        generalize wr = w8 at *
                        have ZS := hidden (hZ.out.keep hbl.out)
                        have UN : Hid (∀ w', Below w8.heap.size w8 w' → Calls Tryd.prog 8 #[.slice (some ⟨b, 0, none⟩) L cb, .slice P0 L c0] w' fun e w'' => e = .returned (.bool true) ∧ Below w'.heap.size w' w'') := hidden (fun w' hb => untouched_any b cb P0 L c0 f w' HL0.out hcb (ZS.out.keep hb).own (HF0.out.keep (bl_trans ZS.out.bel hb)))
                        clear hZ hbl
                        go_wp2_with fail
                        go_loopw [18] (fun kv w' => ∃ k : Nat, k ≤ L ∧ kv = .int .i64 (k : Int) ∧ Hid (Below w8.heap.size w8 w')) (fun k _ => L - (intOf k).toNat)
                        case atStart => exact ⟨0, by omega, rfl, hidden (Below.refl _ _)⟩
                        case round =>
                          obtain ⟨k, hk, rfl, hB⟩ := hrel
                          by_cases hkn : k < L
                          · have k0 : (0 : Int) ≤ (k : Int) := by omega
                            have k1 : (k : Int) < (L : Int) := by omega
                            have w9 : IntKind.i64.wrap ((k : Int) + 1) = (k : Int) + 1 := IntWalk.i64_in _ (by have := HL0.out; omega)
                            obtain ⟨sb, so, h1, h2⟩ := HF0.out
                            obtain rfl := h1 (by omega)
                            obtain ⟨tb, tq, h3, h4⟩ := HF1.out
                            obtain rfl := h3 (by omega)
                            have r1 := h2 (by omega)
                            have r2 := h4 (by omega)
                            have aok := OK0.out k hkn
                            have cok := OK1.out k hkn
                            obtain ⟨a, ha⟩ : ∃ a, f k = a := ⟨_, rfl⟩
                            obtain ⟨c, hc⟩ : ∃ c, h k = c := ⟨_, rfl⟩
                            have KSt : Hid (∀ w', Below w8.heap.size w8 w' → (fun w' => Below w8.heap.size w8 w' ∧ w'.cell? ⟨u, k * 8, none⟩ = some (.int .u64 a.x0) ∧ w'.cell? ⟨u, k * 8 + 1, none⟩ = some (.int .u64 a.x1) ∧ w'.cell? ⟨u, k * 8 + 2, none⟩ = some (.int .u64 a.x2) ∧ w'.cell? ⟨u, k * 8 + 3, none⟩ = some (.int .u64 a.x3) ∧ w'.cell? ⟨u, k * 8 + 4, none⟩ = some (.int .u64 c.x0) ∧ w'.cell? ⟨u, k * 8 + 5, none⟩ = some (.int .u64 c.x1) ∧ w'.cell? ⟨u, k * 8 + 6, none⟩ = some (.int .u64 c.x2) ∧ w'.cell? ⟨u, k * 8 + 7, none⟩ = some (.int .u64 c.x3) ∧ w'.cell? ⟨sb, so + k * 4, none⟩ = some (.int .u64 a.x0) ∧ w'.cell? ⟨sb, so + k * 4 + 1, none⟩ = some (.int .u64 a.x1) ∧ w'.cell? ⟨sb, so + k * 4 + 2, none⟩ = some (.int .u64 a.x2) ∧ w'.cell? ⟨sb, so + k * 4 + 3, none⟩ = some (.int .u64 a.x3) ∧ w'.cell? ⟨tb, tq + k * 4, none⟩ = some (.int .u64 c.x0) ∧ w'.cell? ⟨tb, tq + k * 4 + 1, none⟩ = some (.int .u64 c.x1) ∧ w'.cell? ⟨tb, tq + k * 4 + 2, none⟩ = some (.int .u64 c.x2) ∧ w'.cell? ⟨tb, tq + k * 4 + 3, none⟩ = some (.int .u64 c.x3)) w') := hidden (fun w' hb => by
                              have s1 := r1.keep (bl_trans ZS.out.bel hb)
                              have s2 := r2.keep (bl_trans ZS.out.bel hb)
                              have s3 := (ZS.out.us).keep hb
                              have y0 := s1.c0 k hkn
                              have y1 := s1.c1 k hkn
                              have y2 := s1.c2 k hkn
                              have y3 := s1.c3 k hkn
                              have z0 := s2.c0 k hkn
                              have z1 := s2.c1 k hkn
                              have z2 := s2.c2 k hkn
                              have z3 := s2.c3 k hkn
                              have q := s3.c k hkn
                              rw [ha] at y0 y1 y2 y3 q
                              rw [hc] at z0 z1 z2 z3 q
                              exact ⟨hb, q 0 (by omega), q 1 (by omega), q 2 (by omega), q 3 (by omega), q 4 (by omega), q 5 (by omega), q 6 (by omega), q 7 (by omega), y0, y1, y2, y3, z0, z1, z2, z3⟩)
                            have K0 := hidden (KSt.out _ (bl_trans hB.out (drew_blW wr)))
                            obtain ⟨x, hx⟩ : ∃ x, lst a.n = x := ⟨_, rfl⟩
                            obtain ⟨y, hy⟩ : ∃ y, lst c.n = y := ⟨_, rfl⟩
                            have LA : Hid (∀ w', Below w8.heap.size w8 w' → Calls Tryd.prog 9 #[.agg #[.int .u64 a.x0, .int .u64 a.x1, .int .u64 a.x2, .int .u64 a.x3]] w' fun e w'' => e = .returned (.agg #[.int .u64 x.x0, .int .u64 x.x1, .int .u64 x.x2, .int .u64 x.x3]) ∧ Below w'.heap.size w' w'') := hidden (fun w' hb => by rw [← hx]; exact leastZ a w' (HT.out.keep (bl_trans ZS.out.bel hb)) (by rw [← ha]; exact aok))
                            have LC : Hid (∀ w', Below w8.heap.size w8 w' → Calls Tryd.prog 9 #[.agg #[.int .u64 c.x0, .int .u64 c.x1, .int .u64 c.x2, .int .u64 c.x3]] w' fun e w'' => e = .returned (.agg #[.int .u64 y.x0, .int .u64 y.x1, .int .u64 y.x2, .int .u64 y.x3]) ∧ Below w'.heap.size w' w'') := hidden (fun w' hb => by rw [← hy]; exact leastZ c w' (HT.out.keep (bl_trans ZS.out.bel hb)) (by rw [← hc]; exact cok))
                            have qx : ∀ w, (Op.equalIn 10000 27 (.agg #[.int .u64 x.x0, .int .u64 x.x1, .int .u64 x.x2, .int .u64 x.x3]) (.agg #[.int .u64 x.x0, .int .u64 x.x1, .int .u64 x.x2, .int .u64 x.x3])).run Tryd.prog w = .ok true w := fun w => (eq4 x x w).trans (by rw [E4.same_self])
                            have qy : ∀ w, (Op.equalIn 10000 27 (.agg #[.int .u64 y.x0, .int .u64 y.x1, .int .u64 y.x2, .int .u64 y.x3]) (.agg #[.int .u64 y.x0, .int .u64 y.x1, .int .u64 y.x2, .int .u64 y.x3])).run Tryd.prog w = .ok true w := fun w => (eq4 y y w).trans (by rw [E4.same_self])
                            clear ha hc hx hy aok cok r1 r2 h1 h2 h3 h4 hB
                            go_upto_region 36 with fail
                            go_cut [189] (fun v wx => v = .bool false ∧ Below w8.heap.size w8 wx)
                            case first =>
                              as_aux_lemma =>
                                refine wp_region_noPanic ?_
                                refine wp_region_held_drew (S := fun w' => Below w8.heap.size w8 w' ∧ w'.cell? ⟨u, k * 8, none⟩ = some (.int .u64 a.x0) ∧ w'.cell? ⟨u, k * 8 + 1, none⟩ = some (.int .u64 a.x1) ∧ w'.cell? ⟨u, k * 8 + 2, none⟩ = some (.int .u64 a.x2) ∧ w'.cell? ⟨u, k * 8 + 3, none⟩ = some (.int .u64 a.x3) ∧ w'.cell? ⟨u, k * 8 + 4, none⟩ = some (.int .u64 c.x0) ∧ w'.cell? ⟨u, k * 8 + 5, none⟩ = some (.int .u64 c.x1) ∧ w'.cell? ⟨u, k * 8 + 6, none⟩ = some (.int .u64 c.x2) ∧ w'.cell? ⟨u, k * 8 + 7, none⟩ = some (.int .u64 c.x3) ∧ w'.cell? ⟨sb, so + k * 4, none⟩ = some (.int .u64 a.x0) ∧ w'.cell? ⟨sb, so + k * 4 + 1, none⟩ = some (.int .u64 a.x1) ∧ w'.cell? ⟨sb, so + k * 4 + 2, none⟩ = some (.int .u64 a.x2) ∧ w'.cell? ⟨sb, so + k * 4 + 3, none⟩ = some (.int .u64 a.x3) ∧ w'.cell? ⟨tb, tq + k * 4, none⟩ = some (.int .u64 c.x0) ∧ w'.cell? ⟨tb, tq + k * 4 + 1, none⟩ = some (.int .u64 c.x1) ∧ w'.cell? ⟨tb, tq + k * 4 + 2, none⟩ = some (.int .u64 c.x2) ∧ w'.cell? ⟨tb, tq + k * 4 + 3, none⟩ = some (.int .u64 c.x3)) (by kernel_rfl) K0.out (fun hHeld => ?_)
                                refine wpAnyH_take (i := 0) (oi := { dst := some 163, op := Op.move (Operand.tmp 13), type := 31, pos := "law.go:343", after := #[], guard := none }) (v := ?_) rfl (by kernel_rfl) (by kernel_rfl) (by kernel_rfl) (fun _ _ _ h => h) (Or.inl ⟨by rfl, ?_⟩) hHeld ?_
                                rotate_left 1
                                · (intro w0 hSw; (try dsimp only at hSw); go_simp; try with_reducible rfl)
                                simp only [Act.put, List.setIfInBounds_toArray, List.set_cons_zero, List.set_cons_succ]
                                refine wpAnyH_take (i := 1) (oi := { dst := some 164, op := Op.move (Operand.tmp 18), type := 3, pos := "law.go:343", after := #[], guard := none }) (v := ?_) rfl (by kernel_rfl) (by kernel_rfl) (by kernel_rfl) (fun _ _ _ h => h) (Or.inl ⟨by rfl, ?_⟩) hHeld ?_
                                rotate_left 1
                                · (intro w0 hSw; (try dsimp only at hSw); go_simp; try with_reducible rfl)
                                simp only [Act.put, List.setIfInBounds_toArray, List.set_cons_zero, List.set_cons_succ]
                                refine wpAnyH_take (i := 2) (oi := { dst := some 165, op := Op.indexAddr 31 (Operand.tmp 163) (Operand.tmp 164), type := 0, pos := "law.go:343", after := #[{ on := 0, ground := Ground.data }, { on := 1, ground := Ground.data }], guard := none }) (v := ?_) rfl (by kernel_rfl) (by kernel_rfl) (by kernel_rfl) (fun _ _ _ h => h) (Or.inl ⟨by rfl, ?_⟩) hHeld ?_
                                rotate_left 1
                                · (intro w0 hSw; (try dsimp only at hSw); go_simp; try with_reducible rfl)
                                simp only [Act.put, List.setIfInBounds_toArray, List.set_cons_zero, List.set_cons_succ]
                                refine wpAnyH_take (i := 3) (oi := { dst := some 166, op := Op.fieldAddr 37 (Operand.tmp 165) 0, type := 0, pos := "law.go:343", after := #[{ on := 2, ground := Ground.data }], guard := none }) (v := ?_) rfl (by kernel_rfl) (by kernel_rfl) (by kernel_rfl) (fun _ _ _ h => h) (Or.inl ⟨by rfl, ?_⟩) hHeld ?_
                                rotate_left 1
                                · (intro w0 hSw; (try dsimp only at hSw); go_simp; try with_reducible rfl)
                                simp only [Act.put, List.setIfInBounds_toArray, List.set_cons_zero, List.set_cons_succ]
                                refine wpAnyH_take (i := 4) (oi := { dst := some 167, op := Op.load 27 (Operand.tmp 166), type := 27, pos := "law.go:343", after := #[{ on := 3, ground := Ground.data }], guard := none }) (v := ?_) rfl (by kernel_rfl) (by kernel_rfl) (by kernel_rfl) (fun _ _ _ h => h) (Or.inl ⟨by rfl, ?_⟩) hHeld ?_
                                rotate_left 1
                                · (intro w0 hSw; (try dsimp only at hSw); go_simp; try with_reducible rfl)
                                simp only [Act.put, List.setIfInBounds_toArray, List.set_cons_zero, List.set_cons_succ]
                                refine wpAnyH_take (i := 6) (oi := { dst := some 169, op := Op.move (Operand.tmp 0), type := 22, pos := "law.go:343", after := #[], guard := none }) (v := ?_) rfl (by kernel_rfl) (by kernel_rfl) (by kernel_rfl) (fun _ _ _ h => h) (Or.inl ⟨by rfl, ?_⟩) hHeld ?_
                                rotate_left 1
                                · (intro w0 hSw; (try dsimp only at hSw); go_simp; try with_reducible rfl)
                                simp only [Act.put, List.setIfInBounds_toArray, List.set_cons_zero, List.set_cons_succ]
                                refine wpAnyH_take (i := 7) (oi := { dst := some 170, op := Op.move (Operand.tmp 18), type := 3, pos := "law.go:343", after := #[], guard := none }) (v := ?_) rfl (by kernel_rfl) (by kernel_rfl) (by kernel_rfl) (fun _ _ _ h => h) (Or.inl ⟨by rfl, ?_⟩) hHeld ?_
                                rotate_left 1
                                · (intro w0 hSw; (try dsimp only at hSw); go_simp; try with_reducible rfl)
                                simp only [Act.put, List.setIfInBounds_toArray, List.set_cons_zero, List.set_cons_succ]
                                refine wpAnyH_take (i := 8) (oi := { dst := some 171, op := Op.indexAddr 22 (Operand.tmp 169) (Operand.tmp 170), type := 0, pos := "law.go:343", after := #[{ on := 6, ground := Ground.data }, { on := 7, ground := Ground.data }], guard := none }) (v := ?_) rfl (by kernel_rfl) (by kernel_rfl) (by kernel_rfl) (fun _ _ _ h => h) (Or.inl ⟨by rfl, ?_⟩) hHeld ?_
                                rotate_left 1
                                · (intro w0 hSw; (try dsimp only at hSw); go_simp; try with_reducible rfl)
                                simp only [Act.put, List.setIfInBounds_toArray, List.set_cons_zero, List.set_cons_succ]
                                refine wpAnyH_take (i := 9) (oi := { dst := some 172, op := Op.load 27 (Operand.tmp 171), type := 27, pos := "law.go:343", after := #[{ on := 8, ground := Ground.data }], guard := none }) (v := ?_) rfl (by kernel_rfl) (by kernel_rfl) (by kernel_rfl) (fun _ _ _ h => h) (Or.inl ⟨by rfl, ?_⟩) hHeld ?_
                                rotate_left 1
                                · (intro w0 hSw; (try dsimp only at hSw); go_simp; try with_reducible rfl)
                                simp only [Act.put, List.setIfInBounds_toArray, List.set_cons_zero, List.set_cons_succ]
                                refine wpAnyH_ready (rs := [5]) (by kernel_rfl) (by simp) ?_
                                refine AllReadyH.cons (o := { dst := some 168, op := Op.call { callee := Callee.value (Operand.func 9), args := #[Operand.tmp 167], argTypes := #[27] }, type := 27, pos := "law.go:343", after := #[{ on := 4, ground := Ground.data }], guard := none }) rfl (fun K hK => ?_) AllReadyH.nil
                                go_simp
                                refine (LA.out _ hHeld.1).mono ?_
                                rintro e wn ⟨rfl, hb⟩
                                have hk := hidden (KSt.out _ (bl_trans hHeld.1 hb))
                                go_wp2_with fail
                                refine hK.out _ _ hk.out (fun hHeld2 => ?_)
                                clear hK K hHeld hb hk
                                have hHeld := hHeld2
                                clear hHeld2
                                refine wpAnyH_ready (rs := [10]) (by kernel_rfl) (by simp) ?_
                                refine AllReadyH.cons (o := { dst := some 173, op := Op.call { callee := Callee.value (Operand.func 9), args := #[Operand.tmp 172], argTypes := #[27] }, type := 27, pos := "law.go:343", after := #[{ on := 9, ground := Ground.data }, { on := 5, ground := Ground.chain }], guard := none }) rfl (fun K hK => ?_) AllReadyH.nil
                                go_simp
                                refine (LA.out _ hHeld.1).mono ?_
                                rintro e wn ⟨rfl, hb⟩
                                have hk := hidden (KSt.out _ (bl_trans hHeld.1 hb))
                                go_wp2_with fail
                                refine hK.out _ _ hk.out (fun hHeld2 => ?_)
                                clear hK K hHeld hb hk
                                have hHeld := hHeld2
                                clear hHeld2
                                refine wpAnyH_take (i := 11) (oi := { dst := some 174, op := Op.binOp BinOp.neq 27 (Operand.tmp 168) (Operand.tmp 173) 27, type := 4, pos := "law.go:343", after := #[{ on := 5, ground := Ground.data }, { on := 10, ground := Ground.data }], guard := none }) (v := ?_) rfl (by kernel_rfl) (by kernel_rfl) (by kernel_rfl) (fun _ _ _ h => h) (Or.inl ⟨by rfl, ?_⟩) hHeld ?_
                                rotate_left 1
                                · (intro w0 hSw; (try dsimp only at hSw); go_simp; try with_reducible rfl)
                                simp only [Act.put, List.setIfInBounds_toArray, List.set_cons_zero, List.set_cons_succ]
                                refine wpAnyH_take (i := 12) (oi := { dst := some 175, op := Op.move (Operand.tmp 174), type := 4, pos := "law.go:343", after := #[{ on := 11, ground := Ground.data }, { on := 10, ground := Ground.chain }], guard := none }) (v := ?_) rfl (by kernel_rfl) (by kernel_rfl) (by kernel_rfl) (fun _ _ _ h => h) (Or.inl ⟨by rfl, ?_⟩) hHeld ?_
                                rotate_left 1
                                · (intro w0 hSw; (try dsimp only at hSw); go_simp; try with_reducible rfl)
                                simp only [Act.put, List.setIfInBounds_toArray, List.set_cons_zero, List.set_cons_succ]
                                refine wpAnyH_take (i := 13) (oi := { dst := some 176, op := Op.move (Operand.tmp 13), type := 31, pos := "law.go:343", after := #[{ on := 12, ground := Ground.guard }], guard := some (12, false) }) (v := ?_) rfl (by kernel_rfl) (by kernel_rfl) (by kernel_rfl) (fun _ _ _ h => h) (Or.inl ⟨by rfl, ?_⟩) hHeld ?_
                                rotate_left 1
                                · (intro w0 hSw; (try dsimp only at hSw); go_simp; try with_reducible rfl)
                                simp only [Act.put, List.setIfInBounds_toArray, List.set_cons_zero, List.set_cons_succ]
                                refine wpAnyH_take (i := 14) (oi := { dst := some 177, op := Op.move (Operand.tmp 18), type := 3, pos := "law.go:343", after := #[{ on := 12, ground := Ground.guard }], guard := some (12, false) }) (v := ?_) rfl (by kernel_rfl) (by kernel_rfl) (by kernel_rfl) (fun _ _ _ h => h) (Or.inl ⟨by rfl, ?_⟩) hHeld ?_
                                rotate_left 1
                                · (intro w0 hSw; (try dsimp only at hSw); go_simp; try with_reducible rfl)
                                simp only [Act.put, List.setIfInBounds_toArray, List.set_cons_zero, List.set_cons_succ]
                                refine wpAnyH_take (i := 15) (oi := { dst := some 178, op := Op.indexAddr 31 (Operand.tmp 176) (Operand.tmp 177), type := 0, pos := "law.go:343", after := #[{ on := 13, ground := Ground.data }, { on := 14, ground := Ground.data }, { on := 12, ground := Ground.guard }], guard := some (12, false) }) (v := ?_) rfl (by kernel_rfl) (by kernel_rfl) (by kernel_rfl) (fun _ _ _ h => h) (Or.inl ⟨by rfl, ?_⟩) hHeld ?_
                                rotate_left 1
                                · (intro w0 hSw; (try dsimp only at hSw); go_simp; try with_reducible rfl)
                                simp only [Act.put, List.setIfInBounds_toArray, List.set_cons_zero, List.set_cons_succ]
                                refine wpAnyH_take (i := 16) (oi := { dst := some 179, op := Op.fieldAddr 37 (Operand.tmp 178) 1, type := 0, pos := "law.go:343", after := #[{ on := 15, ground := Ground.data }, { on := 12, ground := Ground.guard }], guard := some (12, false) }) (v := ?_) rfl (by kernel_rfl) (by kernel_rfl) (by kernel_rfl) (fun _ _ _ h => h) (Or.inl ⟨by rfl, ?_⟩) hHeld ?_
                                rotate_left 1
                                · (intro w0 hSw; (try dsimp only at hSw); go_simp; try with_reducible rfl)
                                simp only [Act.put, List.setIfInBounds_toArray, List.set_cons_zero, List.set_cons_succ]
                                refine wpAnyH_take (i := 17) (oi := { dst := some 180, op := Op.fieldAddr 29 (Operand.tmp 179) 0, type := 0, pos := "law.go:343", after := #[{ on := 16, ground := Ground.data }, { on := 12, ground := Ground.guard }], guard := some (12, false) }) (v := ?_) rfl (by kernel_rfl) (by kernel_rfl) (by kernel_rfl) (fun _ _ _ h => h) (Or.inl ⟨by rfl, ?_⟩) hHeld ?_
                                rotate_left 1
                                · (intro w0 hSw; (try dsimp only at hSw); go_simp; try with_reducible rfl)
                                simp only [Act.put, List.setIfInBounds_toArray, List.set_cons_zero, List.set_cons_succ]
                                refine wpAnyH_take (i := 18) (oi := { dst := some 181, op := Op.load 27 (Operand.tmp 180), type := 27, pos := "law.go:343", after := #[{ on := 17, ground := Ground.data }, { on := 12, ground := Ground.guard }], guard := some (12, false) }) (v := ?_) rfl (by kernel_rfl) (by kernel_rfl) (by kernel_rfl) (fun _ _ _ h => h) (Or.inl ⟨by rfl, ?_⟩) hHeld ?_
                                rotate_left 1
                                · (intro w0 hSw; (try dsimp only at hSw); go_simp; try with_reducible rfl)
                                simp only [Act.put, List.setIfInBounds_toArray, List.set_cons_zero, List.set_cons_succ]
                                refine wpAnyH_take (i := 20) (oi := { dst := some 183, op := Op.move (Operand.tmp 1), type := 22, pos := "law.go:343", after := #[{ on := 12, ground := Ground.guard }], guard := some (12, false) }) (v := ?_) rfl (by kernel_rfl) (by kernel_rfl) (by kernel_rfl) (fun _ _ _ h => h) (Or.inl ⟨by rfl, ?_⟩) hHeld ?_
                                rotate_left 1
                                · (intro w0 hSw; (try dsimp only at hSw); go_simp; try with_reducible rfl)
                                simp only [Act.put, List.setIfInBounds_toArray, List.set_cons_zero, List.set_cons_succ]
                                refine wpAnyH_take (i := 21) (oi := { dst := some 184, op := Op.move (Operand.tmp 18), type := 3, pos := "law.go:343", after := #[{ on := 12, ground := Ground.guard }], guard := some (12, false) }) (v := ?_) rfl (by kernel_rfl) (by kernel_rfl) (by kernel_rfl) (fun _ _ _ h => h) (Or.inl ⟨by rfl, ?_⟩) hHeld ?_
                                rotate_left 1
                                · (intro w0 hSw; (try dsimp only at hSw); go_simp; try with_reducible rfl)
                                simp only [Act.put, List.setIfInBounds_toArray, List.set_cons_zero, List.set_cons_succ]
                                refine wpAnyH_take (i := 22) (oi := { dst := some 185, op := Op.indexAddr 22 (Operand.tmp 183) (Operand.tmp 184), type := 0, pos := "law.go:343", after := #[{ on := 20, ground := Ground.data }, { on := 21, ground := Ground.data }, { on := 12, ground := Ground.guard }], guard := some (12, false) }) (v := ?_) rfl (by kernel_rfl) (by kernel_rfl) (by kernel_rfl) (fun _ _ _ h => h) (Or.inl ⟨by rfl, ?_⟩) hHeld ?_
                                rotate_left 1
                                · (intro w0 hSw; (try dsimp only at hSw); go_simp; try with_reducible rfl)
                                simp only [Act.put, List.setIfInBounds_toArray, List.set_cons_zero, List.set_cons_succ]
                                refine wpAnyH_take (i := 23) (oi := { dst := some 186, op := Op.load 27 (Operand.tmp 185), type := 27, pos := "law.go:343", after := #[{ on := 22, ground := Ground.data }, { on := 12, ground := Ground.guard }], guard := some (12, false) }) (v := ?_) rfl (by kernel_rfl) (by kernel_rfl) (by kernel_rfl) (fun _ _ _ h => h) (Or.inl ⟨by rfl, ?_⟩) hHeld ?_
                                rotate_left 1
                                · (intro w0 hSw; (try dsimp only at hSw); go_simp; try with_reducible rfl)
                                simp only [Act.put, List.setIfInBounds_toArray, List.set_cons_zero, List.set_cons_succ]
                                refine wpAnyH_ready (rs := [19]) (by kernel_rfl) (by simp) ?_
                                refine AllReadyH.cons (o := { dst := some 182, op := Op.call { callee := Callee.value (Operand.func 9), args := #[Operand.tmp 181], argTypes := #[27] }, type := 27, pos := "law.go:343", after := #[{ on := 18, ground := Ground.data }, { on := 12, ground := Ground.chain }, { on := 12, ground := Ground.guard }], guard := some (12, false) }) rfl (fun K hK => ?_) AllReadyH.nil
                                go_simp
                                refine (LC.out _ hHeld.1).mono ?_
                                rintro e wn ⟨rfl, hb⟩
                                have hk := hidden (KSt.out _ (bl_trans hHeld.1 hb))
                                go_wp2_with fail
                                refine hK.out _ _ hk.out (fun hHeld2 => ?_)
                                clear hK K hHeld hb hk
                                have hHeld := hHeld2
                                clear hHeld2
                                refine wpAnyH_ready (rs := [24]) (by kernel_rfl) (by simp) ?_
                                refine AllReadyH.cons (o := { dst := some 187, op := Op.call { callee := Callee.value (Operand.func 9), args := #[Operand.tmp 186], argTypes := #[27] }, type := 27, pos := "law.go:343", after := #[{ on := 23, ground := Ground.data }, { on := 19, ground := Ground.chain }, { on := 12, ground := Ground.guard }], guard := some (12, false) }) rfl (fun K hK => ?_) AllReadyH.nil
                                go_simp
                                refine (LC.out _ hHeld.1).mono ?_
                                rintro e wn ⟨rfl, hb⟩
                                have hk := hidden (KSt.out _ (bl_trans hHeld.1 hb))
                                go_wp2_with fail
                                refine hK.out _ _ hk.out (fun hHeld2 => ?_)
                                clear hK K hHeld hb hk
                                have hHeld := hHeld2
                                clear hHeld2
                                refine wpAnyH_take (i := 25) (oi := { dst := some 188, op := Op.binOp BinOp.neq 27 (Operand.tmp 182) (Operand.tmp 187) 27, type := 4, pos := "law.go:343", after := #[{ on := 19, ground := Ground.data }, { on := 24, ground := Ground.data }, { on := 12, ground := Ground.guard }], guard := some (12, false) }) (v := ?_) rfl (by kernel_rfl) (by kernel_rfl) (by kernel_rfl) (fun _ _ _ h => h) (Or.inl ⟨by rfl, ?_⟩) hHeld ?_
                                rotate_left 1
                                · (intro w0 hSw; (try dsimp only at hSw); go_simp; try with_reducible rfl)
                                simp only [Act.put, List.setIfInBounds_toArray, List.set_cons_zero, List.set_cons_succ]
                                refine wpAnyH_take (i := 26) (oi := { dst := some 189, op := Op.pick (Operand.tmp 175) (Operand.const (Value.bool true)) (Operand.tmp 188), type := 4, pos := "law.go:343", after := #[{ on := 12, ground := Ground.data }, { on := 25, ground := Ground.data }], guard := none }) (v := ?_) rfl (by kernel_rfl) (by kernel_rfl) (by kernel_rfl) (fun _ _ _ h => h) (Or.inl ⟨by rfl, ?_⟩) hHeld ?_
                                rotate_left 1
                                · (intro w0 hSw; (try dsimp only at hSw); go_simp; try with_reducible rfl)
                                simp only [Act.put, List.setIfInBounds_toArray, List.set_cons_zero, List.set_cons_succ]
                                refine wpAnyH_done (by kernel_rfl) ?_ _
                                refine NoPanic.normal ?_
                                have HH := hidden hHeld.1
                                clear hHeld
                                go_wp2_with fail
                                go_meet
                                exact ⟨rfl, HH.out⟩
                            case rest =>
                            obtain ⟨rfl, hb⟩ := hcut
                            have HB := hidden hb
                            clear hb KSt K0 LA LC qx qy
                            go_wp2_with fail
                            go_roundw
                            case rel => exact ⟨k + 1, by omega, by go_num, HB⟩
                            case measure => simp [intOf]; omega
                          · obtain rfl : k = L := by omega
                            clear hkn hk
                            generalize k = L at *
                            have HB := hidden (bl_trans ZS.out.bel hB.out)
                            go_wp2_with (first | (go_at_call 8; refine (UN.out _ hB.out).mono ?_; rintro e wa ⟨rfl, ha⟩; replace HB := hidden (bl_trans HB.out ha); clear ha))
                            refine bodyPost_ret (v := .bool true) (by simp [results, Tryd.results3, go_sem]) rfl ⟨rfl, HB.out⟩
          · have ZP := hidden (fun w => zip_no (some ⟨b, 0, none⟩) PL L0 cb i cL w hLL)
            have hne : ¬ (L0 : Int) = (i : Int) := by omega
            go_wp2_with (first | (go_at_call 7; refine (ZP.out _).mono ?_; rintro e wa ⟨rfl, ha⟩; replace B2 := hidden (bl_trans B2.out ha); clear ha))
            refine bodyPost_ret (v := .bool true) (by simp [results, Tryd.results3, go_sem]) rfl ⟨rfl, B2.out⟩
end Go.Proofs.YtffehcilckfoeaaDoor
