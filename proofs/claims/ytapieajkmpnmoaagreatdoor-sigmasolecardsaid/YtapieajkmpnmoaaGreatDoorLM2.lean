import Derived.Test.YtapieajkmpnmoaaGreatDoorLM1
import Derived.Test.YtapieajkmpnmoaaGreatDoorOM3
namespace Go.Proofs.YtapieajkmpnmoaaGreatDoor.Li
open Go.RowKit
set_option linter.unusedVariables false
/-- a row of terms -/
structure Tm (w : World) (L lo N : Nat) (ks : Nat → E4) (fs : Nat → Nat → Int) : Prop where
  c : ∀ i, i < N → w.rangeAt L (lo + i * 8) [.int .u64 (ks i).x0, .int .u64 (ks i).x1, .int .u64 (ks i).x2, .int .u64 (ks i).x3]
  ok : ∀ i, i < N → (ks i).ok
  p : ∀ i, i < N → ∃ z : E4, w.rangeAt L (lo + i * 8 + 4) [.int .u64 z.x0, .int .u64 z.x1, .int .u64 z.x2, .int .u64 z.x3] ∧ z.ok ∧ ∀ t, lst z.n = lst (fs i t)
theorem no64R {w w' : World} {H b o : Nat} {z : E4} (h : w.rangeAt b o [.int .u64 z.x0, .int .u64 z.x1, .int .u64 z.x2, .int .u64 z.x3]) (hH : Hd w H) (hg : w.grownBy w' (some H)) : w'.rangeAt b o [.int .u64 z.x0, .int .u64 z.x1, .int .u64 z.x2, .int .u64 z.x3] := by
  refine range_gb h hg (fun e => ?_)
  subst e
  exact hH.no64 (h 0 _ rfl)
theorem Tm.hand {w w' : World} {L lo N H : Nat} {ks : Nat → E4} {fs : Nat → Nat → Int} (h : Tm w L lo N ks fs) (hH : Hd w H) (hg : w.grownBy w' (some H)) : Tm w' L lo N ks fs := by
  refine ⟨fun i hi => no64R (h.c i hi) hH hg, h.ok, fun i hi => ?_⟩
  obtain ⟨z, h1, h2⟩ := h.p i hi
  exact ⟨z, no64R h1 hH hg, h2⟩
theorem Tm.keep {w w' : World} {L lo N : Nat} {ks : Nat → E4} {fs : Nat → Nat → Int} (h : Tm w L lo N ks fs) (hb : Below w.heap.size w w') : Tm w' L lo N ks fs := by
  refine ⟨fun i hi => range_bl (h.c i hi) hb, h.ok, fun i hi => ?_⟩
  obtain ⟨z, h1, h2⟩ := h.p i hi
  exact ⟨z, range_bl h1 hb, h2⟩
/-- between two digits -/
def Sd (w1 w' : World) (H D K M T B m : Nat) (d : Nat → Int) (f : Nat → Int) (x : Nat → Nat → Int) (i : Nat) : Prop := (∃ s, Pl w' D K s (fun q t => x q t + if q < i then d q * f t else 0)) ∧ Hd w' H ∧ Tb w' ∧ w1.grownBy w' (some H) ∧ Ml w' M T T f ∧ Rwi w' B K d
theorem Sd.step {w1 w' w2 : World} {H D K M T B m i : Nat} {d f g : Nat → Int} {x : Nat → Nat → Int} {s s' : Nat → Bool} (h : Sd w1 w' H D K M T B m d f x i) (hD : w1.heap.size ≤ D) (hDH : D ≠ H) (hMD : M ≠ D) (hMH : M ≠ H) (hBD : B ≠ D) (hBH : B ≠ H) (htb : 0 ≠ D) (hP0 : Pl w' D K s (fun q t => x q t + if q < i then d q * f t else 0)) (hP : Pl w2 D K s' (fun j => if j = i then (fun t => (x i t + if i < i then d i * f t else 0) + g t) else (fun t => x j t + if j < i then d j * f t else 0))) (hg : ∀ t, lst (g t) = lst (d i * f t)) (hH : Hd w2 H) (hm : ∃ wm, w'.grownBy wm (some H) ∧ Hd wm H ∧ wm.grownBy w2 (some D)) : Sd w1 w2 H D K M T B m d f x (i + 1) := by
  obtain ⟨-, h2, h3, h4, h5, h6⟩ := h
  obtain ⟨wm, g1, hm1, g2⟩ := hm
  have tb : 0 ≠ H := h2.tb h3
  refine ⟨⟨s', hP.congr (fun j hj t => ?_)⟩, hH, (h3.keep0 g1 tb).keep0 g2 htb, ?_, (h5.gb g1 hMH).gb g2 hMD, (h6.gb g1 hBH).gb g2 hBD⟩
  · by_cases e : j = i
    · subst e
      simp only [if_pos, Nat.lt_irrefl, if_false, if_pos (Nat.lt_succ_self j), Int.add_zero]
      exact lst_two rfl (hg t)
    · simp only [if_neg e]
      by_cases e2 : j < i
      · rw [if_pos e2, if_pos (show j < i + 1 by omega)]
      · rw [if_neg e2, if_neg (show ¬ j < i + 1 by omega)]
  · have a := h4.trans g1
    exact ⟨g2.os.trans a.os, g2.tape.trans a.tape, g2.output.trans a.output, Nat.le_trans a.size g2.size, fun k hk hn => (g2.block k (Nat.lt_of_lt_of_le hk a.size) (fun e => by have := Option.some.inj e; omega)).trans (a.block k hk hn)⟩
theorem Sd.idle {w1 w' : World} {H D K M T B m i : Nat} {d f : Nat → Int} {x : Nat → Nat → Int} (h : Sd w1 w' H D K M T B m d f x i) (hd : d i = 0) : Sd w1 w' H D K M T B m d f x (i + 1) := by
  obtain ⟨⟨s, h1⟩, h2⟩ := h
  refine ⟨⟨s, h1.congr (fun j hj t => ?_)⟩, h2⟩
  by_cases e : j = i
  · subst e; rw [if_neg (Nat.lt_irrefl j), if_pos (Nat.lt_succ_self j), hd, Int.zero_mul]
  · by_cases e2 : j < i
    · rw [if_pos e2, if_pos (show j < i + 1 by omega)]
    · rw [if_neg e2, if_neg (show ¬ j < i + 1 by omega)]
end Go.Proofs.YtapieajkmpnmoaaGreatDoor.Li
namespace Go.Proofs.YtapieajkmpnmoaaGreatDoor.Li
open Go.RowKit
set_option linter.unusedVariables false
theorem pinfo3 : (Tryz.prog.info? 181).map (fun i => (i.zero, i.size, i.bytes)) = some (some (.agg #[.int .u64 0, .int .u64 0, .int .u64 0, .int .u64 0, .bool false]), 5, 40) := by kernel_rfl
/-- an answer of a hand, which may be the neutral element's zero value -/
def Hp (w w' : World) (H : Nat) (e : Ending) (x : Nat → Int) : Prop := ∃ r : E4, e = .returned (.agg #[.int .u64 r.x0, .int .u64 r.x1, .int .u64 r.x2, .int .u64 r.x3]) ∧ (r.ok ∧ ∀ t, lst r.n = lst (x t)) ∧ Hd w' H ∧ w.grownBy w' (some H)
/-- between two terms -/
def St2 (w1 w' : World) (H D K m : Nat) (ks : Nat → E4) (fs : Nat → Nat → Int) (j : Nat) : Prop := (∃ s, Pl w' D K s (fun i t => tot (fun q => dg (lst (ks q).n).n m i * fs q t) j)) ∧ Hd w' H ∧ Tb w' ∧ w1.grownBy w' (some H)

set_option maxRecDepth 100000 in
set_option maxHeartbeats 4000000 in
theorem straus_any (H m N L lo cap : Nat) (ks : Nat → E4) (fs : Nat → Nat → Int) (w : World) (hm1 : 1 ≤ m) (hm : m ≤ 8) (hN : N ≤ 8192) (hT : Tb w) (hH : Hd w H) (hTm : Tm w L lo N ks fs)
    (hJ : ∀ (x : World) (D : Nat) (s : Nat → Bool) (xx : Nat → Nat → Int), Tb x → Hd x H → Pl x D (253 / m + 1) s xx → D ≠ H → Calls Tryz.prog 100 #[.pointer (some ⟨H, 0, none⟩), .int .i64 (m : Int), .slice (some ⟨D, 0, none⟩) (253 / m + 1) (253 / m + 1)] x fun e w' => Hp x w' H e (fun t => tot (fun i => 2 ^ (m * i) * xx i t) (253 / m + 1))) :
    Calls Tryz.prog 72 #[.pointer (some ⟨H, 0, none⟩), .int .i64 (m : Int), .slice (some ⟨L, lo, none⟩) N cap] w fun e w' => Hp w w' H e (fun t => tot (fun i => 2 ^ (m * i) * tot (fun q => dg (lst (ks q).n).n m i * fs q t) N) (253 / m + 1)) := by
  have k1 : 253 / m + 1 ≤ 254 := by have := Nat.div_le_self 253 m; omega
  have PC := hidden (places_any m hm1 (by omega))
  obtain ⟨K, hK⟩ : ∃ K, 253 / m + 1 = K := ⟨_, rfl⟩
  rw [hK] at hJ PC k1 ⊢
  have nn0 : (0 : Int) ≤ (K : Int) := by omega
  obtain ⟨i0, hi, hz0, hz1, hz2⟩ := info_parts pinfo3
  have hmk := fun w => run_make (P := Tryz.prog) w 176 181 i0 (.agg #[.int .u64 0, .int .u64 0, .int .u64 0, .int .u64 0, .bool false]) (by kernel_rfl) hi hz0 .i64 .i64 (K : Int) (K : Int) (by omega) (Int.le_refl _) (by rw [hz2]; omega) (by omega)
  have tn : ((K : Int)).toNat = K := by omega
  simp only [tn, hz1, Value.cells] at hmk
  clear tn hi hz0 hz1 hz2
  have LH := hidden hH.lt
  have B1 := bl_alloc w (.cells #[.int .u64 0, .int .u64 0, .int .u64 0, .int .u64 0] 51)
  have e6 : (w.alloc (.cells #[.int .u64 0, .int .u64 0, .int .u64 0, .int .u64 0] 51)).rangeAt w.heap.size 0 [.int .u64 0, .int .u64 0, .int .u64 0, .int .u64 0] := range_newM w [.int .u64 0, .int .u64 0, .int .u64 0, .int .u64 0] 51
  have f6 : ∀ j, j < 4 → (w.alloc (.cells #[.int .u64 0, .int .u64 0, .int .u64 0, .int .u64 0] 51)).frozen? ⟨w.heap.size, j, none⟩ = false := fun j _ => by go_simp
  have S1 : (w.alloc (.cells #[.int .u64 0, .int .u64 0, .int .u64 0, .int .u64 0] 51)).heap.size = w.heap.size + 1 := by simp only [World.size_alloc]
  have H1 := hH.keep B1
  have T1 := hT.keep B1
  have M1 := hTm.keep B1
  obtain ⟨w1, hw1⟩ : ∃ w1, w.alloc (.cells #[.int .u64 0, .int .u64 0, .int .u64 0, .int .u64 0] 51) = w1 := ⟨_, rfl⟩
  rw [hw1] at B1 e6 S1 H1 T1 M1
  simp only [hw1] at f6
  have W1 : Hid (w1.rangeAt w.heap.size 0 [.int .u64 0, .int .u64 0, .int .u64 0, .int .u64 0] ∧ (∀ j, j < 4 → w1.frozen? ⟨w.heap.size, j, none⟩ = false) ∧ w1.heap.size = w.heap.size + 1 ∧ Hd w1 H ∧ Tb w1 ∧ Tm w1 L lo N ks fs ∧ Below w.heap.size w w1) := hidden ⟨e6, f6, S1, H1, T1, M1, B1⟩
  have ZJ := hidden hJ
  have HN : Hid (1 ≤ m ∧ m ≤ 8 ∧ N ≤ 8192 ∧ K ≤ 254 ∧ 253 / m + 1 = K) := hidden ⟨hm1, hm, hN, k1, hK⟩
  clear e6 f6 S1 H1 T1 M1 B1 hT hH hTm hJ hm1 hm hN k1 hK
  go_enter Tryz.func72, Tryz.ntmps72
  go_upto_region 1 with fail
  go_upto_region 2 with (first | (go_at_call 50; refine (PC.out _).mono ?_; rintro e wa ⟨rfl, ha⟩; have BA := hidden ha; clear ha PC))
  clear hmk hw1
  have ST : Hid (St2 w1 (wa.alloc (.cells (madeCells #[.int .u64 0, .int .u64 0, .int .u64 0, .int .u64 0, .bool false] (K * 5)) 181)) H wa.heap.size K m ks fs 0) := hidden (by
    have b := bl_trans BA.out (bl_alloc wa (.cells (madeCells #[.int .u64 0, .int .u64 0, .int .u64 0, .int .u64 0, .bool false] (K * 5)) 181))
    exact ⟨⟨_, Pl.made wa K 181⟩, W1.out.2.2.2.1.keep b, W1.out.2.2.2.2.1.keep b, gbI b _⟩)
  have HD : Hid (w1.heap.size ≤ wa.heap.size) := hidden BA.out.size
  generalize wa.alloc (.cells (madeCells #[.int .u64 0, .int .u64 0, .int .u64 0, .int .u64 0, .bool false] (K * 5)) 181) = w2 at *
  generalize wa.heap.size = D at *
  clear BA
  go_wp2_with fail
  go_loopw [20] (fun jv w' => ∃ j : Nat, j ≤ N ∧ jv = .int .i64 j ∧ Hid (St2 w1 w' H D K m ks fs j)) (fun j _ => N - (intOf j).toNat)
  case atStart => exact ⟨0, by omega, rfl, ST⟩
  case round =>
    clear ST
    obtain ⟨j, hj, rfl, ST⟩ := hrel
    by_cases hjn : j < N
    · have jj0 : (0 : Int) ≤ (j : Int) := by omega
      have jj1 : (j : Int) < (N : Int) := by omega
      have w9 : IntKind.i64.wrap ((j : Int) + 1) = (j : Int) + 1 := IntWalk.i64_in _ (by have := HN.out; omega)
      have HJN := hidden hjn
      have TM := W1.out.2.2.2.2.2.1.hand W1.out.2.2.2.1 ST.out.2.2.2
      have xr := TM.c j hjn
      have x0 : wr.cell? ⟨L, lo + j * 8, none⟩ = some (.int .u64 (ks j).x0) := xr 0 _ rfl
      have x1 : wr.cell? ⟨L, lo + j * 8 + 1, none⟩ = some (.int .u64 (ks j).x1) := xr 1 _ rfl
      have x2 : wr.cell? ⟨L, lo + j * 8 + 2, none⟩ = some (.int .u64 (ks j).x2) := xr 2 _ rfl
      have x3 : wr.cell? ⟨L, lo + j * 8 + 3, none⟩ = some (.int .u64 (ks j).x3) := xr 3 _ rfl
      clear xr
      obtain ⟨p, x4, xf⟩ := TM.p j hjn
      have y0 : wr.cell? ⟨L, lo + j * 8 + 4, none⟩ = some (.int .u64 p.x0) := x4 0 _ rfl
      have y1 : wr.cell? ⟨L, lo + j * 8 + 5, none⟩ = some (.int .u64 p.x1) := x4 1 _ rfl
      have y2 : wr.cell? ⟨L, lo + j * 8 + 6, none⟩ = some (.int .u64 p.x2) := x4 2 _ rfl
      have y3 : wr.cell? ⟨L, lo + j * 8 + 7, none⟩ = some (.int .u64 p.x3) := x4 3 _ rfl
      have xo := TM.ok j hjn
      clear TM
      obtain ⟨z, hz⟩ : ∃ z, ks j = z := ⟨_, rfl⟩
      rw [hz] at x0 x1 x2 x3 xo
      have HZ := hidden hz
      obtain ⟨f, hf⟩ : ∃ f, fs j = f := ⟨_, rfl⟩
      rw [hf] at xf
      have HF := hidden hf
      have DI := hidden (fun x T => Digits_in z m x T xo HN.out.1 (by have := HN.out; omega))
      simp only [HN.out.2.2.2.2, E4.v] at DI
      obtain ⟨d, hd⟩ : ∃ d, dg (lst z.n).n m = d := ⟨_, rfl⟩
      rw [hd] at DI
      have DR : Hid (∀ q, -(2 ^ (m - 1)) ≤ d q ∧ d q ≤ 2 ^ (m - 1)) := hidden (fun q => by rw [← hd]; have := dg_range (lst z.n).n m q HN.out.1; omega)
      have HDD := hidden hd
      have B2 := bl_alloc wr (.cells #[.int .u64 z.x0, .int .u64 z.x1, .int .u64 z.x2, .int .u64 z.x3, .int .u64 p.x0, .int .u64 p.x1, .int .u64 p.x2, .int .u64 p.x3] 93)
      have T2 := hidden (ST.out.2.2.1.keep B2)
      have c4 : (wr.alloc (.cells #[.int .u64 z.x0, .int .u64 z.x1, .int .u64 z.x2, .int .u64 z.x3, .int .u64 p.x0, .int .u64 p.x1, .int .u64 p.x2, .int .u64 p.x3] 93)).rangeAt wr.heap.size 4 [.int .u64 p.x0, .int .u64 p.x1, .int .u64 p.x2, .int .u64 p.x3] := range4 (by go_simp) (by go_simp) (by go_simp) (by go_simp)
      have C4 := hidden c4
      have XF := hidden xf
      have HB2 := hidden B2
      clear hz hf hd xo c4 B2 xf hjn hj
      go_upto_region 6 with (first | (go_at_call 57; refine (DI.out _ T2.out).mono ?_; rintro e wb ⟨B, rfl, hB, hR, hb⟩; have RB := hidden hR; have GB := hidden hB; have BB := hidden hb; clear hR hB hb DI))
      generalize (wr.alloc (.cells #[.int .u64 z.x0, .int .u64 z.x1, .int .u64 z.x2, .int .u64 z.x3, .int .u64 p.x0, .int .u64 p.x1, .int .u64 p.x2, .int .u64 p.x3] 93)) = wr2 at *
      clear x0 x1 x2 x3 x4 y0 y1 y2 y3
      have B3 := hidden (bl_trans HB2.out BB.out)
      have NB : Hid (H < wr.heap.size ∧ D < wr.heap.size ∧ D ≠ H ∧ w1.heap.size ≤ D ∧ wr.heap.size ≤ wr2.heap.size ∧ wr2.heap.size ≤ B ∧ 0 < w1.heap.size) := hidden (by
        obtain ⟨⟨s, hP⟩, hH, -⟩ := ST.out
        have h1 := LH.out; have h2 := W1.out.2.2.1; have h3 := HD.out
        have h4 := World.block_lt_of_cell? w1 _ W1.out.2.2.2.2.1.1
        exact ⟨hH.lt, hP.lt, by omega, h3, HB2.out.size, GB.out, h4⟩)
      have P2 : Hid ((2 : Int) ^ (m - 1) ≤ 128 ∧ (0 : Int) ≤ 2 ^ (m - 1)) := hidden (by
        have h1 := pow_le (m - 1) 7 (by have := HN.out; omega)
        have h2 := pow_le 0 (m - 1) (by omega)
        simp at h1 h2
        omega)
      obtain ⟨X, hX⟩ : ∃ X, (fun (i t : Nat) => tot (fun q => dg (lst (ks q).n).n m i * fs q t) j) = X := ⟨_, rfl⟩
      have HX := hidden hX
      refine st6 _ H wr.heap.size B K p (fun T => (T : Int) ≤ 128 ∧ ∀ q, q < K → -(T : Int) ≤ d q ∧ d q ≤ (T : Int)) (fun T M w' => Sd w1 w' H D K M T B m d f X 0 ∧ M ≠ D ∧ M ≠ H) _ _ _ _ _ _ _ _ _ _ _ _ _ _ _ _ _ _ _ _ _ _ _ _ _ _ _ _ _ _ _ _ _ _ _ _ _ _ _ _ _ _ _ _ _ _ _ _ _ _ _ _ _ _ _ _ _ _ _ _ _ _ _ _ _ _ _ _ _ _ _ _ _ _ _ _ wb (range_bl C4.out BB.out) (hidden ?_) (hidden ?_) (hidden ?_)
      · refine (greatest_any B K d (2 ^ (m - 1)) (fun q _ => DR.out q) P2.out.2 (by have := P2.out; omega) (by have := HN.out; omega) wb.drew RB.out.drew).mono ?_
        rintro e w' ⟨t, rfl, h0, h1, h2, hb⟩
        refine ⟨t.toNat, by rw [Int.toNat_of_nonneg h0], ⟨by have := P2.out; omega, fun q hq => ?_⟩, hb⟩
        have := h2 q hq
        omega
      · intro x T hTT hx
        have B4 := bl_trans (bl_trans B3.out (bl_drew wb)) hx
        obtain ⟨⟨s, hP⟩, hH, hT, hg⟩ := ST.out
        have hPx := hP.keep B4
        have hHx := hH.keep B4
        have hTx := hT.keep B4
        refine (multiples_any H T p f x hTx hHx XF.out (by have := hTT.1; omega)).mono ?_
        rintro e w' ⟨M, rfl, hM0, hM, hHm, hgm⟩
        have nb := NB.out
        have sx := B4.size
        have sz3 := B3.out.size
        refine ⟨M, rfl, range_gb (range_bl (range_bl C4.out BB.out) (bl_trans (bl_drew wb) hx)) hgm (show wr.heap.size ≠ H by omega), ⟨⟨s, (hPx.hand hgm nb.2.2.1).congr (fun i hi t => ?_)⟩, hHm, hTx.keep0 hgm (hHx.tb hTx), (hg.trans (gbI B4 _)).trans hgm, hM, (RB.out.keep (bl_trans (bl_drew wb) hx)).gb hgm (by omega)⟩, by omega, by omega⟩
        rw [← HX.out, if_neg (Nat.not_lt_zero i), Int.add_zero]
      · intro T M wz hTT hRW
        have SD := hidden hRW.1
        have NM := hidden hRW.2
        have HTT := hidden hTT
        clear hTT hRW hX B3 BB RB C4 HB2 T2 XF
        go_wp2_with fail
        go_loopw [39] (fun iv w' => ∃ i : Nat, i ≤ K ∧ iv = .int .i64 i ∧ Hid (Sd w1 w' H D K M T B m d f X i)) (fun i _ => K - (intOf i).toNat)
        case atStart => exact ⟨0, by omega, rfl, SD⟩
        case round =>
          clear SD
          obtain ⟨i, hi, rfl, SD⟩ := hrel
          by_cases hik : i < K
          · have ii0 : (0 : Int) ≤ (i : Int) := by omega
            have ii1 : (i : Int) < (K : Int) := by omega
            have w8 : IntKind.i64.wrap ((i : Int) + 1) = (i : Int) + 1 := IntWalk.i64_in _ (by have := HN.out; omega)
            have c0 := SD.out.2.2.2.2.2.c i hik
            have bd := HTT.out.2 i hik
            obtain ⟨y, hy⟩ : ∃ y, d i = y := ⟨_, rfl⟩
            rw [hy] at c0 bd
            have HY := hidden hy
            have HIK := hidden hik
            have t128 := HTT.out.1
            clear hy hi
            by_cases hy0 : y = 0
            · subst hy0
              have SN := hidden (SD.out.idle HY.out)
              clear SD bd t128
              go_wp2_with fail
              go_roundw
              case rel => exact ⟨i + 1, by have := HIK.out; omega, by go_num, SN⟩
              case measure => have := HIK.out; simp [intOf]; omega
            · by_cases hyp : 0 < y
              · obtain ⟨g, hg⟩ : ∃ g : Nat, y = (g : Int) + 1 := ⟨(y - 1).toNat, by omega⟩
                obtain ⟨gm, RM, hgm0⟩ := SD.out.2.2.2.2.1
                have m0 := Rm.range RM (show g < T by omega)
                have m1 := hgm0 g (by omega)
                clear RM hgm0
                generalize gm g = p1 at m0 m1
                have wy : IntKind.i64.wrap (y - 1) = (g : Int) := by rw [show y - 1 = (g : Int) by omega]; exact IntWalk.i64_in _ (by omega)
                have g1 : (g : Int) < (T : Int) := by omega
                have M1 := hidden m1
                have HG := hidden hg
                clear m1 hg bd t128
                go_upto_region 11 with fail
                refine st11 _ H D K M T i g y p1 (fun w' => Sd w1 w' H D K M T B m d f X (i + 1)) _ _ _ _ _ _ _ _ _ _ _ _ _ _ _ _ _ _ _ _ _ _ _ _ _ _ _ _ _ _ _ _ _ _ _ _ _ _ _ _ _ _ _ _ _ _ _ _ _ _ _ _ _ _ _ _ _ _ _ _ _ _ _ _ _ _ _ _ _ _ _ _ _ _ wr m0 ii0 ii1 (by omega) g1 wy (hidden ?_) (hidden ?_)
                · obtain ⟨⟨s, hP⟩, hH, hT, hgr, hM, hR⟩ := SD.out
                  have bb := bl_drew wr
                  have SDd : Sd w1 wr.drew H D K M T B m d f X i := ⟨⟨s, hP.keep bb⟩, hH.keep bb, hT.keep bb, hgr.trans (gbI bb _), hM.keep bb, hR.keep bb⟩
                  refine (lay_pl H D K i _ s _ _ wr.drew (hT.keep bb) (hH.keep bb) M1.out (hP.keep bb) HIK.out NB.out.2.2.1).mono ?_
                  rintro e w' ⟨rfl, hP2, hH2, hex⟩
                  refine ⟨rfl, ?_, SDd.step (by have := NB.out; omega) NB.out.2.2.1 NM.out.1 NM.out.2 (by have := NB.out; omega) (by have := NB.out; omega) (by have := NB.out; omega) (hP.keep bb) hP2 (fun t => by rw [HY.out, HG.out]) hH2 hex⟩
                  obtain ⟨wm, q1, -, q2⟩ := hex
                  exact range_gb (range_gb (range_bl m0 bb) q1 NM.out.2) q2 NM.out.1
                · intro wz2 hS
                  have SN := hidden hS
                  clear hS SD m0 M1
                  go_wp2_with fail
                  go_roundw
                  case rel => exact ⟨i + 1, by have := HIK.out; omega, by go_num, SN⟩
                  case measure => have := HIK.out; simp [intOf]; omega
              · have hyn : y < 0 := by omega
                have hyq : ¬ y > 0 := by omega
                obtain ⟨g, hg⟩ : ∃ g : Nat, -y = (g : Int) + 1 := ⟨(-y - 1).toNat, by omega⟩
                obtain ⟨gm, RM, hgm0⟩ := SD.out.2.2.2.2.1
                have m0 := Rm.range RM (show g < T by omega)
                have m1 := hgm0 g (by omega)
                clear RM hgm0
                generalize gm g = p1 at m0 m1
                have wy0 : IntKind.i64.wrap (-y) = -y := IntWalk.i64_in _ (by omega)
                have wy : IntKind.i64.wrap (-y - 1) = (g : Int) := by rw [show -y - 1 = (g : Int) by omega]; exact IntWalk.i64_in _ (by omega)
                have g1 : (g : Int) < (T : Int) := by omega
                have M1 := hidden m1
                have HG := hidden hg
                clear m1 hg bd t128
                go_upto_region 13 with fail
                refine st13 _ H D K M T i g y p1 (fun w' => Sd w1 w' H D K M T B m d f X (i + 1)) (lst (-p1.n)) (-y) _ _ _ _ _ _ _ _ _ _ _ _ _ _ _ _ _ _ _ _ _ _ _ _ _ _ _ _ _ _ _ _ _ _ _ _ _ _ _ _ _ _ _ _ _ _ _ _ _ _ _ _ _ _ _ _ _ _ _ _ _ _ _ _ _ _ _ _ _ _ _ _ _ _ wr m0 ii0 ii1 (by omega) g1 wy0 wy (mt_Neg p1) (hidden ?_) (hidden ?_) (hidden ?_)
                · exact lNeg_any p1 M1.out.1 wr.drew (SD.out.2.2.1.keep (bl_drew wr))
                · intro x hb
                  have hF : (lst (-p1.n)).ok ∧ ∀ t, lst (lst (-p1.n)).n = lst (-(((g : Int) + 1) * f t)) := ⟨lst_ok _, fun t => by rw [lst_n']; exact lst_oneN (M1.out.2 t)⟩
                  obtain ⟨⟨s, hP⟩, hH, hT, hgr, hM, hR⟩ := SD.out
                  have bb := bl_trans (bl_drew wr) hb
                  have SDd : Sd w1 x H D K M T B m d f X i := ⟨⟨s, hP.keep bb⟩, hH.keep bb, hT.keep bb, hgr.trans (gbI bb _), hM.keep bb, hR.keep bb⟩
                  refine (lay_pl H D K i _ s _ _ x (hT.keep bb) (hH.keep bb) hF (hP.keep bb) HIK.out NB.out.2.2.1).mono ?_
                  rintro e w' ⟨rfl, hP2, hH2, hex⟩
                  refine ⟨rfl, ?_, SDd.step (by have := NB.out; omega) NB.out.2.2.1 NM.out.1 NM.out.2 (by have := NB.out; omega) (by have := NB.out; omega) (by have := NB.out; omega) (hP.keep bb) hP2 (fun t => by rw [HY.out, show y = -((g : Int) + 1) by have := HG.out; omega, Int.neg_mul]) hH2 hex⟩
                  obtain ⟨wm, q1, -, q2⟩ := hex
                  exact range_gb (range_gb (range_bl m0 bb) q1 NM.out.2) q2 NM.out.1
                · intro wz2 hS
                  have SN := hidden hS
                  clear hS SD m0 M1
                  go_wp2_with fail
                  go_roundw
                  case rel => exact ⟨i + 1, by have := HIK.out; omega, by go_num, SN⟩
                  case measure => have := HIK.out; simp [intOf]; omega
          · have hik : K = i := by omega
            subst hik
            have lq : ¬ (K : Int) < (K : Int) := by omega
            have SN : Hid (St2 w1 _ H D K m ks fs (j + 1)) := hidden (by
              obtain ⟨⟨s, hP⟩, hH, hT, hg, -⟩ := SD.out
              exact ⟨⟨s, hP.congr (fun q hq t => by rw [if_pos hq, ← HX.out, ← HDD.out, ← HZ.out, ← HF.out]; rfl)⟩, hH, hT, hg⟩)
            clear SD
            go_wp2_with fail
            go_roundw
            case rel => exact ⟨j + 1, by have := HJN.out; omega, by go_num, SN⟩
            case measure => have := HJN.out; simp [intOf]; omega
    · have hjn : N = j := by omega
      subst hjn
      have lq : ¬ (N : Int) < (N : Int) := by omega
      obtain ⟨⟨s, hP⟩, hH, hT, hg⟩ := ST.out
      have neDH : D ≠ H := by have := LH.out; have := HD.out; have := W1.out.2.2.1; omega
      have CJ := hidden (ZJ.out wr D s _ hT hH hP neDH)
      have nH : w.heap.size ≠ H := by have := LH.out; omega
      have q6 := range_gb W1.out.1 hg nH
      have q7 : ∀ j, j < 4 → wr.frozen? ⟨w.heap.size, j, none⟩ = false := fun j hj => by
        have c : (w1.cell? ⟨w.heap.size, j, none⟩).isSome = true := by
          match j, hj with
          | 0, _ => rw [show (⟨w.heap.size, 0, none⟩ : Addr) = ⟨w.heap.size, 0 + 0, none⟩ from rfl, W1.out.1 0 _ rfl]; rfl
          | 1, _ => rw [show (⟨w.heap.size, 1, none⟩ : Addr) = ⟨w.heap.size, 0 + 1, none⟩ from rfl, W1.out.1 1 _ rfl]; rfl
          | 2, _ => rw [show (⟨w.heap.size, 2, none⟩ : Addr) = ⟨w.heap.size, 0 + 2, none⟩ from rfl, W1.out.1 2 _ rfl]; rfl
          | 3, _ => rw [show (⟨w.heap.size, 3, none⟩ : Addr) = ⟨w.heap.size, 0 + 3, none⟩ from rfl, W1.out.1 3 _ rfl]; rfl
        exact (gb_frozen_some hg c nH).trans (W1.out.2.1 j hj)
      have GW := hidden ((gbI W1.out.2.2.2.2.2.2 (some H)).trans hg)
      have Q7 := hidden (And.intro q6 q7)
      have HH := hidden hH
      clear hP hH hT hg ST q6 q7
      go_wp2_with (first | (go_at_call 100; refine CJ.out.mono ?_; rintro e wb ⟨r, rfl, hr, hHb, hgb⟩; have q0 : wb.cell? ⟨w.heap.size, 0, none⟩ = _ := range_gb Q7.out.1 hgb nH 0 _ rfl; have q1 : wb.cell? ⟨w.heap.size, 1, none⟩ = _ := range_gb Q7.out.1 hgb nH 1 _ rfl; have q2 : wb.cell? ⟨w.heap.size, 2, none⟩ = _ := range_gb Q7.out.1 hgb nH 2 _ rfl; have q3 : wb.cell? ⟨w.heap.size, 3, none⟩ = _ := range_gb Q7.out.1 hgb nH 3 _ rfl; have g0 := (gb_frozen_some hgb (by rw [show wr.cell? ⟨w.heap.size, 0, none⟩ = _ from Q7.out.1 0 _ rfl]; rfl) nH).trans (Q7.out.2 0 (by omega)); have g1 := (gb_frozen_some hgb (by rw [show wr.cell? ⟨w.heap.size, 1, none⟩ = _ from Q7.out.1 1 _ rfl]; rfl) nH).trans (Q7.out.2 1 (by omega)); have g2 := (gb_frozen_some hgb (by rw [show wr.cell? ⟨w.heap.size, 2, none⟩ = _ from Q7.out.1 2 _ rfl]; rfl) nH).trans (Q7.out.2 2 (by omega)); have g3 := (gb_frozen_some hgb (by rw [show wr.cell? ⟨w.heap.size, 3, none⟩ = _ from Q7.out.1 3 _ rfl]; rfl) nH).trans (Q7.out.2 3 (by omega)); have FA := hidden hr; have HB := hidden hHb; have GB := hidden hgb; clear hr hHb hgb CJ))
      refine bodyPost_ret (v := .agg #[.int .u64 r.x0, .int .u64 r.x1, .int .u64 r.x2, .int .u64 r.x3]) (by simp [results, Tryz.results72, go_sem, q0, q1, q2, q3]) rfl ⟨r, rfl, FA.out, (((HB.out.far nH).far nH).far nH).far nH, gb_box (gb_box (gb_box (gb_box (GW.out.trans GB.out) (Nat.le_refl _)) (Nat.le_refl _)) (Nat.le_refl _)) (Nat.le_refl _)⟩
end Go.Proofs.YtapieajkmpnmoaaGreatDoor.Li
namespace Go.Proofs.YtapieajkmpnmoaaGreatDoor.Li
open Go.RowKit Go.Shelf
attribute [local go_sem] Oper.semAt_some
set_option linter.unusedVariables false
set_option maxRecDepth 100000 in
set_option maxHeartbeats 2000000 in
theorem back1_in (F : Fence) (n : Nat) (hf : F.fn 112) (hro : F.round = none) (hn : 1 ≤ n) (l Bs D K : Nat) (hK : K ≤ 300) (zf : Nat → E4) (s : Nat → Bool) (J Jx : List Nat → World → Prop)
    (hY : ∀ pre (x : Nat) W, x < K → J pre W → pre.length < K → YieldAt F (n - 1) Tryz.prog l #[.int .i64 (x : Int), .agg #[.int .u64 (zf x).x0, .int .u64 (zf x).x1, .int .u64 (zf x).x2, .int .u64 (zf x).x3, .bool (s x)]] W fun e W' =>
      (e = .returned (.bool true) ∧ J (pre ++ [x]) W' ∧ KD D Bs W W') ∨ (e = .returned (.bool false) ∧ Jx (pre ++ [x]) W'))
    (W : World) (hBs : W.cell? ⟨Bs, 0, none⟩ = some (.slice (some ⟨D, 0, none⟩) K K)) (hc : ∀ x, x < K → W.rangeAt D (x * 5) [.int .u64 (zf x).x0, .int .u64 (zf x).x1, .int .u64 (zf x).x2, .int .u64 (zf x).x3] ∧ W.cell? ⟨D, x * 5 + 4, none⟩ = some (.bool (s x))) (h0 : J [] W) :
    CallsIn F n Tryz.prog 112 #[.func (.yield l) #[] #[], .pointer (some ⟨Bs, 0, none⟩)] W fun e W' => (∃ v, e = .returned v) ∧ ((∃ ys, ys = down K K ∧ J ys W') ∨ (∃ pre, True ∧ Jx pre W')) := by
  refine callsIn_of_wp Tryz.func112 rfl hf ?_ hro
  simp only [Tryz.ntmps112, List.size_toArray, List.length_cons, List.length_nil, Nat.reduceAdd, Nat.reduceSub, Array.replicate_succ, Array.replicate_zero, List.push_toArray, List.append_toArray, List.nil_append, List.cons_append]
  have w0 : IntKind.i64.wrap ((K : Int) - 1) = (K : Int) - 1 := IntWalk.i64_in _ (by omega)
  gi_wp2
  gi_loopw [3] (fun i wr => ∃ k : Nat, k ≤ K ∧ i = .int .i64 ((K : Int) - 1 - k) ∧ J (down K k) wr ∧ KD D Bs W wr)
    (fun i _ => (intOf i + 1).toNat)
  case atStart => exact ⟨0, Nat.zero_le _, by simp, h0, fun _ => rfl, rfl⟩
  case round =>
    obtain ⟨k, hk, rfl, hJs, hnx⟩ := hrel
    by_cases hlt : k < K
    · obtain ⟨x, hx⟩ : ∃ x : Nat, K - 1 - k = x := ⟨_, rfl⟩
      have hxK : x < K := by omega
      have hxi : (K : Int) - 1 - k = (x : Int) := by omega
      rw [hxi]
      have cb := hnx.2.trans hBs
      have c0 := (hnx.1 (x * 5)).trans ((hc x hxK).1 0 _ rfl)
      have c1 := (hnx.1 (x * 5 + 1)).trans ((hc x hxK).1 1 _ rfl)
      have c2 := (hnx.1 (x * 5 + 2)).trans ((hc x hxK).1 2 _ rfl)
      have c3 := (hnx.1 (x * 5 + 3)).trans ((hc x hxK).1 3 _ rfl)
      have c4 := (hnx.1 (x * 5 + 4)).trans (hc x hxK).2
      have x0 : (0 : Int) ≤ (x : Int) := by omega
      have x1 : (x : Int) < (K : Int) := by omega
      have wx : IntKind.i64.wrap ((x : Int) - 1) = (x : Int) - 1 := IntWalk.i64_in _ (by omega)
      obtain ⟨fn, tmps, assign, body, hy, hR⟩ := hY _ x wr hxK hJs (by rw [down_length]; exact hlt)
      gi_wp2
      refine hR.mono ?_
      rintro e W3 (⟨rfl, hJ3, hk3⟩ | ⟨rfl, hJx3⟩)
      · gi_wp2
        go_roundw
        case rel => exact ⟨k + 1, by omega, by simp; omega, by rw [down_succ, hx]; exact hJ3, hnx.trans hk3⟩
        case measure => (simp [intOf] <;> omega)
      · gi_wp2
        refine bodyPost_ret (results_none rfl _ _ _) rfl ?_
        exact ⟨⟨_, rfl⟩, .inr ⟨_, trivial, hJx3⟩⟩
    · obtain rfl : k = K := by omega
      have q0 : ¬ (0 : Int) ≤ (k : Int) - 1 - (k : Int) := by omega
      have q1 : (k : Int) - 1 - (k : Int) = -1 := by omega
      gi_wp2
      go_end0
      first | exact ⟨⟨_, rfl⟩, .inl ⟨_, rfl, hJs⟩⟩ | exact ⟨⟨_, rfl⟩, .inl hJs⟩
/-- slices.Backward over a row of piles, as the law of the range asks it -/
theorem back_stops (F : Fence) (n : Nat) (hf : F.fn 112) (hro : F.round = none) (hn : 1 ≤ n) (Bs D K : Nat) (hK : K ≤ 300) (zf : Nat → E4) (s : Nat → Bool) (w : World) (hBs : w.cell? ⟨Bs, 0, none⟩ = some (.slice (some ⟨D, 0, none⟩) K K)) (hc : ∀ x, x < K → w.rangeAt D (x * 5) [.int .u64 (zf x).x0, .int .u64 (zf x).x1, .int .u64 (zf x).x2, .int .u64 (zf x).x3] ∧ w.cell? ⟨D, x * 5 + 4, none⟩ = some (.bool (s x))) :
    SeqStopsK (α := {x : Nat // x < K}) F n Tryz.prog 112 #[.pointer (some ⟨Bs, 0, none⟩)] (fun y => #[.int .i64 (y.1 : Int), .agg #[.int .u64 (zf y.1).x0, .int .u64 (zf y.1).x1, .int .u64 (zf y.1).x2, .int .u64 (zf y.1).x3, .bool (s y.1)]]) (KD D Bs) (fun xs => xs.map (·.1) = down K K) (fun _ => True) K w := by
  intro l J Jx W hW hJ hJx hY h0
  refine (back1_in F n hf hro hn l Bs D K hK zf s (fun pre W => ∃ q : List {x : Nat // x < K}, q.map (·.1) = pre ∧ J q W) (fun pre W => ∃ q : List {x : Nat // x < K}, q.map (·.1) = pre ∧ Jx q W) ?_ W (cell_keep hBs hW) (fun x hx => ⟨range_bl (hc x hx).1 hW, cell_keep (hc x hx).2 hW⟩) ⟨[], rfl, h0⟩).mono ?_
  · rintro pre x W1 hx ⟨q, rfl, hq⟩ hl
    refine (hY q ⟨x, hx⟩ W1 hq (by simpa using hl)).mono ?_
    rintro e W' (⟨rfl, h1, h2⟩ | ⟨rfl, h1⟩)
    · exact .inl ⟨rfl, ⟨_, by simp, h1⟩, h2⟩
    · exact .inr ⟨rfl, _, by simp, h1⟩
  · rintro e W' ⟨h1, (⟨ys, h2, q, h3, h4⟩ | ⟨pre, -, q, h3, h4⟩)⟩
    · exact ⟨h1, .inl ⟨q, h3.trans h2, h4⟩⟩
    · exact ⟨h1, .inr ⟨q, trivial, h4⟩⟩
/-- between two rounds -/
structure Jn (w W : World) (H m : Nat) (b : Bool) (y : Nat → Int) : Prop where
  t3 : W.cell? ⟨w.heap.size, 0, none⟩ = some (.pointer (some ⟨H, 0, none⟩))
  t4 : W.cell? ⟨w.heap.size + 1, 0, none⟩ = some (.int .i64 (m : Int))
  t6 : W.rangeAt (w.heap.size + 1 + 1) 0 [.int .u64 0, .int .u64 0, .int .u64 0, .int .u64 0]
  f6 : ∀ j, j < 4 → W.frozen? ⟨w.heap.size + 1 + 1, j, none⟩ = false
  t7 : ∃ z : E4, W.rangeAt (w.heap.size + 1 + 1 + 1) 0 [.int .u64 z.x0, .int .u64 z.x1, .int .u64 z.x2, .int .u64 z.x3] ∧ z.ok ∧ ∀ t, lst z.n = lst (y t)
  f7 : ∀ j, j < 4 → W.frozen? ⟨w.heap.size + 1 + 1 + 1, j, none⟩ = false
  t8 : W.cell? ⟨w.heap.size + 1 + 1 + 1 + 1, 0, none⟩ = some (.bool b)
  f8 : W.frozen? ⟨w.heap.size + 1 + 1 + 1 + 1, 0, none⟩ = false
  hd : Hd W H
  tb : Tb W
  gr : w.grownBy W (some H)
  lt : H < w.heap.size
theorem some4 {W : World} {b j : Nat} {v0 v1 v2 v3 : Value} (h : W.rangeAt b 0 [v0, v1, v2, v3]) (hj : j < 4) : (W.cell? ⟨b, j, none⟩).isSome = true := by
  match j, hj with
  | 0, _ => rw [show W.cell? ⟨b, 0, none⟩ = _ from h 0 _ rfl]; rfl
  | 1, _ => rw [show W.cell? ⟨b, 1, none⟩ = _ from h 1 _ rfl]; rfl
  | 2, _ => rw [show W.cell? ⟨b, 2, none⟩ = _ from h 2 _ rfl]; rfl
  | 3, _ => rw [show W.cell? ⟨b, 3, none⟩ = _ from h 3 _ rfl]; rfl
theorem Jn.own {w W W' : World} {H m : Nat} {b : Bool} {y : Nat → Int} {row : Option Nat} (h : Jn w W H m b y) (hg : W.grownBy W' row) (hr : ∀ r, row = some r → w.heap.size ≤ r ∧ ∃ o : Obj, W.heap[r]? = some o ∧ o.isCells = false) : Jn w W' H m b y := by
  have hr2 : ∀ r, row = some r → ∃ o : Obj, W.heap[r]? = some o ∧ o.isCells = false := fun r e => (hr r e).2
  have k : ∀ (a : Addr) (v : Value), W.cell? a = some v → W'.cell? a = some v := fun a v hv => cell_kept hv hg hr2
  have fk : ∀ (a : Addr) (v : Value), W.cell? a = some v → W'.frozen? a = W.frozen? a := fun a v hv => frozen_kept hv hg hr2
  have rk : ∀ {b o : Nat} {cs : List Value}, W.rangeAt b o cs → W'.rangeAt b o cs := fun hh j v hv => k _ _ (hh j v hv)
  have fs : ∀ {b j : Nat}, (W.cell? ⟨b, j, none⟩).isSome = true → W'.frozen? ⟨b, j, none⟩ = W.frozen? ⟨b, j, none⟩ := fun hh => by
    obtain ⟨v, hv⟩ := Option.isSome_iff_exists.1 hh
    exact fk _ _ hv
  obtain ⟨z, h7, h7f⟩ := h.t7
  have hb : ∀ k, k < w.heap.size → some k ≠ row := fun k hk e => by have := (hr k e.symm).1; omega
  refine ⟨k _ _ h.t3, k _ _ h.t4, rk h.t6, fun j hj => (fs (some4 h.t6 hj)).trans (h.f6 j hj), ⟨z, rk h7, h7f⟩, fun j hj => (fs (some4 h7 hj)).trans (h.f7 j hj), k _ _ h.t8, (fk _ _ h.t8).trans h.f8, ?_, ?_, ?_, h.lt⟩
  · obtain ⟨x, z, a0, a1, b0, b1, a2⟩ := h.hd
    have hB := hg.block H h.hd.lt (hb H h.lt)
    exact ⟨x, z, k _ _ a0, k _ _ a1, (fk _ _ a0).trans b0, (fk _ _ a1).trans b1, fun o ho => (World.cell?_of_block hB).trans (a2 o ho)⟩
  · obtain ⟨a0, a1, a2, a3, a4, a5, a6, a7, a8, a9, a10, a11⟩ := h.tb
    exact ⟨k _ _ a0, k _ _ a1, k _ _ a2, k _ _ a3, k _ _ a4, k _ _ a5, k _ _ a6, k _ _ a7, k _ _ a8, k _ _ a9, k _ _ a10, k _ _ a11⟩
  · have a := h.gr
    exact ⟨hg.os.trans a.os, hg.tape.trans a.tape, hg.output.trans a.output, Nat.le_trans a.size hg.size, fun q hq hn => (hg.block q (Nat.lt_of_lt_of_le hq a.size) (hb q hq)).trans (a.block q hq hn)⟩
theorem Jn.hand {w W wa : World} {H m : Nat} {b : Bool} {y : Nat → Int} (h : Jn w W H m b y) (hg : W.grownBy wa (some H)) (hd : Hd wa H) (hHw : Hd w H) (hTw : Tb w) : Jn w wa H m b y := by
  have lH := h.lt
  have gr := h.gr.trans hg
  have rk : ∀ {q o : Nat} {cs : List Value}, W.rangeAt q o cs → q ≠ H → wa.rangeAt q o cs := fun hh hn => range_gb hh hg hn
  obtain ⟨z, h7, h7f⟩ := h.t7
  exact ⟨hg.cell h.t3 (fun e => absurd (Option.some.inj e) (show w.heap.size ≠ H by omega)), hg.cell h.t4 (fun e => absurd (Option.some.inj e) (show w.heap.size + 1 ≠ H by omega)), rk h.t6 (by omega), fun j hj => (gb_frozen_some hg (some4 h.t6 hj) (by omega)).trans (h.f6 j hj), ⟨z, rk h7 (by omega), h7f⟩, fun j hj => (gb_frozen_some hg (some4 h7 hj) (by omega)).trans (h.f7 j hj), hg.cell h.t8 (fun e => absurd (Option.some.inj e) (show w.heap.size + 1 + 1 + 1 + 1 ≠ H by omega)), (gb_frozen_some hg (by rw [h.t8]; rfl) (by omega)).trans h.f8, hd, hTw.keep0 gr (hHw.tb hTw), gr, lH⟩
/-- a new sum -/
theorem Jn.sum {w W : World} {H m : Nat} {b : Bool} {y y2 : Nat → Int} {r : E4} (h : Jn w W H m b y) (hr : r.ok ∧ ∀ t, lst r.n = lst (y2 t)) (hHw : Hd w H) (hTw : Tb w) : Jn w (setS W (w.heap.size + 1 + 1 + 1) 0 r) H m b y2 := by
  have lH := h.lt
  obtain ⟨z, h7, -⟩ := h.t7
  have nH : w.heap.size + 1 + 1 + 1 ≠ H := by omega
  have th : W.there (w.heap.size + 1 + 1 + 1) 0 4 := there4 h7 (fun j hj => by rw [Nat.zero_add]; exact h.f7 j hj)
  have o7 : ∀ (a : Addr) (v : Value), a.block ≠ w.heap.size + 1 + 1 + 1 → W.cell? a = some v → (setS W (w.heap.size + 1 + 1 + 1) 0 r).cell? a = some v := fun a v hq hv => by rw [setS_far0 _ _ _ _ _ hq]; exact hv
  have gr : w.grownBy (setS W (w.heap.size + 1 + 1 + 1) 0 r) (some H) := by unfold setS; exact gb_box (gb_box (gb_box (gb_box h.gr (by omega)) (by omega)) (by omega)) (by omega)
  refine ⟨o7 _ _ (by simp only; omega) h.t3, o7 _ _ (by simp only; omega) h.t4, fun j v hv => o7 _ _ (by simp only; omega) (h.t6 j v hv), fun j hj => by rw [setS_frozen]; exact h.f6 j hj, ⟨r, World.rangeAt_setCells_same W (w.heap.size + 1 + 1 + 1) 0 [.int .u64 r.x0, .int .u64 r.x1, .int .u64 r.x2, .int .u64 r.x3] th, hr⟩, fun j hj => by rw [setS_frozen]; exact h.f7 j hj, o7 _ _ (by simp only; omega) h.t8, by rw [setS_frozen]; exact h.f8, ?_, hTw.keep0 gr (hHw.tb hTw), gr, lH⟩
  unfold setS; exact (((h.hd.far nH).far nH).far nH).far nH
theorem Jn.mark {w W : World} {H m : Nat} {b : Bool} {y : Nat → Int} (h : Jn w W H m b y) (hHw : Hd w H) (hTw : Tb w) : Jn w (W.setCell ⟨w.heap.size + 1 + 1 + 1 + 1, 0, none⟩ (.bool true)) H m true y := by
  have lH := h.lt
  obtain ⟨z, h7, h7f⟩ := h.t7
  have o7 : ∀ (a : Addr) (v : Value), a.block ≠ w.heap.size + 1 + 1 + 1 + 1 → W.cell? a = some v → (W.setCell ⟨w.heap.size + 1 + 1 + 1 + 1, 0, none⟩ (.bool true)).cell? a = some v := fun a v hq hv => by rw [World.cell?_setCell_far _ _ _ _ (fun e => hq e.symm)]; exact hv
  have gr : w.grownBy (W.setCell ⟨w.heap.size + 1 + 1 + 1 + 1, 0, none⟩ (.bool true)) (some H) := gb_box h.gr (by omega)
  exact ⟨o7 _ _ (by simp only; omega) h.t3, o7 _ _ (by simp only; omega) h.t4, fun j v hv => o7 _ _ (by simp only; omega) (h.t6 j v hv), fun j hj => by rw [World.frozen?_setCell]; exact h.f6 j hj, ⟨z, fun j v hv => o7 _ _ (by simp only; omega) (h7 j v hv), h7f⟩, fun j hj => by rw [World.frozen?_setCell]; exact h.f7 j hj, World.cell?_setCell_same _ _ _ h.t8, by rw [World.frozen?_setCell]; exact h.f8, h.hd.far (by omega), hTw.keep0 gr (hHw.tb hTw), gr, lH⟩
/-- what is known behind some rounds -/
def JI (w W : World) (H m : Nat) (xx : Nat → Nat → Int) (pre : List Nat) : Prop := ∃ b y, Jn w W H m b y ∧ (b = false → ∀ t, lst (y t) = zero4) ∧ ∀ t, lst (y t) = lst (ac m xx pre t)
theorem KD.setS4 {D Bs q o : Nat} {W : World} {r : E4} (h1 : q ≠ D) (h2 : q ≠ Bs) : KD D Bs W (setS W q o r) := ⟨fun _ => setS_far0 _ _ _ _ _ (fun e => h1 e.symm), setS_far0 _ _ _ _ _ (fun e => h2 e.symm)⟩
theorem keeps_setS (W : World) (q o : Nat) (r : E4) (n : Nat) : KeepsFrom n W (setS W q o r) := by
  unfold setS
  exact (((KeepsOthers.setCell _ _ _).trans (KeepsOthers.setCell _ _ _)).trans ((KeepsOthers.setCell _ _ _).trans (KeepsOthers.setCell _ _ _))).from _
end Go.Proofs.YtapieajkmpnmoaaGreatDoor.Li
namespace Go.Proofs.YtapieajkmpnmoaaGreatDoor.Li
open Go.RowKit Go.Shelf
attribute [local go_sem] Oper.semAt_some
set_option linter.unusedVariables false
theorem back_any (D K : Nat) (w : World) : Calls Tryz.prog 110 #[.slice (some ⟨D, 0, none⟩) K K] w fun e w' => e = .returned (.func (.func 112) #[] #[.pointer (some ⟨w.heap.size, 0, none⟩)]) ∧ w' = w.alloc (.cells #[.slice (some ⟨D, 0, none⟩) K K] 176) := by
  go_enter Tryz.func110, Tryz.ntmps110
  go_wp2_with fail
  exact bodyPost_ret (v := .func (.func 112) #[] #[.pointer (some ⟨w.heap.size, 0, none⟩)]) (by simp [results, Tryz.results110, go_sem]) rfl ⟨rfl, rfl⟩
set_option maxRecDepth 100000 in
set_option maxHeartbeats 4000000 in
theorem join_any (H m D K : Nat) (s : Nat → Bool) (xx : Nat → Nat → Int) (w : World) (hm : m ≤ 8) (hK : K ≤ 254) (hT : Tb w) (hH : Hd w H) (hP : Pl w D K s xx) (neDH : D ≠ H) :
    Calls Tryz.prog 100 #[.pointer (some ⟨H, 0, none⟩), .int .i64 (m : Int), .slice (some ⟨D, 0, none⟩) K K] w fun e w' => Hp w w' H e (fun t => tot (fun i => 2 ^ (m * i) * xx i t) K) := by
  have hc' : ∀ i, ∃ z : E4, i < K → w.rangeAt D (i * 5) [.int .u64 z.x0, .int .u64 z.x1, .int .u64 z.x2, .int .u64 z.x3] ∧ w.cell? ⟨D, i * 5 + 4, none⟩ = some (.bool (s i)) ∧ (s i = true → z.ok ∧ ∀ t, lst z.n = lst (xx i t)) := fun i => by
    by_cases hi : i < K
    · obtain ⟨z, h⟩ := hP.c i hi
      exact ⟨z, fun _ => h⟩
    · exact ⟨zero4, fun h => absurd h hi⟩
  obtain ⟨zf, hg⟩ := Classical.axiomOfChoice hc'
  clear hc'
  have BC := hidden (fun x => callsIn_wide (n := 2) |>.2 (back_any D K x))
  refine callsIn_wide (n := 3) |>.1 ?_
  refine callsIn_of_wp_marks Tryz.func100 rfl trivial ?_ rfl
  simp only [Tryz.ntmps100, List.size_toArray, List.length_cons, List.length_nil, Nat.reduceAdd, Nat.reduceSub, Array.replicate_succ, Array.replicate_zero, List.push_toArray, List.append_toArray, List.nil_append, List.cons_append]
  gi_wp2_with (refine ⟨trivial, ?_⟩; gi_at_call 110; refine (BC.out _).mono ?_; rintro e w' ⟨rfl, rfl⟩)
  have hsz : ((((((w.alloc (.cells #[.pointer (some ⟨H, 0, none⟩)] 150)).alloc (.cells #[.int .i64 (m : Int)] 3)).alloc (.cells #[.int .u64 0, .int .u64 0, .int .u64 0, .int .u64 0] 51)).alloc (.cells #[.int .u64 0, .int .u64 0, .int .u64 0, .int .u64 0] 51)).alloc (.cells #[.bool false] 4)).alloc (.cells #[.slice (some ⟨D, 0, none⟩) K K] 176)).heap.size = w.heap.size + 1 + 1 + 1 + 1 + 1 + 1 := by simp only [World.size_alloc]
  have c3 : ((((((w.alloc (.cells #[.pointer (some ⟨H, 0, none⟩)] 150)).alloc (.cells #[.int .i64 (m : Int)] 3)).alloc (.cells #[.int .u64 0, .int .u64 0, .int .u64 0, .int .u64 0] 51)).alloc (.cells #[.int .u64 0, .int .u64 0, .int .u64 0, .int .u64 0] 51)).alloc (.cells #[.bool false] 4)).alloc (.cells #[.slice (some ⟨D, 0, none⟩) K K] 176)).cell? ⟨w.heap.size, 0, none⟩ = some (.pointer (some ⟨H, 0, none⟩)) := by go_simp
  have c4 : ((((((w.alloc (.cells #[.pointer (some ⟨H, 0, none⟩)] 150)).alloc (.cells #[.int .i64 (m : Int)] 3)).alloc (.cells #[.int .u64 0, .int .u64 0, .int .u64 0, .int .u64 0] 51)).alloc (.cells #[.int .u64 0, .int .u64 0, .int .u64 0, .int .u64 0] 51)).alloc (.cells #[.bool false] 4)).alloc (.cells #[.slice (some ⟨D, 0, none⟩) K K] 176)).cell? ⟨w.heap.size + 1, 0, none⟩ = some (.int .i64 (m : Int)) := by go_simp
  have a0 : ((((((w.alloc (.cells #[.pointer (some ⟨H, 0, none⟩)] 150)).alloc (.cells #[.int .i64 (m : Int)] 3)).alloc (.cells #[.int .u64 0, .int .u64 0, .int .u64 0, .int .u64 0] 51)).alloc (.cells #[.int .u64 0, .int .u64 0, .int .u64 0, .int .u64 0] 51)).alloc (.cells #[.bool false] 4)).alloc (.cells #[.slice (some ⟨D, 0, none⟩) K K] 176)).cell? ⟨w.heap.size + 1 + 1, 0, none⟩ = some (.int .u64 0) := by go_simp
  have a1 : ((((((w.alloc (.cells #[.pointer (some ⟨H, 0, none⟩)] 150)).alloc (.cells #[.int .i64 (m : Int)] 3)).alloc (.cells #[.int .u64 0, .int .u64 0, .int .u64 0, .int .u64 0] 51)).alloc (.cells #[.int .u64 0, .int .u64 0, .int .u64 0, .int .u64 0] 51)).alloc (.cells #[.bool false] 4)).alloc (.cells #[.slice (some ⟨D, 0, none⟩) K K] 176)).cell? ⟨w.heap.size + 1 + 1, 1, none⟩ = some (.int .u64 0) := by go_simp
  have a2 : ((((((w.alloc (.cells #[.pointer (some ⟨H, 0, none⟩)] 150)).alloc (.cells #[.int .i64 (m : Int)] 3)).alloc (.cells #[.int .u64 0, .int .u64 0, .int .u64 0, .int .u64 0] 51)).alloc (.cells #[.int .u64 0, .int .u64 0, .int .u64 0, .int .u64 0] 51)).alloc (.cells #[.bool false] 4)).alloc (.cells #[.slice (some ⟨D, 0, none⟩) K K] 176)).cell? ⟨w.heap.size + 1 + 1, 2, none⟩ = some (.int .u64 0) := by go_simp
  have a3 : ((((((w.alloc (.cells #[.pointer (some ⟨H, 0, none⟩)] 150)).alloc (.cells #[.int .i64 (m : Int)] 3)).alloc (.cells #[.int .u64 0, .int .u64 0, .int .u64 0, .int .u64 0] 51)).alloc (.cells #[.int .u64 0, .int .u64 0, .int .u64 0, .int .u64 0] 51)).alloc (.cells #[.bool false] 4)).alloc (.cells #[.slice (some ⟨D, 0, none⟩) K K] 176)).cell? ⟨w.heap.size + 1 + 1, 3, none⟩ = some (.int .u64 0) := by go_simp
  have b0 : ((((((w.alloc (.cells #[.pointer (some ⟨H, 0, none⟩)] 150)).alloc (.cells #[.int .i64 (m : Int)] 3)).alloc (.cells #[.int .u64 0, .int .u64 0, .int .u64 0, .int .u64 0] 51)).alloc (.cells #[.int .u64 0, .int .u64 0, .int .u64 0, .int .u64 0] 51)).alloc (.cells #[.bool false] 4)).alloc (.cells #[.slice (some ⟨D, 0, none⟩) K K] 176)).cell? ⟨w.heap.size + 1 + 1 + 1, 0, none⟩ = some (.int .u64 0) := by go_simp
  have b1 : ((((((w.alloc (.cells #[.pointer (some ⟨H, 0, none⟩)] 150)).alloc (.cells #[.int .i64 (m : Int)] 3)).alloc (.cells #[.int .u64 0, .int .u64 0, .int .u64 0, .int .u64 0] 51)).alloc (.cells #[.int .u64 0, .int .u64 0, .int .u64 0, .int .u64 0] 51)).alloc (.cells #[.bool false] 4)).alloc (.cells #[.slice (some ⟨D, 0, none⟩) K K] 176)).cell? ⟨w.heap.size + 1 + 1 + 1, 1, none⟩ = some (.int .u64 0) := by go_simp
  have b2 : ((((((w.alloc (.cells #[.pointer (some ⟨H, 0, none⟩)] 150)).alloc (.cells #[.int .i64 (m : Int)] 3)).alloc (.cells #[.int .u64 0, .int .u64 0, .int .u64 0, .int .u64 0] 51)).alloc (.cells #[.int .u64 0, .int .u64 0, .int .u64 0, .int .u64 0] 51)).alloc (.cells #[.bool false] 4)).alloc (.cells #[.slice (some ⟨D, 0, none⟩) K K] 176)).cell? ⟨w.heap.size + 1 + 1 + 1, 2, none⟩ = some (.int .u64 0) := by go_simp
  have b3 : ((((((w.alloc (.cells #[.pointer (some ⟨H, 0, none⟩)] 150)).alloc (.cells #[.int .i64 (m : Int)] 3)).alloc (.cells #[.int .u64 0, .int .u64 0, .int .u64 0, .int .u64 0] 51)).alloc (.cells #[.int .u64 0, .int .u64 0, .int .u64 0, .int .u64 0] 51)).alloc (.cells #[.bool false] 4)).alloc (.cells #[.slice (some ⟨D, 0, none⟩) K K] 176)).cell? ⟨w.heap.size + 1 + 1 + 1, 3, none⟩ = some (.int .u64 0) := by go_simp
  have c8 : ((((((w.alloc (.cells #[.pointer (some ⟨H, 0, none⟩)] 150)).alloc (.cells #[.int .i64 (m : Int)] 3)).alloc (.cells #[.int .u64 0, .int .u64 0, .int .u64 0, .int .u64 0] 51)).alloc (.cells #[.int .u64 0, .int .u64 0, .int .u64 0, .int .u64 0] 51)).alloc (.cells #[.bool false] 4)).alloc (.cells #[.slice (some ⟨D, 0, none⟩) K K] 176)).cell? ⟨w.heap.size + 1 + 1 + 1 + 1, 0, none⟩ = some (.bool false) := by go_simp
  have c9 : ((((((w.alloc (.cells #[.pointer (some ⟨H, 0, none⟩)] 150)).alloc (.cells #[.int .i64 (m : Int)] 3)).alloc (.cells #[.int .u64 0, .int .u64 0, .int .u64 0, .int .u64 0] 51)).alloc (.cells #[.int .u64 0, .int .u64 0, .int .u64 0, .int .u64 0] 51)).alloc (.cells #[.bool false] 4)).alloc (.cells #[.slice (some ⟨D, 0, none⟩) K K] 176)).cell? ⟨w.heap.size + 1 + 1 + 1 + 1 + 1, 0, none⟩ = some (.slice (some ⟨D, 0, none⟩) K K) := by go_simp
  have f6 : ∀ j, j < 4 → ((((((w.alloc (.cells #[.pointer (some ⟨H, 0, none⟩)] 150)).alloc (.cells #[.int .i64 (m : Int)] 3)).alloc (.cells #[.int .u64 0, .int .u64 0, .int .u64 0, .int .u64 0] 51)).alloc (.cells #[.int .u64 0, .int .u64 0, .int .u64 0, .int .u64 0] 51)).alloc (.cells #[.bool false] 4)).alloc (.cells #[.slice (some ⟨D, 0, none⟩) K K] 176)).frozen? ⟨w.heap.size + 1 + 1, j, none⟩ = false := fun j _ => by go_simp
  have f7 : ∀ j, j < 4 → ((((((w.alloc (.cells #[.pointer (some ⟨H, 0, none⟩)] 150)).alloc (.cells #[.int .i64 (m : Int)] 3)).alloc (.cells #[.int .u64 0, .int .u64 0, .int .u64 0, .int .u64 0] 51)).alloc (.cells #[.int .u64 0, .int .u64 0, .int .u64 0, .int .u64 0] 51)).alloc (.cells #[.bool false] 4)).alloc (.cells #[.slice (some ⟨D, 0, none⟩) K K] 176)).frozen? ⟨w.heap.size + 1 + 1 + 1, j, none⟩ = false := fun j _ => by go_simp
  have f8 : ((((((w.alloc (.cells #[.pointer (some ⟨H, 0, none⟩)] 150)).alloc (.cells #[.int .i64 (m : Int)] 3)).alloc (.cells #[.int .u64 0, .int .u64 0, .int .u64 0, .int .u64 0] 51)).alloc (.cells #[.int .u64 0, .int .u64 0, .int .u64 0, .int .u64 0] 51)).alloc (.cells #[.bool false] 4)).alloc (.cells #[.slice (some ⟨D, 0, none⟩) K K] 176)).frozen? ⟨w.heap.size + 1 + 1 + 1 + 1, 0, none⟩ = false := by go_simp
  have BB : Below w.heap.size w ((((((w.alloc (.cells #[.pointer (some ⟨H, 0, none⟩)] 150)).alloc (.cells #[.int .i64 (m : Int)] 3)).alloc (.cells #[.int .u64 0, .int .u64 0, .int .u64 0, .int .u64 0] 51)).alloc (.cells #[.int .u64 0, .int .u64 0, .int .u64 0, .int .u64 0] 51)).alloc (.cells #[.bool false] 4)).alloc (.cells #[.slice (some ⟨D, 0, none⟩) K K] 176)) := bl_trans (bl_trans (bl_trans (bl_trans (bl_trans (bl_alloc w _) (bl_alloc _ _)) (bl_alloc _ _)) (bl_alloc _ _)) (bl_alloc _ _)) (bl_alloc _ _)
  obtain ⟨W0, hW0⟩ : ∃ W0, ((((((w.alloc (.cells #[.pointer (some ⟨H, 0, none⟩)] 150)).alloc (.cells #[.int .i64 (m : Int)] 3)).alloc (.cells #[.int .u64 0, .int .u64 0, .int .u64 0, .int .u64 0] 51)).alloc (.cells #[.int .u64 0, .int .u64 0, .int .u64 0, .int .u64 0] 51)).alloc (.cells #[.bool false] 4)).alloc (.cells #[.slice (some ⟨D, 0, none⟩) K K] 176)) = W0 := ⟨_, rfl⟩
  rw [hW0] at hsz c3 c4 a0 a1 a2 a3 b0 b1 b2 b3 c8 c9 f8 BB ⊢
  simp only [hW0] at f6 f7
  clear hW0 BC
  have lH := hH.lt
  have lD := hP.lt
  have J0 : Jn w W0 H m false (fun _ => 0) := ⟨c3, c4, range4 (p := ⟨0, 0, 0, 0⟩) a0 a1 a2 a3, f6, ⟨⟨0, 0, 0, 0⟩, range4 b0 b1 b2 b3, z4ok, fun t => congrArg lst z4n⟩, f7, c8, f8, hH.keep BB, hT.keep BB, gbI BB _, lH⟩
  refine wpIn_rangeFunc_ownH (α := {x : Nat // x < K}) rfl (by omega) (gf := 112) (lb := #[.pointer (some ⟨w.heap.size + 1 + 1 + 1 + 1 + 1, 0, none⟩)]) rfl trivial (enters_of Tryz.func112 (by kernel_rfl) rfl)
    (back_stops Fence.wide 2 trivial rfl (by omega) (w.heap.size + 1 + 1 + 1 + 1 + 1) D K (by omega) zf s W0 c9 (fun x hx => ⟨range_bl (hg x hx).1 BB, cell_keep (hg x hx).2.1 BB⟩)) (fun h1 h2 => h1.trans h2) (fun W l o o' hl _ _ _ => KD.putObj (n := W0.heap.size) (by omega) (by omega) W l o o' hl) (Below.refl _ _) (fun _ => rfl)
    (fun pre W => JI w W H m xx (pre.map (·.1)) ∧ w.heap.size + 1 + 1 + 1 + 1 + 1 + 1 ≤ W.heap.size)
    (fun _ _ _ => False)
    (fun pre X Y row hs hgr hr => by
      obtain ⟨⟨b, y, h1, hbz, h2⟩, h3⟩ := hs
      exact ⟨⟨b, y, h1.own hgr (fun r e => ⟨by have := (hr r e).1; omega, (hr r e).2⟩), hbz, h2⟩, Nat.le_trans h3 hgr.size⟩)
    (fun _ _ _ _ _ hs _ _ => hs)
    ⟨⟨false, _, J0, fun _ _ => zero_lst, fun t => rfl⟩, by omega⟩
    (fun x a' W => ∃ Bx, w.heap.size + 1 + 1 + 1 + 1 + 1 + 1 ≤ Bx ∧ W.rangeAt Bx 0 [.int .u64 (zf x.1).x0, .int .u64 (zf x.1).x1, .int .u64 (zf x.1).x2, .int .u64 (zf x.1).x3] ∧ W.cell? ⟨Bx, 4, none⟩ = some (.bool (s x.1)) ∧ a' = { tmps := #[.pointer (some ⟨H, 0, none⟩), .int .i64 (m : Int), .slice (some ⟨D, 0, none⟩) K K, .pointer (some ⟨w.heap.size, 0, none⟩), .pointer (some ⟨w.heap.size + 1, 0, none⟩), undef, .pointer (some ⟨w.heap.size + 1 + 1, 0, none⟩), .pointer (some ⟨w.heap.size + 1 + 1 + 1, 0, none⟩), .pointer (some ⟨w.heap.size + 1 + 1 + 1 + 1, 0, none⟩), undef, .pointer (some ⟨Bx, 0, none⟩), .slice (some ⟨D, 0, none⟩) K K, .func (.func 112) #[] #[.pointer (some ⟨w.heap.size + 1 + 1 + 1 + 1 + 1, 0, none⟩)], .int .i64 (x.1 : Int), .agg #[.int .u64 (zf x.1).x0, .int .u64 (zf x.1).x1, .int .u64 (zf x.1).x2, .int .u64 (zf x.1).x3, .bool (s x.1)], undef, undef, undef, undef, undef, undef, undef, undef, undef, undef, undef, undef, undef, undef, undef, undef], defers := [] })
    (fun x a' _ X Y row hs hgr hr => by
      obtain ⟨Bx, h1, h2, h3, h4⟩ := hs
      exact ⟨Bx, h1, fun j v hv => cell_kept (h2 j v hv) hgr (fun r e => (hr r e).2), cell_kept h3 hgr (fun r e => (hr r e).2), h4⟩)
    ?assign ?body ?done ?stop
  case assign =>
    rintro l pre x W K0 ⟨⟨b, y, h1, hbz, h2⟩, h3⟩ hK0
    have nb := bl_alloc W (.cells #[.int .u64 (zf x.1).x0, .int .u64 (zf x.1).x1, .int .u64 (zf x.1).x2, .int .u64 (zf x.1).x3, .bool (s x.1)] 181)
    have q0 : (W.alloc (.cells #[.int .u64 (zf x.1).x0, .int .u64 (zf x.1).x1, .int .u64 (zf x.1).x2, .int .u64 (zf x.1).x3, .bool (s x.1)] 181)).cell? ⟨W.heap.size, 0, none⟩ = some (.int .u64 (zf x.1).x0) := by go_simp
    have q1 : (W.alloc (.cells #[.int .u64 (zf x.1).x0, .int .u64 (zf x.1).x1, .int .u64 (zf x.1).x2, .int .u64 (zf x.1).x3, .bool (s x.1)] 181)).cell? ⟨W.heap.size, 1, none⟩ = some (.int .u64 (zf x.1).x1) := by go_simp
    have q2 : (W.alloc (.cells #[.int .u64 (zf x.1).x0, .int .u64 (zf x.1).x1, .int .u64 (zf x.1).x2, .int .u64 (zf x.1).x3, .bool (s x.1)] 181)).cell? ⟨W.heap.size, 2, none⟩ = some (.int .u64 (zf x.1).x2) := by go_simp
    have q3 : (W.alloc (.cells #[.int .u64 (zf x.1).x0, .int .u64 (zf x.1).x1, .int .u64 (zf x.1).x2, .int .u64 (zf x.1).x3, .bool (s x.1)] 181)).cell? ⟨W.heap.size, 3, none⟩ = some (.int .u64 (zf x.1).x3) := by go_simp
    have q4 : (W.alloc (.cells #[.int .u64 (zf x.1).x0, .int .u64 (zf x.1).x1, .int .u64 (zf x.1).x2, .int .u64 (zf x.1).x3, .bool (s x.1)] 181)).cell? ⟨W.heap.size, 4, none⟩ = some (.bool (s x.1)) := by go_simp
    gi_wp2
    exact hK0 _ _ ((KeepsOthers.alloc _ _).from _) ⟨fun o => (bcell nb).1 D o (by have := h1.gr.size; omega), (bcell nb).1 _ 0 (by omega)⟩ ⟨⟨b, y, h1.own (gbI nb none) (fun r e => by cases e), hbz, h2⟩, Nat.le_trans h3 nb.size⟩ ⟨W.heap.size, h3, range4 q0 q1 q2 q3, q4, rfl⟩
  case body =>
    rintro l pre x a' W hl ⟨r, hr⟩ ⟨⟨b, y, h1, hbz, h2⟩, h3⟩ ⟨Bx, hBx, x0, x1, rfl⟩ hlt
    have t3 := h1.t3
    have t4 := h1.t4
    have t8 := h1.t8
    have hzq := (hg x.1 x.2).2.2
    generalize zf x.1 = zx at x0 hzq ⊢
    cases b with
    | false =>
      have hJ := h1
      have hy1 : ∀ t, lst (y t) = lst (2 ^ m * ac m xx (List.map (fun x => x.val) pre) t) := fun t => by
        have e := hbz rfl t
        rw [e, lst_twoM (rfl : lst (2 ^ m) = lst (2 ^ m)) ((h2 t).symm.trans (e.trans zero_lst.symm)), Int.mul_zero, zero_lst]
      have X0 : W.cell? ⟨Bx, 0, none⟩ = some (.int .u64 zx.x0) := x0 0 _ rfl
      have X1 : W.cell? ⟨Bx, 1, none⟩ = some (.int .u64 zx.x1) := x0 1 _ rfl
      have X2 : W.cell? ⟨Bx, 2, none⟩ = some (.int .u64 zx.x2) := x0 2 _ rfl
      have X3 : W.cell? ⟨Bx, 3, none⟩ = some (.int .u64 zx.x3) := x0 3 _ rfl
      have X4 := x1
      have KF := KeepsFrom.refl W0.heap.size W
      have KK : KD D (w.heap.size + 1 + 1 + 1 + 1 + 1) W W := ⟨fun _ => rfl, rfl⟩
      have SZ := h3
      clear x0 x1
      cases hsx : s x.1 with
      | false =>
        rw [hsx] at X4
        clear t3 t4 t8
        have t8 := hJ.t8
        have fin : ∀ t, lst (y t) = lst (ac m xx (List.map (fun x => x.val) (pre ++ [x])) t) := fun t => by rw [List.map_append, List.map_cons, List.map_nil, ac_snoc, hy1 t]; have := hP.z x.1 x.2 hsx t; rw [← Int.add_zero (2 ^ m * ac m xx (List.map (fun x => x.val) pre) t)]; exact lst_two (by rw [Int.add_zero]) (zero_lst.trans this.symm)
        gi_wp2
        exact ⟨by first | exact KF | (rw [← hsz]; exact KF), KK, ⟨_, _, hJ, (fun _ => hbz (by simp)), fin⟩, SZ⟩
      | true =>
        rw [hsx] at X4
        clear t3 t4 t8
        have t3 := hJ.t3
        have t8 := hJ.t8
        have hzx := hzq hsx
        obtain ⟨z7, r7, hz7⟩ := id hJ.t7
        have s0 : W.cell? ⟨w.heap.size + 1 + 1 + 1, 0, none⟩ = some (.int .u64 z7.x0) := r7 0 _ rfl
        have s1 : W.cell? ⟨w.heap.size + 1 + 1 + 1, 1, none⟩ = some (.int .u64 z7.x1) := r7 1 _ rfl
        have s2 : W.cell? ⟨w.heap.size + 1 + 1 + 1, 2, none⟩ = some (.int .u64 z7.x2) := r7 2 _ rfl
        have s3 : W.cell? ⟨w.heap.size + 1 + 1 + 1, 3, none⟩ = some (.int .u64 z7.x3) := r7 3 _ rfl
        obtain ⟨r, hr⟩ : ∃ r, lst (z7.n + zx.n) = r := ⟨_, rfl⟩
        have CA := callsIn_wide (n := 0) |>.2 (hadd H z7 zx W hJ.tb hJ.hd hz7.1 hzx.1)
        rw [hr] at CA
        unfold E4.v at CA
        have HR : Hid (r.ok ∧ ∀ t, lst r.n = lst (y t + xx x.1 t)) := hidden (by rw [← hr]; exact ⟨lst_ok _, fun t => by rw [lst_n']; exact lst_two (hz7.2 t) (hzx.2 t)⟩)
        clear hr r7 hz7
        gi_wp2_with (refine ⟨trivial, ?_⟩; gi_at_call 55; refine (CallsIn.inRound l CA).mono ?_; rintro e wa ⟨rfl, hda, hga⟩; have JA := hJ.hand hga hda hH hT; obtain ⟨z8, r8, -⟩ := id JA.t7; have u0 : wa.cell? ⟨w.heap.size + 1 + 1 + 1, 0, none⟩ = some (.int .u64 z8.x0) := r8 0 _ rfl; have u1 : wa.cell? ⟨w.heap.size + 1 + 1 + 1, 1, none⟩ = some (.int .u64 z8.x1) := r8 1 _ rfl; have u2 : wa.cell? ⟨w.heap.size + 1 + 1 + 1, 2, none⟩ = some (.int .u64 z8.x2) := r8 2 _ rfl; have u3 : wa.cell? ⟨w.heap.size + 1 + 1 + 1, 3, none⟩ = some (.int .u64 z8.x3) := r8 3 _ rfl; have v0 := JA.f7 0 (by omega); have v1 := JA.f7 1 (by omega); have v2 := JA.f7 2 (by omega); have v3 := JA.f7 3 (by omega); have u8 := JA.t8; have v8 := JA.f8; have HJA := hidden JA; have HGA := hidden hga; clear CA JA r8 hda hga s0 s1 s2 s3 X0 X1 X2 X3 X4 t3 t8)
        have hga := HGA.out
        have J2 : Jn w ((setS wa (w.heap.size + 1 + 1 + 1) 0 r).setCell ⟨w.heap.size + 1 + 1 + 1 + 1, 0, none⟩ (.bool true)) H m true (fun t => y t + xx x.1 t) := (HJA.out.sum HR.out hH hT).mark hH hT
        unfold setS at J2
        exact ⟨(KF.trans (KeepsFrom.of_grownBy hga (fun q e => by have := Option.some.inj e; omega))).trans ((keeps_setS wa _ 0 r _).trans ((KeepsOthers.setCell _ _ _).from _)), ((KK.trans (KD.gb hga (by omega) (by omega) neDH (by omega))).trans (KD.setS4 (by omega) (by omega))).trans (KD.set (by omega) (by omega)), ⟨true, _, J2, (fun e => by simp at e), fun t => by rw [List.map_append, List.map_cons, List.map_nil, ac_snoc]; exact lst_two (hy1 t) rfl⟩, by have := hga.size; simp; omega⟩
    | true =>
      gi_wp2
      gi_loopw [17] (fun kv W' => ∃ k : Nat, k ≤ m ∧ kv = .int .i64 k ∧ ∃ y', Jn w W' H m true y' ∧ (∀ t, lst (y' t) = lst (2 ^ k * y t)) ∧ W'.rangeAt Bx 0 [.int .u64 zx.x0, .int .u64 zx.x1, .int .u64 zx.x2, .int .u64 zx.x3] ∧ W'.cell? ⟨Bx, 4, none⟩ = some (.bool (s x.1)) ∧ KeepsFrom W0.heap.size W W' ∧ KD D (w.heap.size + 1 + 1 + 1 + 1 + 1) W W' ∧ w.heap.size + 1 + 1 + 1 + 1 + 1 + 1 ≤ W'.heap.size) (fun k _ => m - (intOf k).toNat)
      case atStart => exact ⟨0, Nat.zero_le _, rfl, y, h1, fun t => by rw [Int.pow_zero, Int.one_mul], x0, x1, KeepsFrom.refl _ _, ⟨fun _ => rfl, rfl⟩, h3⟩
      case round =>
        obtain ⟨k, hk, rfl, y', hJ, hyk, XR, X4, KF, KK, SZ⟩ := hrel
        by_cases hkm : k < m
        · have k0 : (k : Int) < (m : Int) := by omega
          have w9 : IntKind.i64.wrap ((k : Int) + 1) = (k : Int) + 1 := IntWalk.i64_in _ (by omega)
          clear t3 t4 t8 x0 x1
          have t3 := hJ.t3
          obtain ⟨z7, r7, hz7⟩ := id hJ.t7
          have s0 : wr.cell? ⟨w.heap.size + 1 + 1 + 1, 0, none⟩ = some (.int .u64 z7.x0) := r7 0 _ rfl
          have s1 : wr.cell? ⟨w.heap.size + 1 + 1 + 1, 1, none⟩ = some (.int .u64 z7.x1) := r7 1 _ rfl
          have s2 : wr.cell? ⟨w.heap.size + 1 + 1 + 1, 2, none⟩ = some (.int .u64 z7.x2) := r7 2 _ rfl
          have s3 : wr.cell? ⟨w.heap.size + 1 + 1 + 1, 3, none⟩ = some (.int .u64 z7.x3) := r7 3 _ rfl
          obtain ⟨r, hr⟩ : ∃ r, lst (z7.n + z7.n) = r := ⟨_, rfl⟩
          have CA := callsIn_wide (n := 0) |>.2 (hdouble H z7 wr hJ.tb hJ.hd hz7.1)
          rw [hr] at CA
          unfold E4.v at CA
          have HR : Hid (r.ok ∧ ∀ t, lst r.n = lst (2 ^ (k + 1) * y t)) := hidden (by
            rw [← hr]
            refine ⟨lst_ok _, fun t => ?_⟩
            have e7 := (hz7.2 t).trans (hyk t)
            rw [lst_n', lst_two e7 e7, ← Int.two_mul, ← Int.mul_assoc, Int.pow_succ, Int.mul_comm 2])
          clear hr r7 hz7
          gi_wp2_with (refine ⟨trivial, ?_⟩; gi_at_call 109; refine (CallsIn.inRound l CA).mono ?_; rintro e wa ⟨rfl, hda, hga⟩; have JA := hJ.hand hga hda hH hT; obtain ⟨z8, r8, -⟩ := id JA.t7; have u0 : wa.cell? ⟨w.heap.size + 1 + 1 + 1, 0, none⟩ = some (.int .u64 z8.x0) := r8 0 _ rfl; have u1 : wa.cell? ⟨w.heap.size + 1 + 1 + 1, 1, none⟩ = some (.int .u64 z8.x1) := r8 1 _ rfl; have u2 : wa.cell? ⟨w.heap.size + 1 + 1 + 1, 2, none⟩ = some (.int .u64 z8.x2) := r8 2 _ rfl; have u3 : wa.cell? ⟨w.heap.size + 1 + 1 + 1, 3, none⟩ = some (.int .u64 z8.x3) := r8 3 _ rfl; have v0 := JA.f7 0 (by omega); have v1 := JA.f7 1 (by omega); have v2 := JA.f7 2 (by omega); have v3 := JA.f7 3 (by omega); have HJA := hidden JA; have HGA := hidden hga; clear CA JA r8 hda hga s0 s1 s2 s3)
          have hga := HGA.out
          have J2 := HJA.out.sum HR.out hH hT
          have XR2 : (setS wa (w.heap.size + 1 + 1 + 1) 0 r).rangeAt Bx 0 [.int .u64 zx.x0, .int .u64 zx.x1, .int .u64 zx.x2, .int .u64 zx.x3] := fun j v hv => by rw [setS_far0 _ _ _ _ _ (by simp only; omega)]; exact range_gb XR hga (show Bx ≠ H by omega) j v hv
          have X42 : (setS wa (w.heap.size + 1 + 1 + 1) 0 r).cell? ⟨Bx, 4, none⟩ = some (.bool (s x.1)) := by rw [setS_far0 _ _ _ _ _ (by simp only; omega)]; exact hga.cell X4 (fun e => absurd (Option.some.inj e) (show Bx ≠ H by omega))
          have KF2 := (KF.trans (KeepsFrom.of_grownBy hga (fun q e => by have := Option.some.inj e; omega))).trans (keeps_setS wa (w.heap.size + 1 + 1 + 1) 0 r W0.heap.size)
          have KK2 := (KK.trans (KD.gb hga (by omega) (by omega) neDH (by omega))).trans (KD.setS4 (q := w.heap.size + 1 + 1 + 1) (o := 0) (r := r) (by omega) (by omega))
          have SZ2 : w.heap.size + 1 + 1 + 1 + 1 + 1 + 1 ≤ (setS wa (w.heap.size + 1 + 1 + 1) 0 r).heap.size := by rw [setS_size]; have := hga.size; omega
          unfold setS at J2 XR2 X42 KF2 KK2 SZ2
          go_roundw
          case rel => exact ⟨k + 1, by omega, by go_num, _, J2, fun t => rfl, XR2, X42, KF2, KK2, SZ2⟩
          case measure => simp [intOf]; omega
        · obtain rfl : k = m := by omega
          have k0 : ¬ (k : Int) < (k : Int) := by omega
          have hy1 : ∀ t, lst (y' t) = lst (2 ^ k * ac k xx (List.map (fun x => x.val) pre) t) := fun t => (hyk t).trans (lst_twoM rfl (h2 t))
          have X0 : wr.cell? ⟨Bx, 0, none⟩ = some (.int .u64 zx.x0) := XR 0 _ rfl
          have X1 : wr.cell? ⟨Bx, 1, none⟩ = some (.int .u64 zx.x1) := XR 1 _ rfl
          have X2 : wr.cell? ⟨Bx, 2, none⟩ = some (.int .u64 zx.x2) := XR 2 _ rfl
          have X3 : wr.cell? ⟨Bx, 3, none⟩ = some (.int .u64 zx.x3) := XR 3 _ rfl
          clear x0 x1 XR
          cases hsx : s x.1 with
          | false =>
            rw [hsx] at X4
            clear t3 t4 t8
            have t8 := hJ.t8
            have fin : ∀ t, lst (y' t) = lst (ac k xx (List.map (fun x => x.val) (pre ++ [x])) t) := fun t => by rw [List.map_append, List.map_cons, List.map_nil, ac_snoc, hy1 t]; have := hP.z x.1 x.2 hsx t; rw [← Int.add_zero (2 ^ k * ac k xx (List.map (fun x => x.val) pre) t)]; exact lst_two (by rw [Int.add_zero]) (zero_lst.trans this.symm)
            gi_wp2
            exact ⟨by first | exact KF | (rw [← hsz]; exact KF), KK, ⟨_, _, hJ, (fun e => by simp at e), fin⟩, SZ⟩
          | true =>
            rw [hsx] at X4
            clear t3 t4 t8
            have t3 := hJ.t3
            have t8 := hJ.t8
            have hzx := hzq hsx
            obtain ⟨z7, r7, hz7⟩ := id hJ.t7
            have s0 : wr.cell? ⟨w.heap.size + 1 + 1 + 1, 0, none⟩ = some (.int .u64 z7.x0) := r7 0 _ rfl
            have s1 : wr.cell? ⟨w.heap.size + 1 + 1 + 1, 1, none⟩ = some (.int .u64 z7.x1) := r7 1 _ rfl
            have s2 : wr.cell? ⟨w.heap.size + 1 + 1 + 1, 2, none⟩ = some (.int .u64 z7.x2) := r7 2 _ rfl
            have s3 : wr.cell? ⟨w.heap.size + 1 + 1 + 1, 3, none⟩ = some (.int .u64 z7.x3) := r7 3 _ rfl
            obtain ⟨r, hr⟩ : ∃ r, lst (z7.n + zx.n) = r := ⟨_, rfl⟩
            have CA := callsIn_wide (n := 0) |>.2 (hadd H z7 zx wr hJ.tb hJ.hd hz7.1 hzx.1)
            rw [hr] at CA
            unfold E4.v at CA
            have HR : Hid (r.ok ∧ ∀ t, lst r.n = lst (y' t + xx x.1 t)) := hidden (by rw [← hr]; exact ⟨lst_ok _, fun t => by rw [lst_n']; exact lst_two (hz7.2 t) (hzx.2 t)⟩)
            clear hr r7 hz7
            gi_wp2_with (refine ⟨trivial, ?_⟩; gi_at_call 55; refine (CallsIn.inRound l CA).mono ?_; rintro e wa ⟨rfl, hda, hga⟩; have JA := hJ.hand hga hda hH hT; obtain ⟨z8, r8, -⟩ := id JA.t7; have u0 : wa.cell? ⟨w.heap.size + 1 + 1 + 1, 0, none⟩ = some (.int .u64 z8.x0) := r8 0 _ rfl; have u1 : wa.cell? ⟨w.heap.size + 1 + 1 + 1, 1, none⟩ = some (.int .u64 z8.x1) := r8 1 _ rfl; have u2 : wa.cell? ⟨w.heap.size + 1 + 1 + 1, 2, none⟩ = some (.int .u64 z8.x2) := r8 2 _ rfl; have u3 : wa.cell? ⟨w.heap.size + 1 + 1 + 1, 3, none⟩ = some (.int .u64 z8.x3) := r8 3 _ rfl; have v0 := JA.f7 0 (by omega); have v1 := JA.f7 1 (by omega); have v2 := JA.f7 2 (by omega); have v3 := JA.f7 3 (by omega); have u8 := JA.t8; have v8 := JA.f8; have HJA := hidden JA; have HGA := hidden hga; clear CA JA r8 hda hga s0 s1 s2 s3 X0 X1 X2 X3 X4 t3 t8)
            have hga := HGA.out
            have J2 : Jn w ((setS wa (w.heap.size + 1 + 1 + 1) 0 r).setCell ⟨w.heap.size + 1 + 1 + 1 + 1, 0, none⟩ (.bool true)) H k true (fun t => y' t + xx x.1 t) := (HJA.out.sum HR.out hH hT).mark hH hT
            unfold setS at J2
            exact ⟨(KF.trans (KeepsFrom.of_grownBy hga (fun q e => by have := Option.some.inj e; omega))).trans ((keeps_setS wa _ 0 r _).trans ((KeepsOthers.setCell _ _ _).from _)), ((KK.trans (KD.gb hga (by omega) (by omega) neDH (by omega))).trans (KD.setS4 (by omega) (by omega))).trans (KD.set (by omega) (by omega)), ⟨true, _, J2, (fun e => by simp at e), fun t => by rw [List.map_append, List.map_cons, List.map_nil, ac_snoc]; exact lst_two (hy1 t) rfl⟩, by have := hga.size; simp; omega⟩
  case done =>
    rintro Dd xs W hDd hS ⟨⟨b, y, h1, hbz, h2⟩, h3⟩ hKd
    obtain ⟨z, h7, hz⟩ := id h1.t7
    have s0 : W.cell? ⟨w.heap.size + 1 + 1 + 1, 0, none⟩ = some (.int .u64 z.x0) := h7 0 _ rfl
    have s1 : W.cell? ⟨w.heap.size + 1 + 1 + 1, 1, none⟩ = some (.int .u64 z.x1) := h7 1 _ rfl
    have s2 : W.cell? ⟨w.heap.size + 1 + 1 + 1, 2, none⟩ = some (.int .u64 z.x2) := h7 2 _ rfl
    have s3 : W.cell? ⟨w.heap.size + 1 + 1 + 1, 3, none⟩ = some (.int .u64 z.x3) := h7 3 _ rfl
    have u0 : W.cell? ⟨w.heap.size + 1 + 1, 0, none⟩ = some (.int .u64 0) := h1.t6 0 _ rfl
    have u1 : W.cell? ⟨w.heap.size + 1 + 1, 1, none⟩ = some (.int .u64 0) := h1.t6 1 _ rfl
    have u2 : W.cell? ⟨w.heap.size + 1 + 1, 2, none⟩ = some (.int .u64 0) := h1.t6 2 _ rfl
    have u3 : W.cell? ⟨w.heap.size + 1 + 1, 3, none⟩ = some (.int .u64 0) := h1.t6 3 _ rfl
    have v0 := h1.f6 0 (by omega)
    have v1 := h1.f6 1 (by omega)
    have v2 := h1.f6 2 (by omega)
    have v3 := h1.f6 3 (by omega)
    have th : W.there (w.heap.size + 1 + 1) 0 4 := there4 (p := ⟨0, 0, 0, 0⟩) h1.t6 (fun j hj => by rw [Nat.zero_add]; exact h1.f6 j hj)
    have RZ : ((((W.setCell ⟨w.heap.size + 1 + 1, 0, none⟩ (.int .u64 z.x0)).setCell ⟨w.heap.size + 1 + 1, 1, none⟩ (.int .u64 z.x1)).setCell ⟨w.heap.size + 1 + 1, 2, none⟩ (.int .u64 z.x2)).setCell ⟨w.heap.size + 1 + 1, 3, none⟩ (.int .u64 z.x3)).rangeAt (w.heap.size + 1 + 1) 0 [.int .u64 z.x0, .int .u64 z.x1, .int .u64 z.x2, .int .u64 z.x3] := World.rangeAt_setCells_same W (w.heap.size + 1 + 1) 0 [.int .u64 z.x0, .int .u64 z.x1, .int .u64 z.x2, .int .u64 z.x3] th
    have hK' : ((((W.setCell ⟨w.heap.size + 1 + 1, 0, none⟩ (.int .u64 z.x0)).setCell ⟨w.heap.size + 1 + 1, 1, none⟩ (.int .u64 z.x1)).setCell ⟨w.heap.size + 1 + 1, 2, none⟩ (.int .u64 z.x2)).setCell ⟨w.heap.size + 1 + 1, 3, none⟩ (.int .u64 z.x3)).heap[Dd]? = some (.deferred (some [])) := (((KeepsOthers.setCell W ⟨w.heap.size + 1 + 1, 0, none⟩ (.int .u64 z.x0)).trans (KeepsOthers.setCell _ ⟨w.heap.size + 1 + 1, 1, none⟩ (.int .u64 z.x1))).trans ((KeepsOthers.setCell _ ⟨w.heap.size + 1 + 1, 2, none⟩ (.int .u64 z.x2)).trans (KeepsOthers.setCell _ ⟨w.heap.size + 1 + 1, 3, none⟩ (.int .u64 z.x3)))).same Dd _ hKd rfl
    have gr : w.grownBy ((((W.setCell ⟨w.heap.size + 1 + 1, 0, none⟩ (.int .u64 z.x0)).setCell ⟨w.heap.size + 1 + 1, 1, none⟩ (.int .u64 z.x1)).setCell ⟨w.heap.size + 1 + 1, 2, none⟩ (.int .u64 z.x2)).setCell ⟨w.heap.size + 1 + 1, 3, none⟩ (.int .u64 z.x3)) (some H) := gb_box (gb_box (gb_box (gb_box h1.gr (by omega)) (by omega)) (by omega)) (by omega)
    have nH : w.heap.size + 1 + 1 ≠ H := by omega
    have hdx : Hd ((((W.setCell ⟨w.heap.size + 1 + 1, 0, none⟩ (.int .u64 z.x0)).setCell ⟨w.heap.size + 1 + 1, 1, none⟩ (.int .u64 z.x1)).setCell ⟨w.heap.size + 1 + 1, 2, none⟩ (.int .u64 z.x2)).setCell ⟨w.heap.size + 1 + 1, 3, none⟩ (.int .u64 z.x3)) H := (((h1.hd.far nH).far nH).far nH).far nH
    gi_wp2
    refine ⟨by simp, .inl ⟨_, _, rfl, run_takeDeferred hK', ?_⟩⟩
    generalize ((((W.setCell ⟨w.heap.size + 1 + 1, 0, none⟩ (.int .u64 z.x0)).setCell ⟨w.heap.size + 1 + 1, 1, none⟩ (.int .u64 z.x1)).setCell ⟨w.heap.size + 1 + 1, 2, none⟩ (.int .u64 z.x2)).setCell ⟨w.heap.size + 1 + 1, 3, none⟩ (.int .u64 z.x3)) = W4 at *
    have gp := grownBy_putObj' W4 Dd (.deferred none)
    have kp : ∀ (a : Addr) (v : Value), W4.cell? a = some v → (W4.putObj Dd (.deferred none)).cell? a = some v := fun a v hv => cell_kept hv gp (fun r e => by cases e; exact ⟨_, hK', rfl⟩)
    have e0 : (W4.putObj Dd (.deferred none)).cell? ⟨w.heap.size + 1 + 1, 0, none⟩ = _ := kp _ _ (RZ 0 _ rfl)
    have e1 : (W4.putObj Dd (.deferred none)).cell? ⟨w.heap.size + 1 + 1, 1, none⟩ = _ := kp _ _ (RZ 1 _ rfl)
    have e2 : (W4.putObj Dd (.deferred none)).cell? ⟨w.heap.size + 1 + 1, 2, none⟩ = _ := kp _ _ (RZ 2 _ rfl)
    have e3 : (W4.putObj Dd (.deferred none)).cell? ⟨w.heap.size + 1 + 1, 3, none⟩ = _ := kp _ _ (RZ 3 _ rfl)
    have nDd : ∀ q, q < w.heap.size → some q ≠ some Dd := fun q hq e => by have := Option.some.inj e; omega
    refine ⟨.agg #[.int .u64 z.x0, .int .u64 z.x1, .int .u64 z.x2, .int .u64 z.x3], ?_, z, rfl, ⟨hz.1, fun t => by rw [hz.2 t, h2 t, hS, ac_all]⟩, ?_, ?_⟩
    · simp [results, Tryz.results100, go_sem, e0, e1, e2, e3]
    · obtain ⟨q1, q2, a0, a1, b0, b1, a2⟩ := id hdx
      have hB := gp.block H hdx.lt (nDd H lH)
      exact ⟨q1, q2, kp _ _ a0, kp _ _ a1, (World.frozen?_of_block hB).trans b0, (World.frozen?_of_block hB).trans b1, fun o ho => (World.cell?_of_block hB).trans (a2 o ho)⟩
    · exact ⟨gp.os.trans gr.os, gp.tape.trans gr.tape, gp.output.trans gr.output, Nat.le_trans gr.size gp.size, fun q hq hn => (gp.block q (Nat.lt_of_lt_of_le hq gr.size) (nDd q hq)).trans (gr.block q hq hn)⟩
  case stop =>
    rintro Dd c pre W _ _ h _
    exact h.elim
end Go.Proofs.YtapieajkmpnmoaaGreatDoor.Li
namespace Go.Proofs.YtapieajkmpnmoaaGreatDoor.Li
open Go.RowKit
set_option linter.unusedVariables false
set_option maxRecDepth 100000 in
set_option maxHeartbeats 4000000 in
theorem cost1_1 (n X : Nat) (hn : n ≤ 8192) (w : World) (hX : w.cell? ⟨X, 0, none⟩ = some (.int .i64 (n : Int))) :
    Calls Tryz.prog 70 #[.int .i64 1, .pointer (some ⟨X, 0, none⟩)] w fun e w' => e = .returned (.int .i64 ((n : Int) * 255 + 254)) ∧ Below w.heap.size w w' := by
  have w1 : IntKind.i64.wrap ((n : Int) * 255) = (n : Int) * 255 := IntWalk.i64_in _ (by omega)
  have w2 : IntKind.i64.wrap ((n : Int) * 255 + 254) = (n : Int) * 255 + 254 := IntWalk.i64_in _ (by omega)
  go_enter Tryz.func70, Tryz.ntmps70
  go_upto_region 1 with fail
  refine co1 _ X n 1 0 1 254 255 _ 254 _ _ _ _ _ _ _ _ _ _ _ _ _ _ _ w hX (IntWalk.i64_in _ (by omega)) (fun _ => rfl) (IntWalk.i64_in _ (by omega)) w1 (IntWalk.i64_in _ (by omega)) w2 (hidden places_1) (hidden ?_)
  intro wz hz
  have BF := hidden hz
  clear hz
  go_wp2_with fail
  refine bodyPost_ret (v := .int .i64 ((n : Int) * 255 + 254)) (by simp [results, Tryz.results70, go_sem]) rfl ⟨rfl, BF.out⟩
set_option maxRecDepth 100000 in
set_option maxHeartbeats 4000000 in
theorem cost1_2 (n X : Nat) (hn : n ≤ 8192) (w : World) (hX : w.cell? ⟨X, 0, none⟩ = some (.int .i64 (n : Int))) :
    Calls Tryz.prog 70 #[.int .i64 2, .pointer (some ⟨X, 0, none⟩)] w fun e w' => e = .returned (.int .i64 ((n : Int) * 129 + 254)) ∧ Below w.heap.size w w' := by
  have w1 : IntKind.i64.wrap ((n : Int) * 129) = (n : Int) * 129 := IntWalk.i64_in _ (by omega)
  have w2 : IntKind.i64.wrap ((n : Int) * 129 + 254) = (n : Int) * 129 + 254 := IntWalk.i64_in _ (by omega)
  go_enter Tryz.func70, Tryz.ntmps70
  go_upto_region 1 with fail
  refine co1 _ X n 2 1 2 127 129 _ 254 _ _ _ _ _ _ _ _ _ _ _ _ _ _ _ w hX (IntWalk.i64_in _ (by omega)) (fun _ => rfl) (IntWalk.i64_in _ (by omega)) w1 (IntWalk.i64_in _ (by omega)) w2 (hidden places_2) (hidden ?_)
  intro wz hz
  have BF := hidden hz
  clear hz
  go_wp2_with fail
  refine bodyPost_ret (v := .int .i64 ((n : Int) * 129 + 254)) (by simp [results, Tryz.results70, go_sem]) rfl ⟨rfl, BF.out⟩
set_option maxRecDepth 100000 in
set_option maxHeartbeats 4000000 in
theorem cost1_3 (n X : Nat) (hn : n ≤ 8192) (w : World) (hX : w.cell? ⟨X, 0, none⟩ = some (.int .i64 (n : Int))) :
    Calls Tryz.prog 70 #[.int .i64 3, .pointer (some ⟨X, 0, none⟩)] w fun e w' => e = .returned (.int .i64 ((n : Int) * 89 + 255)) ∧ Below w.heap.size w w' := by
  have w1 : IntKind.i64.wrap ((n : Int) * 89) = (n : Int) * 89 := IntWalk.i64_in _ (by omega)
  have w2 : IntKind.i64.wrap ((n : Int) * 89 + 255) = (n : Int) * 89 + 255 := IntWalk.i64_in _ (by omega)
  go_enter Tryz.func70, Tryz.ntmps70
  go_upto_region 1 with fail
  refine co1 _ X n 3 2 4 85 89 _ 255 _ _ _ _ _ _ _ _ _ _ _ _ _ _ _ w hX (IntWalk.i64_in _ (by omega)) (fun _ => rfl) (IntWalk.i64_in _ (by omega)) w1 (IntWalk.i64_in _ (by omega)) w2 (hidden places_3) (hidden ?_)
  intro wz hz
  have BF := hidden hz
  clear hz
  go_wp2_with fail
  refine bodyPost_ret (v := .int .i64 ((n : Int) * 89 + 255)) (by simp [results, Tryz.results70, go_sem]) rfl ⟨rfl, BF.out⟩
set_option maxRecDepth 100000 in
set_option maxHeartbeats 4000000 in
theorem cost1_4 (n X : Nat) (hn : n ≤ 8192) (w : World) (hX : w.cell? ⟨X, 0, none⟩ = some (.int .i64 (n : Int))) :
    Calls Tryz.prog 70 #[.int .i64 4, .pointer (some ⟨X, 0, none⟩)] w fun e w' => e = .returned (.int .i64 ((n : Int) * 72 + 256)) ∧ Below w.heap.size w w' := by
  have w1 : IntKind.i64.wrap ((n : Int) * 72) = (n : Int) * 72 := IntWalk.i64_in _ (by omega)
  have w2 : IntKind.i64.wrap ((n : Int) * 72 + 256) = (n : Int) * 72 + 256 := IntWalk.i64_in _ (by omega)
  go_enter Tryz.func70, Tryz.ntmps70
  go_upto_region 1 with fail
  refine co1 _ X n 4 3 8 64 72 _ 256 _ _ _ _ _ _ _ _ _ _ _ _ _ _ _ w hX (IntWalk.i64_in _ (by omega)) (fun _ => rfl) (IntWalk.i64_in _ (by omega)) w1 (IntWalk.i64_in _ (by omega)) w2 (hidden places_4) (hidden ?_)
  intro wz hz
  have BF := hidden hz
  clear hz
  go_wp2_with fail
  refine bodyPost_ret (v := .int .i64 ((n : Int) * 72 + 256)) (by simp [results, Tryz.results70, go_sem]) rfl ⟨rfl, BF.out⟩
set_option maxRecDepth 100000 in
set_option maxHeartbeats 4000000 in
theorem cost1_5 (n X : Nat) (hn : n ≤ 8192) (w : World) (hX : w.cell? ⟨X, 0, none⟩ = some (.int .i64 (n : Int))) :
    Calls Tryz.prog 70 #[.int .i64 5, .pointer (some ⟨X, 0, none⟩)] w fun e w' => e = .returned (.int .i64 ((n : Int) * 67 + 255)) ∧ Below w.heap.size w w' := by
  have w1 : IntKind.i64.wrap ((n : Int) * 67) = (n : Int) * 67 := IntWalk.i64_in _ (by omega)
  have w2 : IntKind.i64.wrap ((n : Int) * 67 + 255) = (n : Int) * 67 + 255 := IntWalk.i64_in _ (by omega)
  go_enter Tryz.func70, Tryz.ntmps70
  go_upto_region 1 with fail
  refine co1 _ X n 5 4 16 51 67 _ 255 _ _ _ _ _ _ _ _ _ _ _ _ _ _ _ w hX (IntWalk.i64_in _ (by omega)) (fun _ => rfl) (IntWalk.i64_in _ (by omega)) w1 (IntWalk.i64_in _ (by omega)) w2 (hidden places_5) (hidden ?_)
  intro wz hz
  have BF := hidden hz
  clear hz
  go_wp2_with fail
  refine bodyPost_ret (v := .int .i64 ((n : Int) * 67 + 255)) (by simp [results, Tryz.results70, go_sem]) rfl ⟨rfl, BF.out⟩
set_option maxRecDepth 100000 in
set_option maxHeartbeats 4000000 in
theorem cost1_6 (n X : Nat) (hn : n ≤ 8192) (w : World) (hX : w.cell? ⟨X, 0, none⟩ = some (.int .i64 (n : Int))) :
    Calls Tryz.prog 70 #[.int .i64 6, .pointer (some ⟨X, 0, none⟩)] w fun e w' => e = .returned (.int .i64 ((n : Int) * 75 + 258)) ∧ Below w.heap.size w w' := by
  have w1 : IntKind.i64.wrap ((n : Int) * 75) = (n : Int) * 75 := IntWalk.i64_in _ (by omega)
  have w2 : IntKind.i64.wrap ((n : Int) * 75 + 258) = (n : Int) * 75 + 258 := IntWalk.i64_in _ (by omega)
  go_enter Tryz.func70, Tryz.ntmps70
  go_upto_region 1 with fail
  refine co1 _ X n 6 5 32 43 75 _ 258 _ _ _ _ _ _ _ _ _ _ _ _ _ _ _ w hX (IntWalk.i64_in _ (by omega)) (fun _ => rfl) (IntWalk.i64_in _ (by omega)) w1 (IntWalk.i64_in _ (by omega)) w2 (hidden places_6) (hidden ?_)
  intro wz hz
  have BF := hidden hz
  clear hz
  go_wp2_with fail
  refine bodyPost_ret (v := .int .i64 ((n : Int) * 75 + 258)) (by simp [results, Tryz.results70, go_sem]) rfl ⟨rfl, BF.out⟩
set_option maxRecDepth 100000 in
set_option maxHeartbeats 4000000 in
theorem cost1_7 (n X : Nat) (hn : n ≤ 8192) (w : World) (hX : w.cell? ⟨X, 0, none⟩ = some (.int .i64 (n : Int))) :
    Calls Tryz.prog 70 #[.int .i64 7, .pointer (some ⟨X, 0, none⟩)] w fun e w' => e = .returned (.int .i64 ((n : Int) * 101 + 259)) ∧ Below w.heap.size w w' := by
  have w1 : IntKind.i64.wrap ((n : Int) * 101) = (n : Int) * 101 := IntWalk.i64_in _ (by omega)
  have w2 : IntKind.i64.wrap ((n : Int) * 101 + 259) = (n : Int) * 101 + 259 := IntWalk.i64_in _ (by omega)
  go_enter Tryz.func70, Tryz.ntmps70
  go_upto_region 1 with fail
  refine co1 _ X n 7 6 64 37 101 _ 259 _ _ _ _ _ _ _ _ _ _ _ _ _ _ _ w hX (IntWalk.i64_in _ (by omega)) (fun _ => rfl) (IntWalk.i64_in _ (by omega)) w1 (IntWalk.i64_in _ (by omega)) w2 (hidden places_7) (hidden ?_)
  intro wz hz
  have BF := hidden hz
  clear hz
  go_wp2_with fail
  refine bodyPost_ret (v := .int .i64 ((n : Int) * 101 + 259)) (by simp [results, Tryz.results70, go_sem]) rfl ⟨rfl, BF.out⟩
set_option maxRecDepth 100000 in
set_option maxHeartbeats 4000000 in
theorem cost1_8 (n X : Nat) (hn : n ≤ 8192) (w : World) (hX : w.cell? ⟨X, 0, none⟩ = some (.int .i64 (n : Int))) :
    Calls Tryz.prog 70 #[.int .i64 8, .pointer (some ⟨X, 0, none⟩)] w fun e w' => e = .returned (.int .i64 ((n : Int) * 160 + 256)) ∧ Below w.heap.size w w' := by
  have w1 : IntKind.i64.wrap ((n : Int) * 160) = (n : Int) * 160 := IntWalk.i64_in _ (by omega)
  have w2 : IntKind.i64.wrap ((n : Int) * 160 + 256) = (n : Int) * 160 + 256 := IntWalk.i64_in _ (by omega)
  go_enter Tryz.func70, Tryz.ntmps70
  go_upto_region 1 with fail
  refine co1 _ X n 8 7 128 32 160 _ 256 _ _ _ _ _ _ _ _ _ _ _ _ _ _ _ w hX (IntWalk.i64_in _ (by omega)) (fun _ => rfl) (IntWalk.i64_in _ (by omega)) w1 (IntWalk.i64_in _ (by omega)) w2 (hidden places_8) (hidden ?_)
  intro wz hz
  have BF := hidden hz
  clear hz
  go_wp2_with fail
  refine bodyPost_ret (v := .int .i64 ((n : Int) * 160 + 256)) (by simp [results, Tryz.results70, go_sem]) rfl ⟨rfl, BF.out⟩
set_option maxRecDepth 100000 in
set_option maxHeartbeats 4000000 in
theorem cost2_1 (n X : Nat) (hn : n ≤ 8192) (w : World) (hX : w.cell? ⟨X, 0, none⟩ = some (.int .i64 (n : Int))) :
    Calls Tryz.prog 71 #[.int .i64 1, .pointer (some ⟨X, 0, none⟩)] w fun e w' => e = .returned (.int .i64 (254 * ((n : Int) + 1 + 1))) ∧ Below w.heap.size w w' := by
  have w1 : IntKind.i64.wrap ((n : Int) + 1) = (n : Int) + 1 := IntWalk.i64_in _ (by omega)
  have w2 : IntKind.i64.wrap ((n : Int) + 1 + 1) = (n : Int) + 1 + 1 := IntWalk.i64_in _ (by omega)
  have w3 : IntKind.i64.wrap (254 * ((n : Int) + 1 + 1)) = 254 * ((n : Int) + 1 + 1) := IntWalk.i64_in _ (by omega)
  go_enter Tryz.func71, Tryz.ntmps71
  go_upto_region 1 with fail
  refine co2 _ X n 1 0 1 254 _ _ _ _ _ _ _ _ _ _ _ _ _ _ w hX (IntWalk.i64_in _ (by omega)) (fun _ => rfl) w1 w2 w3 (hidden places_1) (hidden ?_)
  intro wz hz
  have BF := hidden hz
  clear hz w1 w2 w3
  go_wp2_with fail
  refine bodyPost_ret (v := .int .i64 (254 * ((n : Int) + 1 + 1))) (by simp [results, Tryz.results71, go_sem]) rfl ⟨rfl, BF.out⟩
set_option maxRecDepth 100000 in
set_option maxHeartbeats 4000000 in
theorem cost2_2 (n X : Nat) (hn : n ≤ 8192) (w : World) (hX : w.cell? ⟨X, 0, none⟩ = some (.int .i64 (n : Int))) :
    Calls Tryz.prog 71 #[.int .i64 2, .pointer (some ⟨X, 0, none⟩)] w fun e w' => e = .returned (.int .i64 (127 * ((n : Int) + 2 + 2))) ∧ Below w.heap.size w w' := by
  have w1 : IntKind.i64.wrap ((n : Int) + 2) = (n : Int) + 2 := IntWalk.i64_in _ (by omega)
  have w2 : IntKind.i64.wrap ((n : Int) + 2 + 2) = (n : Int) + 2 + 2 := IntWalk.i64_in _ (by omega)
  have w3 : IntKind.i64.wrap (127 * ((n : Int) + 2 + 2)) = 127 * ((n : Int) + 2 + 2) := IntWalk.i64_in _ (by omega)
  go_enter Tryz.func71, Tryz.ntmps71
  go_upto_region 1 with fail
  refine co2 _ X n 2 1 2 127 _ _ _ _ _ _ _ _ _ _ _ _ _ _ w hX (IntWalk.i64_in _ (by omega)) (fun _ => rfl) w1 w2 w3 (hidden places_2) (hidden ?_)
  intro wz hz
  have BF := hidden hz
  clear hz w1 w2 w3
  go_wp2_with fail
  refine bodyPost_ret (v := .int .i64 (127 * ((n : Int) + 2 + 2))) (by simp [results, Tryz.results71, go_sem]) rfl ⟨rfl, BF.out⟩
set_option maxRecDepth 100000 in
set_option maxHeartbeats 4000000 in
theorem cost2_3 (n X : Nat) (hn : n ≤ 8192) (w : World) (hX : w.cell? ⟨X, 0, none⟩ = some (.int .i64 (n : Int))) :
    Calls Tryz.prog 71 #[.int .i64 3, .pointer (some ⟨X, 0, none⟩)] w fun e w' => e = .returned (.int .i64 (85 * ((n : Int) + 4 + 3))) ∧ Below w.heap.size w w' := by
  have w1 : IntKind.i64.wrap ((n : Int) + 4) = (n : Int) + 4 := IntWalk.i64_in _ (by omega)
  have w2 : IntKind.i64.wrap ((n : Int) + 4 + 3) = (n : Int) + 4 + 3 := IntWalk.i64_in _ (by omega)
  have w3 : IntKind.i64.wrap (85 * ((n : Int) + 4 + 3)) = 85 * ((n : Int) + 4 + 3) := IntWalk.i64_in _ (by omega)
  go_enter Tryz.func71, Tryz.ntmps71
  go_upto_region 1 with fail
  refine co2 _ X n 3 2 4 85 _ _ _ _ _ _ _ _ _ _ _ _ _ _ w hX (IntWalk.i64_in _ (by omega)) (fun _ => rfl) w1 w2 w3 (hidden places_3) (hidden ?_)
  intro wz hz
  have BF := hidden hz
  clear hz w1 w2 w3
  go_wp2_with fail
  refine bodyPost_ret (v := .int .i64 (85 * ((n : Int) + 4 + 3))) (by simp [results, Tryz.results71, go_sem]) rfl ⟨rfl, BF.out⟩
set_option maxRecDepth 100000 in
set_option maxHeartbeats 4000000 in
theorem cost2_4 (n X : Nat) (hn : n ≤ 8192) (w : World) (hX : w.cell? ⟨X, 0, none⟩ = some (.int .i64 (n : Int))) :
    Calls Tryz.prog 71 #[.int .i64 4, .pointer (some ⟨X, 0, none⟩)] w fun e w' => e = .returned (.int .i64 (64 * ((n : Int) + 8 + 4))) ∧ Below w.heap.size w w' := by
  have w1 : IntKind.i64.wrap ((n : Int) + 8) = (n : Int) + 8 := IntWalk.i64_in _ (by omega)
  have w2 : IntKind.i64.wrap ((n : Int) + 8 + 4) = (n : Int) + 8 + 4 := IntWalk.i64_in _ (by omega)
  have w3 : IntKind.i64.wrap (64 * ((n : Int) + 8 + 4)) = 64 * ((n : Int) + 8 + 4) := IntWalk.i64_in _ (by omega)
  go_enter Tryz.func71, Tryz.ntmps71
  go_upto_region 1 with fail
  refine co2 _ X n 4 3 8 64 _ _ _ _ _ _ _ _ _ _ _ _ _ _ w hX (IntWalk.i64_in _ (by omega)) (fun _ => rfl) w1 w2 w3 (hidden places_4) (hidden ?_)
  intro wz hz
  have BF := hidden hz
  clear hz w1 w2 w3
  go_wp2_with fail
  refine bodyPost_ret (v := .int .i64 (64 * ((n : Int) + 8 + 4))) (by simp [results, Tryz.results71, go_sem]) rfl ⟨rfl, BF.out⟩
set_option maxRecDepth 100000 in
set_option maxHeartbeats 4000000 in
theorem cost2_5 (n X : Nat) (hn : n ≤ 8192) (w : World) (hX : w.cell? ⟨X, 0, none⟩ = some (.int .i64 (n : Int))) :
    Calls Tryz.prog 71 #[.int .i64 5, .pointer (some ⟨X, 0, none⟩)] w fun e w' => e = .returned (.int .i64 (51 * ((n : Int) + 16 + 5))) ∧ Below w.heap.size w w' := by
  have w1 : IntKind.i64.wrap ((n : Int) + 16) = (n : Int) + 16 := IntWalk.i64_in _ (by omega)
  have w2 : IntKind.i64.wrap ((n : Int) + 16 + 5) = (n : Int) + 16 + 5 := IntWalk.i64_in _ (by omega)
  have w3 : IntKind.i64.wrap (51 * ((n : Int) + 16 + 5)) = 51 * ((n : Int) + 16 + 5) := IntWalk.i64_in _ (by omega)
  go_enter Tryz.func71, Tryz.ntmps71
  go_upto_region 1 with fail
  refine co2 _ X n 5 4 16 51 _ _ _ _ _ _ _ _ _ _ _ _ _ _ w hX (IntWalk.i64_in _ (by omega)) (fun _ => rfl) w1 w2 w3 (hidden places_5) (hidden ?_)
  intro wz hz
  have BF := hidden hz
  clear hz w1 w2 w3
  go_wp2_with fail
  refine bodyPost_ret (v := .int .i64 (51 * ((n : Int) + 16 + 5))) (by simp [results, Tryz.results71, go_sem]) rfl ⟨rfl, BF.out⟩
set_option maxRecDepth 100000 in
set_option maxHeartbeats 4000000 in
theorem cost2_6 (n X : Nat) (hn : n ≤ 8192) (w : World) (hX : w.cell? ⟨X, 0, none⟩ = some (.int .i64 (n : Int))) :
    Calls Tryz.prog 71 #[.int .i64 6, .pointer (some ⟨X, 0, none⟩)] w fun e w' => e = .returned (.int .i64 (43 * ((n : Int) + 32 + 6))) ∧ Below w.heap.size w w' := by
  have w1 : IntKind.i64.wrap ((n : Int) + 32) = (n : Int) + 32 := IntWalk.i64_in _ (by omega)
  have w2 : IntKind.i64.wrap ((n : Int) + 32 + 6) = (n : Int) + 32 + 6 := IntWalk.i64_in _ (by omega)
  have w3 : IntKind.i64.wrap (43 * ((n : Int) + 32 + 6)) = 43 * ((n : Int) + 32 + 6) := IntWalk.i64_in _ (by omega)
  go_enter Tryz.func71, Tryz.ntmps71
  go_upto_region 1 with fail
  refine co2 _ X n 6 5 32 43 _ _ _ _ _ _ _ _ _ _ _ _ _ _ w hX (IntWalk.i64_in _ (by omega)) (fun _ => rfl) w1 w2 w3 (hidden places_6) (hidden ?_)
  intro wz hz
  have BF := hidden hz
  clear hz w1 w2 w3
  go_wp2_with fail
  refine bodyPost_ret (v := .int .i64 (43 * ((n : Int) + 32 + 6))) (by simp [results, Tryz.results71, go_sem]) rfl ⟨rfl, BF.out⟩
set_option maxRecDepth 100000 in
set_option maxHeartbeats 4000000 in
theorem cost2_7 (n X : Nat) (hn : n ≤ 8192) (w : World) (hX : w.cell? ⟨X, 0, none⟩ = some (.int .i64 (n : Int))) :
    Calls Tryz.prog 71 #[.int .i64 7, .pointer (some ⟨X, 0, none⟩)] w fun e w' => e = .returned (.int .i64 (37 * ((n : Int) + 64 + 7))) ∧ Below w.heap.size w w' := by
  have w1 : IntKind.i64.wrap ((n : Int) + 64) = (n : Int) + 64 := IntWalk.i64_in _ (by omega)
  have w2 : IntKind.i64.wrap ((n : Int) + 64 + 7) = (n : Int) + 64 + 7 := IntWalk.i64_in _ (by omega)
  have w3 : IntKind.i64.wrap (37 * ((n : Int) + 64 + 7)) = 37 * ((n : Int) + 64 + 7) := IntWalk.i64_in _ (by omega)
  go_enter Tryz.func71, Tryz.ntmps71
  go_upto_region 1 with fail
  refine co2 _ X n 7 6 64 37 _ _ _ _ _ _ _ _ _ _ _ _ _ _ w hX (IntWalk.i64_in _ (by omega)) (fun _ => rfl) w1 w2 w3 (hidden places_7) (hidden ?_)
  intro wz hz
  have BF := hidden hz
  clear hz w1 w2 w3
  go_wp2_with fail
  refine bodyPost_ret (v := .int .i64 (37 * ((n : Int) + 64 + 7))) (by simp [results, Tryz.results71, go_sem]) rfl ⟨rfl, BF.out⟩
set_option maxRecDepth 100000 in
set_option maxHeartbeats 4000000 in
theorem cost2_8 (n X : Nat) (hn : n ≤ 8192) (w : World) (hX : w.cell? ⟨X, 0, none⟩ = some (.int .i64 (n : Int))) :
    Calls Tryz.prog 71 #[.int .i64 8, .pointer (some ⟨X, 0, none⟩)] w fun e w' => e = .returned (.int .i64 (32 * ((n : Int) + 128 + 8))) ∧ Below w.heap.size w w' := by
  have w1 : IntKind.i64.wrap ((n : Int) + 128) = (n : Int) + 128 := IntWalk.i64_in _ (by omega)
  have w2 : IntKind.i64.wrap ((n : Int) + 128 + 8) = (n : Int) + 128 + 8 := IntWalk.i64_in _ (by omega)
  have w3 : IntKind.i64.wrap (32 * ((n : Int) + 128 + 8)) = 32 * ((n : Int) + 128 + 8) := IntWalk.i64_in _ (by omega)
  go_enter Tryz.func71, Tryz.ntmps71
  go_upto_region 1 with fail
  refine co2 _ X n 8 7 128 32 _ _ _ _ _ _ _ _ _ _ _ _ _ _ w hX (IntWalk.i64_in _ (by omega)) (fun _ => rfl) w1 w2 w3 (hidden places_8) (hidden ?_)
  intro wz hz
  have BF := hidden hz
  clear hz w1 w2 w3
  go_wp2_with fail
  refine bodyPost_ret (v := .int .i64 (32 * ((n : Int) + 128 + 8))) (by simp [results, Tryz.results71, go_sem]) rfl ⟨rfl, BF.out⟩
set_option maxRecDepth 100000 in
set_option maxHeartbeats 4000000 in
theorem cost2_9 (n X : Nat) (hn : n ≤ 8192) (w : World) (hX : w.cell? ⟨X, 0, none⟩ = some (.int .i64 (n : Int))) :
    Calls Tryz.prog 71 #[.int .i64 9, .pointer (some ⟨X, 0, none⟩)] w fun e w' => e = .returned (.int .i64 (29 * ((n : Int) + 256 + 9))) ∧ Below w.heap.size w w' := by
  have w1 : IntKind.i64.wrap ((n : Int) + 256) = (n : Int) + 256 := IntWalk.i64_in _ (by omega)
  have w2 : IntKind.i64.wrap ((n : Int) + 256 + 9) = (n : Int) + 256 + 9 := IntWalk.i64_in _ (by omega)
  have w3 : IntKind.i64.wrap (29 * ((n : Int) + 256 + 9)) = 29 * ((n : Int) + 256 + 9) := IntWalk.i64_in _ (by omega)
  go_enter Tryz.func71, Tryz.ntmps71
  go_upto_region 1 with fail
  refine co2 _ X n 9 8 256 29 _ _ _ _ _ _ _ _ _ _ _ _ _ _ w hX (IntWalk.i64_in _ (by omega)) (fun _ => rfl) w1 w2 w3 (hidden places_9) (hidden ?_)
  intro wz hz
  have BF := hidden hz
  clear hz w1 w2 w3
  go_wp2_with fail
  refine bodyPost_ret (v := .int .i64 (29 * ((n : Int) + 256 + 9))) (by simp [results, Tryz.results71, go_sem]) rfl ⟨rfl, BF.out⟩
set_option maxRecDepth 100000 in
set_option maxHeartbeats 4000000 in
theorem cost2_10 (n X : Nat) (hn : n ≤ 8192) (w : World) (hX : w.cell? ⟨X, 0, none⟩ = some (.int .i64 (n : Int))) :
    Calls Tryz.prog 71 #[.int .i64 10, .pointer (some ⟨X, 0, none⟩)] w fun e w' => e = .returned (.int .i64 (26 * ((n : Int) + 512 + 10))) ∧ Below w.heap.size w w' := by
  have w1 : IntKind.i64.wrap ((n : Int) + 512) = (n : Int) + 512 := IntWalk.i64_in _ (by omega)
  have w2 : IntKind.i64.wrap ((n : Int) + 512 + 10) = (n : Int) + 512 + 10 := IntWalk.i64_in _ (by omega)
  have w3 : IntKind.i64.wrap (26 * ((n : Int) + 512 + 10)) = 26 * ((n : Int) + 512 + 10) := IntWalk.i64_in _ (by omega)
  go_enter Tryz.func71, Tryz.ntmps71
  go_upto_region 1 with fail
  refine co2 _ X n 10 9 512 26 _ _ _ _ _ _ _ _ _ _ _ _ _ _ w hX (IntWalk.i64_in _ (by omega)) (fun _ => rfl) w1 w2 w3 (hidden places_10) (hidden ?_)
  intro wz hz
  have BF := hidden hz
  clear hz w1 w2 w3
  go_wp2_with fail
  refine bodyPost_ret (v := .int .i64 (26 * ((n : Int) + 512 + 10))) (by simp [results, Tryz.results71, go_sem]) rfl ⟨rfl, BF.out⟩
set_option maxRecDepth 100000 in
set_option maxHeartbeats 4000000 in
theorem cost2_11 (n X : Nat) (hn : n ≤ 8192) (w : World) (hX : w.cell? ⟨X, 0, none⟩ = some (.int .i64 (n : Int))) :
    Calls Tryz.prog 71 #[.int .i64 11, .pointer (some ⟨X, 0, none⟩)] w fun e w' => e = .returned (.int .i64 (24 * ((n : Int) + 1024 + 11))) ∧ Below w.heap.size w w' := by
  have w1 : IntKind.i64.wrap ((n : Int) + 1024) = (n : Int) + 1024 := IntWalk.i64_in _ (by omega)
  have w2 : IntKind.i64.wrap ((n : Int) + 1024 + 11) = (n : Int) + 1024 + 11 := IntWalk.i64_in _ (by omega)
  have w3 : IntKind.i64.wrap (24 * ((n : Int) + 1024 + 11)) = 24 * ((n : Int) + 1024 + 11) := IntWalk.i64_in _ (by omega)
  go_enter Tryz.func71, Tryz.ntmps71
  go_upto_region 1 with fail
  refine co2 _ X n 11 10 1024 24 _ _ _ _ _ _ _ _ _ _ _ _ _ _ w hX (IntWalk.i64_in _ (by omega)) (fun _ => rfl) w1 w2 w3 (hidden places_11) (hidden ?_)
  intro wz hz
  have BF := hidden hz
  clear hz w1 w2 w3
  go_wp2_with fail
  refine bodyPost_ret (v := .int .i64 (24 * ((n : Int) + 1024 + 11))) (by simp [results, Tryz.results71, go_sem]) rfl ⟨rfl, BF.out⟩
set_option maxRecDepth 100000 in
set_option maxHeartbeats 4000000 in
theorem cost2_12 (n X : Nat) (hn : n ≤ 8192) (w : World) (hX : w.cell? ⟨X, 0, none⟩ = some (.int .i64 (n : Int))) :
    Calls Tryz.prog 71 #[.int .i64 12, .pointer (some ⟨X, 0, none⟩)] w fun e w' => e = .returned (.int .i64 (22 * ((n : Int) + 2048 + 12))) ∧ Below w.heap.size w w' := by
  have w1 : IntKind.i64.wrap ((n : Int) + 2048) = (n : Int) + 2048 := IntWalk.i64_in _ (by omega)
  have w2 : IntKind.i64.wrap ((n : Int) + 2048 + 12) = (n : Int) + 2048 + 12 := IntWalk.i64_in _ (by omega)
  have w3 : IntKind.i64.wrap (22 * ((n : Int) + 2048 + 12)) = 22 * ((n : Int) + 2048 + 12) := IntWalk.i64_in _ (by omega)
  go_enter Tryz.func71, Tryz.ntmps71
  go_upto_region 1 with fail
  refine co2 _ X n 12 11 2048 22 _ _ _ _ _ _ _ _ _ _ _ _ _ _ w hX (IntWalk.i64_in _ (by omega)) (fun _ => rfl) w1 w2 w3 (hidden places_12) (hidden ?_)
  intro wz hz
  have BF := hidden hz
  clear hz w1 w2 w3
  go_wp2_with fail
  refine bodyPost_ret (v := .int .i64 (22 * ((n : Int) + 2048 + 12))) (by simp [results, Tryz.results71, go_sem]) rfl ⟨rfl, BF.out⟩
set_option maxRecDepth 100000 in
set_option maxHeartbeats 4000000 in
theorem least_1 (C : Nat → Int) (T X : Nat) (hT1 : 1 ≤ T) (hT : T ≤ 12) (w : World) (hC : ∀ m : Nat, 1 ≤ m → m ≤ T → ∀ x, Below w.heap.size w x → Calls Tryz.prog 70 #[.int .i64 (m : Int), .pointer (some ⟨X, 0, none⟩)] x fun e w' => e = .returned (.int .i64 (C m)) ∧ Below x.heap.size x w') :
    Calls Tryz.prog 48 #[.int .i64 (T : Int), .func (.func 70) #[] #[.pointer (some ⟨X, 0, none⟩)]] w fun e w' => ∃ b : Nat, e = .returned (.tuple #[.int .i64 (b : Int), .int .i64 (C b)]) ∧ 1 ≤ b ∧ b ≤ T ∧ (∀ m, 1 ≤ m → m ≤ T → C b ≤ C m) ∧ Below w.heap.size w w' := by
  have HC := hidden hC
  have HT : Hid (1 ≤ T ∧ T ≤ 12) := hidden ⟨hT1, hT⟩
  have C1 := hidden (hC 1 (by omega) hT1 w (Below.refl _ _))
  simp only [Int.natCast_one] at C1
  clear hC hT1 hT
  go_enter Tryz.func48, Tryz.ntmps48
  go_wp2_with (first | (go_at_call 70; refine C1.out.mono ?_; rintro e wa ⟨rfl, ha⟩; have B1 := hidden ha; clear ha))
  go_loopw [6, 7, 8] (fun bv lv mv w' => ∃ b m : Nat, bv = .int .i64 (b : Int) ∧ lv = .int .i64 (C b) ∧ mv = .int .i64 (m : Int) ∧ Hid (1 ≤ b ∧ b < m ∧ 2 ≤ m ∧ m ≤ T + 1 ∧ (∀ k, 1 ≤ k → k < m → C b ≤ C k) ∧ Below w.heap.size w w')) (fun _ _ m _ => T + 1 - (intOf m).toNat)
  case atStart => exact ⟨1, 2, rfl, rfl, rfl, hidden ⟨by omega, by omega, by omega, by have := HT.out; omega, fun k h1 h2 => by rw [show k = 1 by omega]; exact Int.le_refl _, B1.out⟩⟩
  case round =>
    obtain ⟨b, m, rfl, rfl, rfl, ST⟩ := hrel
    by_cases hm : m ≤ T
    · have m1 : (m : Int) ≤ (T : Int) := by omega
      have w9 : IntKind.i64.wrap ((m : Int) + 1) = (m : Int) + 1 := IntWalk.i64_in _ (by have := HT.out; omega)
      have CM := hidden (HC.out m (by have := ST.out; omega) hm wr ST.out.2.2.2.2.2)
      have HM := hidden hm
      obtain ⟨cm, hcm⟩ : ∃ c, C m = c := ⟨_, rfl⟩
      obtain ⟨cb, hcb⟩ : ∃ c, C b = c := ⟨_, rfl⟩
      rw [hcm] at CM
      have HCM := hidden hcm
      have HCB := hidden hcb
      rw [hcb]
      clear hm hcm hcb
      by_cases hlt : cm < cb
      · go_wp2_with (first | (go_at_call 70; refine CM.out.mono ?_; rintro e wb ⟨rfl, hb⟩; have B2 := hidden (bl_trans ST.out.2.2.2.2.2 hb); clear hb))
        go_roundw
        case rel => exact ⟨m, m + 1, rfl, by rw [HCM.out], by go_num, hidden ⟨by have := ST.out; omega, by omega, by have := ST.out; omega, by have := HM.out; omega, fun k h1 h2 => by
          by_cases e : k = m
          · subst e; exact Int.le_refl _
          · have := ST.out.2.2.2.2.1 k h1 (by omega); have := HCM.out; have := HCB.out; omega, B2.out⟩⟩
        case measure => have := HM.out; simp [intOf]; omega
      · go_wp2_with (first | (go_at_call 70; refine CM.out.mono ?_; rintro e wb ⟨rfl, hb⟩; have B2 := hidden (bl_trans ST.out.2.2.2.2.2 hb); clear hb))
        go_roundw
        case rel => exact ⟨b, m + 1, rfl, by rw [HCB.out], by go_num, hidden ⟨by have := ST.out; omega, by have := ST.out; omega, by have := ST.out; omega, by have := HM.out; omega, fun k h1 h2 => by
          by_cases e : k = m
          · subst e; have := HCM.out; have := HCB.out; omega
          · exact ST.out.2.2.2.2.1 k h1 (by omega), B2.out⟩⟩
        case measure => have := HM.out; simp [intOf]; omega
    · have m1 : ¬ (m : Int) ≤ (T : Int) := by omega
      have HM := hidden hm
      clear hm
      go_wp2_with fail
      refine bodyPost_ret (v := .tuple #[.int .i64 (b : Int), .int .i64 (C b)]) (by simp [results, Tryz.results48, go_sem]) rfl ⟨b, rfl, ST.out.1, by have := ST.out; omega, fun k h1 h2 => ST.out.2.2.2.2.1 k h1 (by have := HM.out; omega), ST.out.2.2.2.2.2⟩
set_option maxRecDepth 100000 in
set_option maxHeartbeats 4000000 in
theorem least_2 (C : Nat → Int) (T X : Nat) (hT1 : 1 ≤ T) (hT : T ≤ 12) (w : World) (hC : ∀ m : Nat, 1 ≤ m → m ≤ T → ∀ x, Below w.heap.size w x → Calls Tryz.prog 71 #[.int .i64 (m : Int), .pointer (some ⟨X, 0, none⟩)] x fun e w' => e = .returned (.int .i64 (C m)) ∧ Below x.heap.size x w') :
    Calls Tryz.prog 48 #[.int .i64 (T : Int), .func (.func 71) #[] #[.pointer (some ⟨X, 0, none⟩)]] w fun e w' => ∃ b : Nat, e = .returned (.tuple #[.int .i64 (b : Int), .int .i64 (C b)]) ∧ 1 ≤ b ∧ b ≤ T ∧ (∀ m, 1 ≤ m → m ≤ T → C b ≤ C m) ∧ Below w.heap.size w w' := by
  have HC := hidden hC
  have HT : Hid (1 ≤ T ∧ T ≤ 12) := hidden ⟨hT1, hT⟩
  have C1 := hidden (hC 1 (by omega) hT1 w (Below.refl _ _))
  simp only [Int.natCast_one] at C1
  clear hC hT1 hT
  go_enter Tryz.func48, Tryz.ntmps48
  go_wp2_with (first | (go_at_call 71; refine C1.out.mono ?_; rintro e wa ⟨rfl, ha⟩; have B1 := hidden ha; clear ha))
  go_loopw [6, 7, 8] (fun bv lv mv w' => ∃ b m : Nat, bv = .int .i64 (b : Int) ∧ lv = .int .i64 (C b) ∧ mv = .int .i64 (m : Int) ∧ Hid (1 ≤ b ∧ b < m ∧ 2 ≤ m ∧ m ≤ T + 1 ∧ (∀ k, 1 ≤ k → k < m → C b ≤ C k) ∧ Below w.heap.size w w')) (fun _ _ m _ => T + 1 - (intOf m).toNat)
  case atStart => exact ⟨1, 2, rfl, rfl, rfl, hidden ⟨by omega, by omega, by omega, by have := HT.out; omega, fun k h1 h2 => by rw [show k = 1 by omega]; exact Int.le_refl _, B1.out⟩⟩
  case round =>
    obtain ⟨b, m, rfl, rfl, rfl, ST⟩ := hrel
    by_cases hm : m ≤ T
    · have m1 : (m : Int) ≤ (T : Int) := by omega
      have w9 : IntKind.i64.wrap ((m : Int) + 1) = (m : Int) + 1 := IntWalk.i64_in _ (by have := HT.out; omega)
      have CM := hidden (HC.out m (by have := ST.out; omega) hm wr ST.out.2.2.2.2.2)
      have HM := hidden hm
      obtain ⟨cm, hcm⟩ : ∃ c, C m = c := ⟨_, rfl⟩
      obtain ⟨cb, hcb⟩ : ∃ c, C b = c := ⟨_, rfl⟩
      rw [hcm] at CM
      have HCM := hidden hcm
      have HCB := hidden hcb
      rw [hcb]
      clear hm hcm hcb
      by_cases hlt : cm < cb
      · go_wp2_with (first | (go_at_call 71; refine CM.out.mono ?_; rintro e wb ⟨rfl, hb⟩; have B2 := hidden (bl_trans ST.out.2.2.2.2.2 hb); clear hb))
        go_roundw
        case rel => exact ⟨m, m + 1, rfl, by rw [HCM.out], by go_num, hidden ⟨by have := ST.out; omega, by omega, by have := ST.out; omega, by have := HM.out; omega, fun k h1 h2 => by
          by_cases e : k = m
          · subst e; exact Int.le_refl _
          · have := ST.out.2.2.2.2.1 k h1 (by omega); have := HCM.out; have := HCB.out; omega, B2.out⟩⟩
        case measure => have := HM.out; simp [intOf]; omega
      · go_wp2_with (first | (go_at_call 71; refine CM.out.mono ?_; rintro e wb ⟨rfl, hb⟩; have B2 := hidden (bl_trans ST.out.2.2.2.2.2 hb); clear hb))
        go_roundw
        case rel => exact ⟨b, m + 1, rfl, by rw [HCB.out], by go_num, hidden ⟨by have := ST.out; omega, by have := ST.out; omega, by have := ST.out; omega, by have := HM.out; omega, fun k h1 h2 => by
          by_cases e : k = m
          · subst e; have := HCM.out; have := HCB.out; omega
          · exact ST.out.2.2.2.2.1 k h1 (by omega), B2.out⟩⟩
        case measure => have := HM.out; simp [intOf]; omega
    · have m1 : ¬ (m : Int) ≤ (T : Int) := by omega
      have HM := hidden hm
      clear hm
      go_wp2_with fail
      refine bodyPost_ret (v := .tuple #[.int .i64 (b : Int), .int .i64 (C b)]) (by simp [results, Tryz.results48, go_sem]) rfl ⟨b, rfl, ST.out.1, by have := ST.out; omega, fun k h1 h2 => ST.out.2.2.2.2.1 k h1 (by have := HM.out; omega), ST.out.2.2.2.2.2⟩
theorem cost1_all (n X : Nat) (hn : n ≤ 8192) (m : Nat) (h1 : 1 ≤ m) (h2 : m ≤ 8) (w : World) (hX : w.cell? ⟨X, 0, none⟩ = some (.int .i64 (n : Int))) :
    Calls Tryz.prog 70 #[.int .i64 (m : Int), .pointer (some ⟨X, 0, none⟩)] w fun e w' => e = .returned (.int .i64 (cst1 n m)) ∧ Below w.heap.size w w' := by
  obtain rfl | rfl | rfl | rfl | rfl | rfl | rfl | rfl : m = 1 ∨ m = 2 ∨ m = 3 ∨ m = 4 ∨ m = 5 ∨ m = 6 ∨ m = 7 ∨ m = 8 := by omega
  · exact cost1_1 n X hn w hX
  · exact cost1_2 n X hn w hX
  · exact cost1_3 n X hn w hX
  · exact cost1_4 n X hn w hX
  · exact cost1_5 n X hn w hX
  · exact cost1_6 n X hn w hX
  · exact cost1_7 n X hn w hX
  · exact cost1_8 n X hn w hX
theorem cost2_all (n X : Nat) (hn : n ≤ 8192) (m : Nat) (h1 : 1 ≤ m) (h2 : m ≤ 12) (w : World) (hX : w.cell? ⟨X, 0, none⟩ = some (.int .i64 (n : Int))) :
    Calls Tryz.prog 71 #[.int .i64 (m : Int), .pointer (some ⟨X, 0, none⟩)] w fun e w' => e = .returned (.int .i64 (cst2 n m)) ∧ Below w.heap.size w w' := by
  obtain rfl | rfl | rfl | rfl | rfl | rfl | rfl | rfl | rfl | rfl | rfl | rfl : m = 1 ∨ m = 2 ∨ m = 3 ∨ m = 4 ∨ m = 5 ∨ m = 6 ∨ m = 7 ∨ m = 8 ∨ m = 9 ∨ m = 10 ∨ m = 11 ∨ m = 12 := by omega
  · exact cost2_1 n X hn w hX
  · exact cost2_2 n X hn w hX
  · exact cost2_3 n X hn w hX
  · exact cost2_4 n X hn w hX
  · exact cost2_5 n X hn w hX
  · exact cost2_6 n X hn w hX
  · exact cost2_7 n X hn w hX
  · exact cost2_8 n X hn w hX
  · exact cost2_9 n X hn w hX
  · exact cost2_10 n X hn w hX
  · exact cost2_11 n X hn w hX
  · exact cost2_12 n X hn w hX
end Go.Proofs.YtapieajkmpnmoaaGreatDoor.Li
namespace Go.Proofs.YtapieajkmpnmoaaGreatDoor.Li
open Go.RowKit
set_option linter.unusedVariables false
set_option maxRecDepth 100000 in
set_option maxHeartbeats 2000000 in
theorem cheapest_any (H N L lo cap : Nat) (ks : Nat → E4) (fs : Nat → Nat → Int) (w : World) (hN : N ≤ 50) (hT : Tb w) (hH : Hd w H) (hTm : Tm w L lo N ks fs) :
    Calls Tryz.prog 56 #[.pointer (some ⟨H, 0, none⟩), .slice (some ⟨L, lo, none⟩) N cap] w fun e w' => Hp w w' H e (fun t => tot (fun q => (ks q).n * fs q t) N) := by
  have B2 := bl_alloc2 w (.cells #[.int .u64 0, .int .u64 0, .int .u64 0, .int .u64 0] 51) (.cells #[.int .i64 (N : Int)] 3)
  have e4 : ((w.alloc (.cells #[.int .u64 0, .int .u64 0, .int .u64 0, .int .u64 0] 51)).alloc (.cells #[.int .i64 (N : Int)] 3)).rangeAt w.heap.size 0 [.int .u64 0, .int .u64 0, .int .u64 0, .int .u64 0] := range_bl (range_newM w [.int .u64 0, .int .u64 0, .int .u64 0, .int .u64 0] 51) (bl_alloc _ _)
  have f4 : ∀ j, j < 4 → ((w.alloc (.cells #[.int .u64 0, .int .u64 0, .int .u64 0, .int .u64 0] 51)).alloc (.cells #[.int .i64 (N : Int)] 3)).frozen? ⟨w.heap.size, j, none⟩ = false := fun j _ => by go_simp
  have e5 : ((w.alloc (.cells #[.int .u64 0, .int .u64 0, .int .u64 0, .int .u64 0] 51)).alloc (.cells #[.int .i64 (N : Int)] 3)).cell? ⟨w.heap.size + 1, 0, none⟩ = some (.int .i64 (N : Int)) := by go_simp
  obtain ⟨w2, hw2⟩ : ∃ w2, ((w.alloc (.cells #[.int .u64 0, .int .u64 0, .int .u64 0, .int .u64 0] 51)).alloc (.cells #[.int .i64 (N : Int)] 3)) = w2 := ⟨_, rfl⟩
  rw [hw2] at B2 e4 e5
  simp only [hw2] at f4
  have LH := hidden hH.lt
  have L1 := hidden (least_1 (fun m => cst1 N m) 8 (w.heap.size + 1) (by omega) (by omega) w2 (fun m h1 h2 x hx => cost1_all N (w.heap.size + 1) (by omega) m h1 h2 x (cell_keep e5 hx)))
  have L2 := hidden (fun (x : World) (hx : Below w2.heap.size w2 x) => least_2 (fun m => cst2 N m) 12 (w.heap.size + 1) (by omega) (by omega) x (fun m h1 h2 x' hx' => cost2_all N (w.heap.size + 1) (by omega) m h1 h2 x' (cell_keep e5 (bl_trans hx hx'))))
  have SS := hidden (fun (m : Nat) (h1 : 1 ≤ m) (h2 : m ≤ 8) (x : World) (hx : Below w2.heap.size w2 x) => straus_any H m N L lo cap ks fs x h1 h2 (by omega) (hT.keep (bl_trans B2 hx)) (hH.keep (bl_trans B2 hx)) (hTm.keep (bl_trans B2 hx)) (fun y D s xx a b c d => join_any H m D (253 / m + 1) s xx y h2 (by have := Nat.div_le_self 253 m; omega) a b c d))
  have FM := hidden (few_many N hN)
  have E4 := hidden (And.intro e4 f4)
  have HB := hidden B2
  clear hT hH hTm hN e4 f4 e5 B2
  simp only [show ((8 : Nat) : Int) = 8 from rfl] at L1
  simp only [show ((12 : Nat) : Int) = 12 from rfl] at L2
  have n4 : w.heap.size ≠ H := by have := LH.out; omega
  go_enter Tryz.func56, Tryz.ntmps56
  go_upto_region 2 with fail
  go_wp2_with (first
    | (go_at_call 48; refine L1.out.mono ?_; rintro e wa ⟨b1, rfl, h11, h12, h13, ha⟩; have A1 : Hid (1 ≤ b1 ∧ b1 ≤ 8 ∧ (∀ m, 1 ≤ m → m ≤ 8 → cst1 N b1 ≤ cst1 N m) ∧ Below w2.heap.size w2 wa) := hidden ⟨h11, h12, h13, ha⟩; clear h11 h12 h13 ha L1)
    | (go_at_call 48; refine (L2.out _ A1.out.2.2.2).mono ?_; rintro e wb ⟨b2, rfl, h21, h22, -, hb⟩; have lt := FM.out b1 b2 h21 h22 A1.out.2.2.1; have A2 := hidden (bl_trans A1.out.2.2.2 hb); clear h21 h22 hb L2)
    | (go_at_call 72; refine (SS.out b1 A1.out.1 A1.out.2.1 _ A2.out).mono ?_; rintro e wc ⟨r, rfl, hr, hHc, hgc⟩; have RB := range_bl E4.out.1 A2.out; have RC := range_gb RB hgc n4; have q0 : wc.cell? ⟨w.heap.size, 0, none⟩ = some (.int .u64 0) := RC 0 _ rfl; have q1 : wc.cell? ⟨w.heap.size, 1, none⟩ = some (.int .u64 0) := RC 1 _ rfl; have q2 : wc.cell? ⟨w.heap.size, 2, none⟩ = some (.int .u64 0) := RC 2 _ rfl; have q3 : wc.cell? ⟨w.heap.size, 3, none⟩ = some (.int .u64 0) := RC 3 _ rfl
       have lt0 := World.block_lt_of_cell? _ _ (E4.out.1 0 _ rfl); have fz : ∀ j, j < 4 → wc.frozen? ⟨w.heap.size, j, none⟩ = false := (fun j hj => (gb_frozen_some hgc (some4 RB hj) n4).trans (((bcell A2.out).2 _ j lt0).trans (E4.out.2 j hj))); have v0 := fz 0 (by omega); have v1 := fz 1 (by omega); have v2 := fz 2 (by omega); have v3 := fz 3 (by omega); have RR := hidden (And.intro hr (And.intro hHc hgc)); clear hr hHc hgc SS RB RC fz lt0))
  obtain ⟨hr, hHc, hgc⟩ := RR.out
  have BW := bl_trans HB.out A2.out
  refine bodyPost_ret (v := .agg #[.int .u64 r.x0, .int .u64 r.x1, .int .u64 r.x2, .int .u64 r.x3]) (by simp [results, Tryz.results56, go_sem, q0, q1, q2, q3]) rfl ⟨r, rfl, ⟨hr.1, fun t => (hr.2 t).trans (straus_sum b1 N A1.out.1 ks fs t)⟩, (((hHc.far n4).far n4).far n4).far n4, gb_box (gb_box (gb_box (gb_box ((gbI BW _).trans hgc) (Nat.le_refl _)) (Nat.le_refl _)) (Nat.le_refl _)) (Nat.le_refl _)⟩
end Go.Proofs.YtapieajkmpnmoaaGreatDoor.Li
namespace Go.Proofs.YtapieajkmpnmoaaGreatDoor.Li
open Go.RowKit Go.Shelf
attribute [local go_sem] Oper.semAt_some
set_option linter.unusedVariables false
theorem chunk_any (L lo N cap : Nat) (w : World) : Calls Tryz.prog 54 #[.slice (some ⟨L, lo, none⟩) N cap, .int .i64 8192] w fun e w' => e = .returned (.func (.func 69) #[] #[.pointer (some ⟨w.heap.size, 0, none⟩), .pointer (some ⟨w.heap.size + 1, 0, none⟩)]) ∧ w' = (w.alloc (.cells #[.slice (some ⟨L, lo, none⟩) N cap] 86)).alloc (.cells #[.int .i64 8192] 3) := by
  go_enter Tryz.func54, Tryz.ntmps54
  go_wp2_with fail
  exact bodyPost_ret (v := .func (.func 69) #[] #[.pointer (some ⟨w.heap.size, 0, none⟩), .pointer (some ⟨w.heap.size + 1, 0, none⟩)]) (by simp [results, Tryz.results54, go_sem]) rfl ⟨rfl, rfl⟩
set_option maxRecDepth 100000 in
set_option maxHeartbeats 1000000 in
theorem chunk_stops (F : Fence) (n : Nat) (hf : F.fn 69) (hro : F.round = none) (hn : 1 ≤ n) (B1 B2 L lo N cap : Nat) (hN0 : 1 ≤ N) (hN : N ≤ 50) (hcap : N ≤ cap) (w : World) (c1 : w.cell? ⟨B1, 0, none⟩ = some (.slice (some ⟨L, lo, none⟩) N cap)) (c2 : w.cell? ⟨B2, 0, none⟩ = some (.int .i64 8192)) :
    SeqStopsK (α := Unit) F n Tryz.prog 69 #[.pointer (some ⟨B1, 0, none⟩), .pointer (some ⟨B2, 0, none⟩)] (fun _ => #[.slice (some ⟨L, lo, none⟩) N N]) (KB B1 B2) (fun xs => xs = [()]) (fun _ => True) 1 w := by
  intro l J Jx W hW hJ hJx hY h0
  have d1 := cell_keep c1 hW
  have d2 := cell_keep c2 hW
  clear c1 c2
  show CallsIn F n Tryz.prog 69 #[.func (.yield l) #[] #[], .pointer (some ⟨B1, 0, none⟩), .pointer (some ⟨B2, 0, none⟩)] W _
  refine callsIn_of_wp Tryz.func69 rfl hf ?_ hro
  simp only [Tryz.ntmps69, List.size_toArray, List.length_cons, List.length_nil, Nat.reduceAdd, Nat.reduceSub, Array.replicate_succ, Array.replicate_zero, List.push_toArray, List.append_toArray, List.nil_append, List.cons_append]
  gi_wp2
  gi_loopw [4] (fun i wr => (i = .int .i64 0 ∧ J [] wr ∧ KB B1 B2 W wr) ∨ (i = .int .i64 8192 ∧ J [()] wr ∧ KB B1 B2 W wr))
    (fun i _ => (8192 - intOf i).toNat)
  case atStart => exact .inl ⟨rfl, h0, rfl, rfl⟩
  case round =>
    obtain ⟨rfl, hJs, hk⟩ | ⟨rfl, hJs, hk⟩ := hrel
    · have e1 := hk.1.trans d1
      have e2 := hk.2.trans d2
      have p0 : (0 : Int) < (N : Int) := by omega
      have p1 : (N : Int) < 8192 := by omega
      have p2 : (N : Int) ≤ (cap : Int) := by omega
      have p3 : (0 : Int) ≤ (N : Int) := by omega
      have w1 : IntKind.i64.wrap (0 + (N : Int)) = (N : Int) := by rw [Int.zero_add]; exact IntWalk.i64_in _ (by omega)
      have w2 : IntKind.i64.wrap (N : Int) = (N : Int) := IntWalk.i64_in _ (by omega)
      have w3 : IntKind.i64.wrap (0 + 8192) = 8192 := IntWalk.i64_in _ (by omega)
      have hJd : J [] wr.drew := hJ [] wr wr.drew none hJs (gbI (bl_drew wr) none) (fun r e => by cases e)
      obtain ⟨fn, tmps, assign, body, hy, hR⟩ := hY [] () wr.drew hJd (by simp)
      have e1d : wr.drew.cell? ⟨B1, 0, none⟩ = some (.slice (some ⟨L, lo, none⟩) N cap) := cell_keep e1 (bl_drew _)
      have e2d : wr.drew.cell? ⟨B2, 0, none⟩ = some (.int .i64 8192) := cell_keep e2 (bl_drew _)
      gi_wp2
      gi_region
      all_goals
        gi_wp2
        refine hR.mono ?_
        rintro e W3 (⟨rfl, hJ3, hk3⟩ | ⟨rfl, hJx3⟩)
        · have e3 := hk3.2.trans e2d
          gi_wp2
          go_roundw
          case rel => exact .inr ⟨by go_num, hJ3, ⟨hk3.1.trans (e1d.trans d1.symm), hk3.2.trans (e2d.trans d2.symm)⟩⟩
          case measure => simp [intOf]
        · gi_wp2
          refine bodyPost_ret (results_none rfl _ _ _) rfl ?_
          exact ⟨⟨_, rfl⟩, .inr ⟨_, trivial, hJx3⟩⟩
    · have e1 := hk.1.trans d1
      have p1 : ¬ (8192 : Int) < (N : Int) := by omega
      gi_wp2
      go_end0
      first | exact ⟨⟨_, rfl⟩, .inl ⟨_, rfl, hJs⟩⟩ | exact ⟨⟨_, rfl⟩, .inl hJs⟩
end Go.Proofs.YtapieajkmpnmoaaGreatDoor.Li
