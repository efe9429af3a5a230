import Derived.Test.YtapieajkmpnmoaaGreatDoorOM2
import Derived.RangeFuncNested
import Derived.RangeFuncBound
import Derived.RangeFuncCalls
import Derived.RangeFuncLeaves
import Derived.Shelf.Abstract
import Derived.Shelf.RegionOpen
import Derived.WalkKit
import Derived.OwnWalkIn
import Derived.TacticsInMore
import Derived.LoopNIn
import Derived.LoopIn
namespace Go.Proofs.YtapieajkmpnmoaaGreatDoor
open Go.RowKit
set_option linter.unusedVariables false
def tot (f : Nat → Int) : Nat → Int
  | 0 => 0
  | n + 1 => tot f n + f n
/-- a row of terms -/
structure Tm (w : World) (L lo N : Nat) (ks : Nat → E4) (fs : Nat → Nat → Int) : Prop where
  c0 : ∀ i, i < N → w.cell? ⟨L, lo + i * 5, none⟩ = some (.int .u64 (ks i).x0)
  c1 : ∀ i, i < N → w.cell? ⟨L, lo + i * 5 + 1, none⟩ = some (.int .u64 (ks i).x1)
  c2 : ∀ i, i < N → w.cell? ⟨L, lo + i * 5 + 2, none⟩ = some (.int .u64 (ks i).x2)
  c3 : ∀ i, i < N → w.cell? ⟨L, lo + i * 5 + 3, none⟩ = some (.int .u64 (ks i).x3)
  ok : ∀ i, i < N → (ks i).ok
  p : ∀ i, i < N → ∃ (P : Option Addr) (n c : Nat), w.cell? ⟨L, lo + i * 5 + 4, none⟩ = some (.slice P n c) ∧ Fr w (.agg #[.slice P n c]) (fs i)
theorem Tm.hand {w w' : World} {L lo N H : Nat} {ks : Nat → E4} {fs : Nat → Nat → Int} (h : Tm w L lo N ks fs) (hH : Hd w H) (hg : w.grownBy w' (some H)) : Tm w' L lo N ks fs := by
  have k : ∀ i, i < N → L ≠ H := fun i hi e => hH.no64 (e ▸ h.c0 i hi)
  refine ⟨fun i hi => hg.cell (h.c0 i hi) (fun e => k i hi (Option.some.inj e)), fun i hi => hg.cell (h.c1 i hi) (fun e => k i hi (Option.some.inj e)), fun i hi => hg.cell (h.c2 i hi) (fun e => k i hi (Option.some.inj e)), fun i hi => hg.cell (h.c3 i hi) (fun e => k i hi (Option.some.inj e)), h.ok, fun i hi => ?_⟩
  obtain ⟨P, n, c, h1, h2⟩ := h.p i hi
  exact ⟨P, n, c, hg.cell h1 (fun e => k i hi (Option.some.inj e)), h2.hand hH hg⟩
theorem Tm.keep {w w' : World} {L lo N : Nat} {ks : Nat → E4} {fs : Nat → Nat → Int} (h : Tm w L lo N ks fs) (hb : Below w.heap.size w w') : Tm w' L lo N ks fs := by
  refine ⟨fun i hi => cell_keep (h.c0 i hi) hb, fun i hi => cell_keep (h.c1 i hi) hb, fun i hi => cell_keep (h.c2 i hi) hb, fun i hi => cell_keep (h.c3 i hi) hb, h.ok, fun i hi => ?_⟩
  obtain ⟨P, n, c, h1, h2⟩ := h.p i hi
  exact ⟨P, n, c, cell_keep h1 hb, h2.keep hb⟩
theorem Rwi.gb {w w' : World} {b n H : Nat} {f : Nat → Int} (h : Rwi w b n f) (hg : w.grownBy w' (some H)) (hn : b ≠ H) : Rwi w' b n f :=
  ⟨fun j hj => hg.cell (h.c j hj) (fun e => hn (Option.some.inj e)), fun j hj => (gb_frozen_some hg (by rw [h.c j hj]; rfl) hn).trans (h.fr j hj), Nat.lt_of_lt_of_le h.lt hg.size⟩
theorem Ml.apart {w w' : World} {M D K i : Nat} {f : Nat → Int} (h : Ml w M K i f) (no : ∀ o z, w.cell? ⟨D, o, none⟩ ≠ some (.int .u64 z)) (hg : w.grownBy w' (some D)) (hn : M ≠ D) : Ml w' M K i f := by
  have e : ∀ o, w'.cell? ⟨M, o, none⟩ = w.cell? ⟨M, o, none⟩ := fun o => World.cell?_of_block (hg.block M h.lt (fun e => hn (Option.some.inj e)))
  have e2 : ∀ o, w'.frozen? ⟨M, o, none⟩ = w.frozen? ⟨M, o, none⟩ := fun o => World.frozen?_of_block (hg.block M h.lt (fun e => hn (Option.some.inj e)))
  refine ⟨fun j hj => ?_, fun j hj => by rw [e]; exact h.z j hj, fun j hj => by rw [e2]; exact h.fr j hj, fun o z => by rw [e]; exact h.no o z, Nat.lt_of_lt_of_le h.lt hg.size⟩
  obtain ⟨P, n, c, h1, h2⟩ := h.s j hj
  exact ⟨P, n, c, by rw [e]; exact h1, h2.apart no hg⟩
/-- between two digits -/
def Sd (w1 w' : World) (H D K M T B m : Nat) (d : Nat → Int) (f : Nat → Int) (x : Nat → Nat → Int) (i : Nat) : Prop := (∃ s, Pl w' D K s (fun q t => x q t + if q < i then d q * f t else 0)) ∧ Hd w' H ∧ Tb w' ∧ w1.grownBy w' (some H) ∧ Ml w' M T T f ∧ Rwi w' B K d
theorem Sd.step {w1 w' w2 : World} {H D K M T B m i : Nat} {d f g : Nat → Int} {x : Nat → Nat → Int} {s s' : Nat → Bool} (h : Sd w1 w' H D K M T B m d f x i) (hD : w1.heap.size ≤ D) (hDH : D ≠ H) (hMD : M ≠ D) (hMH : M ≠ H) (hBD : B ≠ D) (hBH : B ≠ H) (htb : 0 ≠ D) (hP0 : Pl w' D K s (fun q t => x q t + if q < i then d q * f t else 0)) (hP : Pl w2 D K s' (fun j => if j = i then (fun t => (x i t + if i < i then d i * f t else 0) + g t) else (fun t => x j t + if j < i then d j * f t else 0))) (hg : ∀ t, lst (g t) = lst (d i * f t)) (hH : Hd w2 H) (hm : ∃ wm, w'.grownBy wm (some H) ∧ Hd wm H ∧ wm.grownBy w2 (some D)) : Sd w1 w2 H D K M T B m d f x (i + 1) := by
  obtain ⟨-, h2, h3, h4, h5, h6⟩ := h
  obtain ⟨wm, g1, hm1, g2⟩ := hm
  have no := (hP0.hand h2 g1 hDH).no
  have tb : 0 ≠ H := h2.tb h3
  refine ⟨⟨s', hP.congr (fun j hj t => ?_)⟩, hH, (h3.keep0 g1 tb).keep0 g2 htb, ?_, (h5.hand h2 g1 hMH).apart no g2 hMD, (h6.gb g1 hBH).gb g2 hBD⟩
  · by_cases e : j = i
    · subst e
      simp only [if_pos, Nat.lt_irrefl, if_false, if_pos (Nat.lt_succ_self j), Int.add_zero]
      exact lst_two rfl (hg t)
    · simp only [if_neg e]
      by_cases e2 : j < i
      · rw [if_pos e2, if_pos (show j < i + 1 by omega)]
      · rw [if_neg e2, if_neg (show ¬ j < i + 1 by omega)]
  · have a := h4.trans g1
    exact ⟨g2.os.trans a.os, g2.tape.trans a.tape, g2.output.trans a.output, Nat.le_trans a.size g2.size, fun k hk hn => (g2.block k (Nat.lt_of_lt_of_le hk a.size) (fun e => by have := Option.some.inj e; omega)).trans (a.block k hk hn)⟩
theorem Sd.idle {w1 w' : World} {H D K M T B m i : Nat} {d f : Nat → Int} {x : Nat → Nat → Int} (h : Sd w1 w' H D K M T B m d f x i) (hd : d i = 0) : Sd w1 w' H D K M T B m d f x (i + 1) := by
  obtain ⟨⟨s, h1⟩, h2⟩ := h
  refine ⟨⟨s, h1.congr (fun j hj t => ?_)⟩, h2⟩
  by_cases e : j = i
  · subst e; rw [if_neg (Nat.lt_irrefl j), if_pos (Nat.lt_succ_self j), hd, Int.zero_mul]
  · by_cases e2 : j < i
    · rw [if_pos e2, if_pos (show j < i + 1 by omega)]
    · rw [if_neg e2, if_neg (show ¬ j < i + 1 by omega)]
end Go.Proofs.YtapieajkmpnmoaaGreatDoor
namespace Go.Proofs.YtapieajkmpnmoaaGreatDoor
open Go.RowKit
set_option linter.unusedVariables false
theorem pinfo3 : (Tryz.prog.info? 128).map (fun i => (i.zero, i.size, i.bytes)) = some (some (.agg #[.slice none 0 0, .bool false]), 2, 32) := by kernel_rfl
/-- an answer of a hand, which may be the neutral element's zero value -/
def Hp (w w' : World) (H : Nat) (e : Ending) (x : Nat → Int) : Prop := ∃ (P : Option Addr) (m c : Nat), e = .returned (.agg #[.slice P m c]) ∧ (∀ a, P = some a → w.heap.size ≤ a.block) ∧ Fr w' (.agg #[.slice P m c]) x ∧ Hd w' H ∧ w.grownBy w' (some H)
/-- between two terms -/
def St2 (w1 w' : World) (H D K m : Nat) (ks : Nat → E4) (fs : Nat → Nat → Int) (j : Nat) : Prop := (∃ s, Pl w' D K s (fun i t => tot (fun q => dg (lst (ks q).n).n m i * fs q t) j)) ∧ Hd w' H ∧ Tb w' ∧ w1.grownBy w' (some H)

set_option maxRecDepth 100000 in
set_option maxHeartbeats 4000000 in
theorem straus_any (H m N L lo cap : Nat) (ks : Nat → E4) (fs : Nat → Nat → Int) (w : World) (hm1 : 1 ≤ m) (hm : m ≤ 8) (hN : N ≤ 8192) (hT : Tb w) (hH : Hd w H) (hTm : Tm w L lo N ks fs)
    (hJ : ∀ (x : World) (D : Nat) (s : Nat → Bool) (xx : Nat → Nat → Int), Tb x → Hd x H → Pl x D (253 / m + 1) s xx → D ≠ H → Calls Tryz.prog 61 #[.pointer (some ⟨H, 0, none⟩), .int .i64 (m : Int), .slice (some ⟨D, 0, none⟩) (253 / m + 1) (253 / m + 1)] x fun e w' => Hp x w' H e (fun t => tot (fun i => 2 ^ (m * i) * xx i t) (253 / m + 1))) :
    Calls Tryz.prog 52 #[.pointer (some ⟨H, 0, none⟩), .int .i64 (m : Int), .slice (some ⟨L, lo, none⟩) N cap] w fun e w' => Hp w w' H e (fun t => tot (fun i => 2 ^ (m * i) * tot (fun q => dg (lst (ks q).n).n m i * fs q t) N) (253 / m + 1)) := by
  have k1 : 253 / m + 1 ≤ 254 := by have := Nat.div_le_self 253 m; omega
  have PC := hidden (places_any m hm1 (by omega))
  obtain ⟨K, hK⟩ : ∃ K, 253 / m + 1 = K := ⟨_, rfl⟩
  rw [hK] at hJ PC k1 ⊢
  have nn0 : (0 : Int) ≤ (K : Int) := by omega
  obtain ⟨i0, hi, hz0, hz1, hz2⟩ := info_parts pinfo3
  have hmk := fun w => run_make (P := Tryz.prog) w 119 128 i0 (.agg #[.slice none 0 0, .bool false]) (by kernel_rfl) hi hz0 .i64 .i64 (K : Int) (K : Int) (by omega) (Int.le_refl _) (by rw [hz2]; omega) (by omega)
  have tn : ((K : Int)).toNat = K := by omega
  simp only [tn, hz1, Value.cells] at hmk
  clear tn hi hz0 hz1 hz2
  have LH := hidden hH.lt
  have B1 := bl_alloc w (.cells #[.slice none 0 0] 32)
  have e6 : (w.alloc (.cells #[.slice none 0 0] 32)).cell? ⟨w.heap.size, 0, none⟩ = some (.slice none 0 0) := by go_simp
  have f6 : (w.alloc (.cells #[.slice none 0 0] 32)).frozen? ⟨w.heap.size, 0, none⟩ = false := by go_simp
  have S1 : (w.alloc (.cells #[.slice none 0 0] 32)).heap.size = w.heap.size + 1 := by simp only [World.size_alloc]
  have H1 := hH.keep B1
  have T1 := hT.keep B1
  have M1 := hTm.keep B1
  obtain ⟨w1, hw1⟩ : ∃ w1, w.alloc (.cells #[.slice none 0 0] 32) = w1 := ⟨_, rfl⟩
  rw [hw1] at B1 e6 f6 S1 H1 T1 M1
  have W1 : Hid (w1.cell? ⟨w.heap.size, 0, none⟩ = some (.slice none 0 0) ∧ w1.frozen? ⟨w.heap.size, 0, none⟩ = false ∧ w1.heap.size = w.heap.size + 1 ∧ Hd w1 H ∧ Tb w1 ∧ Tm w1 L lo N ks fs ∧ Below w.heap.size w w1) := hidden ⟨e6, f6, S1, H1, T1, M1, B1⟩
  have ZJ := hidden hJ
  have HN : Hid (1 ≤ m ∧ m ≤ 8 ∧ N ≤ 8192 ∧ K ≤ 254 ∧ 253 / m + 1 = K) := hidden ⟨hm1, hm, hN, k1, hK⟩
  clear e6 f6 S1 H1 T1 M1 B1 hT hH hTm hJ hm1 hm hN k1 hK
  go_enter Tryz.func52, Tryz.ntmps52
  go_upto_region 1 with fail
  go_upto_region 2 with (first | (go_at_call 50; refine (PC.out _).mono ?_; rintro e wa ⟨rfl, ha⟩; have BA := hidden ha; clear ha PC))
  clear hmk hw1
  have ST : Hid (St2 w1 (wa.alloc (.cells (madeCells #[.slice none 0 0, .bool false] (K * 2)) 128)) H wa.heap.size K m ks fs 0) := hidden (by
    have b := bl_trans BA.out (bl_alloc wa (.cells (madeCells #[.slice none 0 0, .bool false] (K * 2)) 128))
    exact ⟨⟨_, Pl.made wa K 128⟩, W1.out.2.2.2.1.keep b, W1.out.2.2.2.2.1.keep b, gbI b _⟩)
  have HD : Hid (w1.heap.size ≤ wa.heap.size) := hidden BA.out.size
  generalize wa.alloc (.cells (madeCells #[.slice none 0 0, .bool false] (K * 2)) 128) = w2 at *
  generalize wa.heap.size = D at *
  clear BA
  go_wp2_with fail
  go_loopw [20] (fun jv w' => ∃ j : Nat, j ≤ N ∧ jv = .int .i64 j ∧ Hid (St2 w1 w' H D K m ks fs j)) (fun j _ => N - (intOf j).toNat)
  case atStart => exact ⟨0, by omega, rfl, ST⟩
  case round =>
    clear ST
    obtain ⟨j, hj, rfl, ST⟩ := hrel
    by_cases hjn : j < N
    · have jj0 : (0 : Int) ≤ (j : Int) := by omega
      have jj1 : (j : Int) < (N : Int) := by omega
      have w9 : IntKind.i64.wrap ((j : Int) + 1) = (j : Int) + 1 := IntWalk.i64_in _ (by have := HN.out; omega)
      have HJN := hidden hjn
      have TM := W1.out.2.2.2.2.2.1.hand W1.out.2.2.2.1 ST.out.2.2.2
      have x0 := TM.c0 j hjn; have x1 := TM.c1 j hjn; have x2 := TM.c2 j hjn; have x3 := TM.c3 j hjn
      obtain ⟨P, n, c, x4, xf⟩ := TM.p j hjn
      have xo := TM.ok j hjn
      clear TM
      obtain ⟨z, hz⟩ : ∃ z, ks j = z := ⟨_, rfl⟩
      rw [hz] at x0 x1 x2 x3 xo
      have HZ := hidden hz
      obtain ⟨f, hf⟩ : ∃ f, fs j = f := ⟨_, rfl⟩
      rw [hf] at xf
      have HF := hidden hf
      have DI := hidden (fun x T => Digits_in z m x T xo HN.out.1 (by have := HN.out; omega))
      simp only [HN.out.2.2.2.2, E4.v] at DI
      obtain ⟨d, hd⟩ : ∃ d, dg (lst z.n).n m = d := ⟨_, rfl⟩
      rw [hd] at DI
      have DR : Hid (∀ q, -(2 ^ (m - 1)) ≤ d q ∧ d q ≤ 2 ^ (m - 1)) := hidden (fun q => by rw [← hd]; have := dg_range (lst z.n).n m q HN.out.1; omega)
      have HDD := hidden hd
      have B2 := bl_alloc wr (.cells #[.int .u64 z.x0, .int .u64 z.x1, .int .u64 z.x2, .int .u64 z.x3, .slice P n c] 68)
      have T2 := hidden (ST.out.2.2.1.keep B2)
      have c4 : (wr.alloc (.cells #[.int .u64 z.x0, .int .u64 z.x1, .int .u64 z.x2, .int .u64 z.x3, .slice P n c] 68)).cell? ⟨wr.heap.size, 4, none⟩ = some (.slice P n c) := by go_simp
      have C4 := hidden c4
      have XF := hidden xf
      have HB2 := hidden B2
      clear hz hf hd xo c4 B2 xf hjn hj
      go_upto_region 6 with (first | (go_at_call 57; refine (DI.out _ T2.out).mono ?_; rintro e wb ⟨B, rfl, hB, hR, hb⟩; have RB := hidden hR; have GB := hidden hB; have BB := hidden hb; clear hR hB hb DI))
      generalize (wr.alloc (.cells #[.int .u64 z.x0, .int .u64 z.x1, .int .u64 z.x2, .int .u64 z.x3, .slice P n c] 68)) = wr2 at *
      clear x0 x1 x2 x3 x4
      have B3 := hidden (bl_trans HB2.out BB.out)
      have NB : Hid (H < wr.heap.size ∧ D < wr.heap.size ∧ D ≠ H ∧ w1.heap.size ≤ D ∧ wr.heap.size ≤ wr2.heap.size ∧ wr2.heap.size ≤ B ∧ 0 < w1.heap.size) := hidden (by
        obtain ⟨⟨s, hP⟩, hH, -⟩ := ST.out
        have h1 := LH.out; have h2 := W1.out.2.2.1; have h3 := HD.out
        have h4 := World.block_lt_of_cell? w1 _ W1.out.2.2.2.2.1.1
        exact ⟨hH.lt, hP.lt, by omega, h3, HB2.out.size, GB.out, h4⟩)
      have P2 : Hid ((2 : Int) ^ (m - 1) ≤ 128 ∧ (0 : Int) ≤ 2 ^ (m - 1)) := hidden (by
        have h1 := pow_le (m - 1) 7 (by have := HN.out; omega)
        have h2 := pow_le 0 (m - 1) (by omega)
        simp at h1 h2
        omega)
      obtain ⟨X, hX⟩ : ∃ X, (fun (i t : Nat) => tot (fun q => dg (lst (ks q).n).n m i * fs q t) j) = X := ⟨_, rfl⟩
      have HX := hidden hX
      refine st6 _ H wr.heap.size B K n c P (fun T => (T : Int) ≤ 128 ∧ ∀ q, q < K → -(T : Int) ≤ d q ∧ d q ≤ (T : Int)) (fun T M w' => Sd w1 w' H D K M T B m d f X 0 ∧ M ≠ D ∧ M ≠ H) _ _ _ _ _ _ _ _ _ _ _ _ _ _ _ _ _ _ _ _ _ _ _ _ _ _ _ _ _ _ _ _ _ _ _ _ _ _ _ _ _ _ _ _ _ _ _ _ _ _ _ _ _ _ _ _ _ _ _ _ _ _ _ _ _ _ _ _ _ _ _ _ _ _ _ _ wb (cell_keep C4.out BB.out) (hidden ?_) (hidden ?_) (hidden ?_)
      · refine (greatest_any B K d (2 ^ (m - 1)) (fun q _ => DR.out q) P2.out.2 (by have := P2.out; omega) (by have := HN.out; omega) wb.drew RB.out.drew).mono ?_
        rintro e w' ⟨t, rfl, h0, h1, h2, hb⟩
        refine ⟨t.toNat, by rw [Int.toNat_of_nonneg h0], ⟨by have := P2.out; omega, fun q hq => ?_⟩, hb⟩
        have := h2 q hq
        omega
      · intro x T hTT hx
        have B4 := bl_trans (bl_trans B3.out (bl_drew wb)) hx
        obtain ⟨⟨s, hP⟩, hH, hT, hg⟩ := ST.out
        have hPx := hP.keep B4
        have hHx := hH.keep B4
        have hTx := hT.keep B4
        refine (multiples_any H T _ f x hTx hHx (XF.out.keep B4) (by have := hTT.1; omega)).mono ?_
        rintro e w' ⟨M, rfl, hM0, hM, hHm, hgm⟩
        have nb := NB.out
        have sx := B4.size
        have sz3 := B3.out.size
        refine ⟨M, rfl, hgm.cell (cell_keep (cell_keep C4.out BB.out) (bl_trans (bl_drew wb) hx)) (fun e => absurd (Option.some.inj e) (show wr.heap.size ≠ H by omega)), ⟨⟨s, (hPx.hand hHx hgm nb.2.2.1).congr (fun i hi t => ?_)⟩, hHm, hTx.keep0 hgm (hHx.tb hTx), (hg.trans (gbI B4 _)).trans hgm, hM, (RB.out.keep (bl_trans (bl_drew wb) hx)).gb hgm (by omega)⟩, by omega, by omega⟩
        rw [← HX.out, if_neg (Nat.not_lt_zero i), Int.add_zero]
      · intro T M wz hTT hRW
        have SD := hidden hRW.1
        have NM := hidden hRW.2
        have HTT := hidden hTT
        clear hTT hRW hX B3 BB RB C4 HB2 T2 XF
        go_wp2_with fail
        go_loopw [39] (fun iv w' => ∃ i : Nat, i ≤ K ∧ iv = .int .i64 i ∧ Hid (Sd w1 w' H D K M T B m d f X i)) (fun i _ => K - (intOf i).toNat)
        case atStart => exact ⟨0, by omega, rfl, SD⟩
        case round =>
          clear SD
          obtain ⟨i, hi, rfl, SD⟩ := hrel
          by_cases hik : i < K
          · have ii0 : (0 : Int) ≤ (i : Int) := by omega
            have ii1 : (i : Int) < (K : Int) := by omega
            have w8 : IntKind.i64.wrap ((i : Int) + 1) = (i : Int) + 1 := IntWalk.i64_in _ (by have := HN.out; omega)
            have c0 := SD.out.2.2.2.2.2.c i hik
            have bd := HTT.out.2 i hik
            obtain ⟨y, hy⟩ : ∃ y, d i = y := ⟨_, rfl⟩
            rw [hy] at c0 bd
            have HY := hidden hy
            have HIK := hidden hik
            have t128 := HTT.out.1
            clear hy hi
            by_cases hy0 : y = 0
            · subst hy0
              have SN := hidden (SD.out.idle HY.out)
              clear SD bd t128
              go_wp2_with fail
              go_roundw
              case rel => exact ⟨i + 1, by have := HIK.out; omega, by go_num, SN⟩
              case measure => have := HIK.out; simp [intOf]; omega
            · by_cases hyp : 0 < y
              · obtain ⟨g, hg⟩ : ∃ g : Nat, y = (g : Int) + 1 := ⟨(y - 1).toNat, by omega⟩
                obtain ⟨P1, n1, c1, m0, m1⟩ := SD.out.2.2.2.2.1.s g (by omega)
                have wy : IntKind.i64.wrap (y - 1) = (g : Int) := by rw [show y - 1 = (g : Int) by omega]; exact IntWalk.i64_in _ (by omega)
                have g1 : (g : Int) < (T : Int) := by omega
                have M1 := hidden m1
                have HG := hidden hg
                clear m1 hg bd t128
                go_upto_region 11 with fail
                refine st11 _ H D K M T i g n1 c1 y P1 (fun w' => Sd w1 w' H D K M T B m d f X (i + 1)) _ _ _ _ _ _ _ _ _ _ _ _ _ _ _ _ _ _ _ _ _ _ _ _ _ _ _ _ _ _ _ _ _ _ _ _ _ _ _ _ _ _ _ _ _ _ _ _ _ _ _ _ _ _ _ _ _ _ _ _ _ _ _ _ _ _ _ _ _ _ _ _ _ _ wr m0 ii0 ii1 (by omega) g1 wy (hidden ?_) (hidden ?_)
                · obtain ⟨⟨s, hP⟩, hH, hT, hgr, hM, hR⟩ := SD.out
                  have bb := bl_drew wr
                  have SDd : Sd w1 wr.drew H D K M T B m d f X i := ⟨⟨s, hP.keep bb⟩, hH.keep bb, hT.keep bb, hgr.trans (gbI bb _), hM.keep bb, hR.keep bb⟩
                  refine (lay_pl H D K i _ s _ _ wr.drew (hT.keep bb) (hH.keep bb) (M1.out.keep bb) (hP.keep bb) HIK.out NB.out.2.2.1).mono ?_
                  rintro e w' ⟨rfl, hP2, hH2, hex⟩
                  refine ⟨rfl, ?_, SDd.step (by have := NB.out; omega) NB.out.2.2.1 NM.out.1 NM.out.2 (by have := NB.out; omega) (by have := NB.out; omega) (by have := NB.out; omega) (hP.keep bb) hP2 (fun t => by rw [HY.out, HG.out]) hH2 hex⟩
                  obtain ⟨wm, q1, -, q2⟩ := hex
                  exact q2.cell (q1.cell (cell_keep m0 bb) (fun e => NM.out.2 (Option.some.inj e))) (fun e => NM.out.1 (Option.some.inj e))
                · intro wz2 hS
                  have SN := hidden hS
                  clear hS SD m0 M1
                  go_wp2_with fail
                  go_roundw
                  case rel => exact ⟨i + 1, by have := HIK.out; omega, by go_num, SN⟩
                  case measure => have := HIK.out; simp [intOf]; omega
              · have hyn : y < 0 := by omega
                have hyq : ¬ y > 0 := by omega
                obtain ⟨g, hg⟩ : ∃ g : Nat, -y = (g : Int) + 1 := ⟨(-y - 1).toNat, by omega⟩
                obtain ⟨P1, n1, c1, m0, m1⟩ := SD.out.2.2.2.2.1.s g (by omega)
                have wy0 : IntKind.i64.wrap (-y) = -y := IntWalk.i64_in _ (by omega)
                have wy : IntKind.i64.wrap (-y - 1) = (g : Int) := by rw [show -y - 1 = (g : Int) by omega]; exact IntWalk.i64_in _ (by omega)
                have g1 : (g : Int) < (T : Int) := by omega
                have M1 := hidden m1
                have HG := hidden hg
                clear m1 hg bd t128
                go_upto_region 13 with fail
                refine st13 _ H D K M T i g n1 c1 y P1 (fun w' => Sd w1 w' H D K M T B m d f X (i + 1)) (fun t => -(((g : Int) + 1) * f t)) (-y) _ _ _ _ _ _ _ _ _ _ _ _ _ _ _ _ _ _ _ _ _ _ _ _ _ _ _ _ _ _ _ _ _ _ _ _ _ _ _ _ _ _ _ _ _ _ _ _ _ _ _ _ _ _ _ _ _ _ _ _ _ _ _ _ _ _ _ _ _ _ _ _ _ _ wr m0 ii0 ii1 (by omega) g1 wy0 wy (mt_NegF P1 n1 c1) (hidden ?_) (hidden ?_) (hidden ?_)
                · exact frNeg _ _ wr.drew (SD.out.2.2.1.keep (bl_drew wr)) (M1.out.keep (bl_drew wr))
                · intro x A mm k hF hb
                  obtain ⟨⟨s, hP⟩, hH, hT, hgr, hM, hR⟩ := SD.out
                  have bb := bl_trans (bl_drew wr) hb
                  have SDd : Sd w1 x H D K M T B m d f X i := ⟨⟨s, hP.keep bb⟩, hH.keep bb, hT.keep bb, hgr.trans (gbI bb _), hM.keep bb, hR.keep bb⟩
                  refine (lay_pl H D K i _ s _ _ x (hT.keep bb) (hH.keep bb) hF (hP.keep bb) HIK.out NB.out.2.2.1).mono ?_
                  rintro e w' ⟨rfl, hP2, hH2, hex⟩
                  refine ⟨rfl, ?_, SDd.step (by have := NB.out; omega) NB.out.2.2.1 NM.out.1 NM.out.2 (by have := NB.out; omega) (by have := NB.out; omega) (by have := NB.out; omega) (hP.keep bb) hP2 (fun t => by rw [HY.out, show y = -((g : Int) + 1) by have := HG.out; omega, Int.neg_mul]) hH2 hex⟩
                  obtain ⟨wm, q1, -, q2⟩ := hex
                  exact q2.cell (q1.cell (cell_keep m0 bb) (fun e => NM.out.2 (Option.some.inj e))) (fun e => NM.out.1 (Option.some.inj e))
                · intro A mm k wz2 hS
                  have SN := hidden hS
                  clear hS SD m0 M1
                  go_wp2_with fail
                  go_roundw
                  case rel => exact ⟨i + 1, by have := HIK.out; omega, by go_num, SN⟩
                  case measure => have := HIK.out; simp [intOf]; omega
          · have hik : K = i := by omega
            subst hik
            have lq : ¬ (K : Int) < (K : Int) := by omega
            have SN : Hid (St2 w1 _ H D K m ks fs (j + 1)) := hidden (by
              obtain ⟨⟨s, hP⟩, hH, hT, hg, -⟩ := SD.out
              exact ⟨⟨s, hP.congr (fun q hq t => by rw [if_pos hq, ← HX.out, ← HDD.out, ← HZ.out, ← HF.out]; rfl)⟩, hH, hT, hg⟩)
            clear SD
            go_wp2_with fail
            go_roundw
            case rel => exact ⟨j + 1, by have := HJN.out; omega, by go_num, SN⟩
            case measure => have := HJN.out; simp [intOf]; omega
    · have hjn : N = j := by omega
      subst hjn
      have lq : ¬ (N : Int) < (N : Int) := by omega
      obtain ⟨⟨s, hP⟩, hH, hT, hg⟩ := ST.out
      have neDH : D ≠ H := by have := LH.out; have := HD.out; have := W1.out.2.2.1; omega
      have CJ := hidden (ZJ.out wr D s _ hT hH hP neDH)
      have q6 := hg.cell W1.out.1 (fun e => absurd (Option.some.inj e) (show w.heap.size ≠ H by have := LH.out; omega))
      have q7 := (gb_frozen_some hg (by rw [W1.out.1]; rfl) (show w.heap.size ≠ H by have := LH.out; omega)).trans W1.out.2.1
      have GW := hidden ((gbI W1.out.2.2.2.2.2.2 (some H)).trans hg)
      have Q7 := hidden (And.intro q6 q7)
      have HH := hidden hH
      clear hP hH hT hg ST q6 q7
      go_wp2_with (first | (go_at_call 61; refine CJ.out.mono ?_; rintro e wb ⟨PA, mm, k, rfl, hA, hF, hHb, hgb⟩; have q0 := hgb.cell Q7.out.1 (fun e => absurd (Option.some.inj e) (show w.heap.size ≠ H by have := LH.out; omega)); have q1 := (gb_frozen_some hgb (by rw [Q7.out.1]; rfl) (show w.heap.size ≠ H by have := LH.out; omega)).trans Q7.out.2; have FA := hidden hF; have HA := hidden hA; have HB := hidden hHb; have GB := hidden hgb; clear hF hA hHb hgb CJ))
      refine bodyPost_ret (v := .agg #[.slice PA mm k]) (by simp [results, Tryz.results52, go_sem, q0]) rfl ?_
      have h2 := World.block_lt_of_cell? _ _ Q7.out.1
      simp only at h2
      refine ⟨PA, mm, k, rfl, fun a e => by have := GW.out.size; have := HA.out a e; omega, FA.out.keepG w.heap.size (gb_set _ _ _ _) ?_, HB.out.far (by have := LH.out; omega), gb_box (GW.out.trans GB.out) (Nat.le_refl _)⟩
      rintro P n c hP _ a rfl
      simp only [Value.agg.injEq, Array.mk.injEq, List.cons.injEq, Value.slice.injEq, and_true] at hP
      have h1 := HA.out a hP.1
      omega
end Go.Proofs.YtapieajkmpnmoaaGreatDoor
namespace Go.Proofs.YtapieajkmpnmoaaGreatDoor
open Go.RowKit
set_option linter.unusedVariables false
theorem tot_congr {f g : Nat → Int} (n : Nat) (h : ∀ i, i < n → f i = g i) : tot f n = tot g n := by
  induction n with
  | zero => rfl
  | succ n ih => rw [tot, tot, ih (fun i hi => h i (by omega)), h n (by omega)]
theorem tot_mul (c : Int) (f : Nat → Int) (n : Nat) : c * tot f n = tot (fun q => c * f q) n := by
  induction n with
  | zero => rw [tot, tot, Int.mul_zero]
  | succ n ih => rw [tot, tot, Int.mul_add, ih]
theorem tot_add (f g : Nat → Int) (n : Nat) : tot (fun q => f q + g q) n = tot f n + tot g n := by
  induction n with
  | zero => rw [tot, tot, tot, Int.add_zero]
  | succ n ih => rw [tot, tot, tot, ih]; omega
theorem tot_comm (a : Nat → Nat → Int) (K N : Nat) : tot (fun i => tot (fun q => a i q) N) K = tot (fun q => tot (fun i => a i q) K) N := by
  induction K with
  | zero =>
    rw [tot]
    induction N with
    | zero => rfl
    | succ N ih => rw [tot, ← ih, tot]; rfl
  | succ K ih =>
    rw [tot, ih, ← tot_add]
    rfl
theorem sw_tot (g : Nat → Int) (m K : Nat) (y : Int) : tot (fun i => 2 ^ (m * i) * (g i * y)) K = sw g m K * y := by
  induction K with
  | zero => rw [tot, sw, Int.zero_mul]
  | succ K ih => rw [tot, sw, ih, Int.add_mul, ← Int.mul_assoc, Int.mul_comm (2 ^ (m * K)) (g K)]
theorem lst_tot {f g : Nat → Int} (n : Nat) (h : ∀ i, i < n → lst (f i) = lst (g i)) : lst (tot f n) = lst (tot g n) := by
  induction n with
  | zero => rfl
  | succ n ih => rw [tot, tot]; exact lst_two (ih (fun i hi => h i (by omega))) (h n (by omega))
/-- the digits' sums are the sum of the multiples -/
theorem straus_sum (m N : Nat) (hm : 1 ≤ m) (ks : Nat → E4) (fs : Nat → Nat → Int) (t : Nat) :
    lst (tot (fun i => 2 ^ (m * i) * tot (fun q => dg (lst (ks q).n).n m i * fs q t) N) (253 / m + 1)) = lst (tot (fun q => (ks q).n * fs q t) N) := by
  have e : tot (fun i => 2 ^ (m * i) * tot (fun q => dg (lst (ks q).n).n m i * fs q t) N) (253 / m + 1) = tot (fun q => (lst (ks q).n).n * fs q t) N := by
    rw [tot_congr (g := fun i => tot (fun q => 2 ^ (m * i) * (dg (lst (ks q).n).n m i * fs q t)) N) _ (fun i _ => tot_mul _ _ _), tot_comm]
    refine tot_congr _ (fun q _ => ?_)
    rw [sw_tot, dg_all _ (lst_253 _).1 (lst_253 _).2 m hm]
  rw [e]
  exact lst_tot _ (fun q _ => lst_mul _ _)
theorem Hq.congr {w w' : World} {H : Nat} {e : Ending} {x y : Nat → Int} (h : Hq w w' H e x) (hx : ∀ t, lst (x t) = lst (y t)) : Hq w w' H e y := by
  obtain ⟨A, m, c, h1, h2, h3, h4⟩ := h
  exact ⟨A, m, c, h1, h2, h3.congr hx, h4⟩
theorem Hp.congr {w w' : World} {H : Nat} {e : Ending} {x y : Nat → Int} (h : Hp w w' H e x) (hx : ∀ t, lst (x t) = lst (y t)) : Hp w w' H e y := by
  obtain ⟨A, m, c, h1, h2, h3, h4⟩ := h
  exact ⟨A, m, c, h1, h2, h3.congr hx, h4⟩
end Go.Proofs.YtapieajkmpnmoaaGreatDoor
namespace Go.Proofs.YtapieajkmpnmoaaGreatDoor
open Go.RowKit Go.Shelf
attribute [local go_sem] Oper.semAt_some
set_option linter.unusedVariables false
/-- what a round keeps: the row, and the box of the slice -/
def KD (D Bs : Nat) (W W' : World) : Prop := (∀ o, W'.cell? ⟨D, o, none⟩ = W.cell? ⟨D, o, none⟩) ∧ W'.cell? ⟨Bs, 0, none⟩ = W.cell? ⟨Bs, 0, none⟩
theorem KD.trans {D Bs : Nat} {A B C : World} (h1 : KD D Bs A B) (h2 : KD D Bs B C) : KD D Bs A C := ⟨fun o => (h2.1 o).trans (h1.1 o), h2.2.trans h1.2⟩
def down (K k : Nat) : List Nat := (List.range k).map (fun q => K - 1 - q)
theorem down_succ (K k : Nat) : down K (k + 1) = down K k ++ [K - 1 - k] := by simp [down, List.range_succ]
theorem down_length (K k : Nat) : (down K k).length = k := by simp [down]
set_option maxRecDepth 100000 in
set_option maxHeartbeats 2000000 in
theorem back1_in (F : Fence) (n : Nat) (hf : F.fn 103) (hro : F.round = none) (hn : 1 ≤ n) (l Bs D K : Nat) (hK : K ≤ 300) (Pf : Nat → Option Addr) (nf cf : Nat → Nat) (s : Nat → Bool) (J Jx : List Nat → World → Prop)
    (hY : ∀ pre (x : Nat) W, x < K → J pre W → pre.length < K → YieldAt F (n - 1) Tryz.prog l #[.int .i64 (x : Int), .agg #[.slice (Pf x) (nf x) (cf x), .bool (s x)]] W fun e W' =>
      (e = .returned (.bool true) ∧ J (pre ++ [x]) W' ∧ KD D Bs W W') ∨ (e = .returned (.bool false) ∧ Jx (pre ++ [x]) W'))
    (W : World) (hBs : W.cell? ⟨Bs, 0, none⟩ = some (.slice (some ⟨D, 0, none⟩) K K)) (hc : ∀ x, x < K → W.cell? ⟨D, x * 2, none⟩ = some (.slice (Pf x) (nf x) (cf x)) ∧ W.cell? ⟨D, x * 2 + 1, none⟩ = some (.bool (s x))) (h0 : J [] W) :
    CallsIn F n Tryz.prog 103 #[.func (.yield l) #[] #[], .pointer (some ⟨Bs, 0, none⟩)] W fun e W' => (∃ v, e = .returned v) ∧ ((∃ ys, ys = down K K ∧ J ys W') ∨ (∃ pre, True ∧ Jx pre W')) := by
  refine callsIn_of_wp Tryz.func103 rfl hf ?_ hro
  simp only [Tryz.ntmps103, List.size_toArray, List.length_cons, List.length_nil, Nat.reduceAdd, Nat.reduceSub, Array.replicate_succ, Array.replicate_zero, List.push_toArray, List.append_toArray, List.nil_append, List.cons_append]
  have w0 : IntKind.i64.wrap ((K : Int) - 1) = (K : Int) - 1 := IntWalk.i64_in _ (by omega)
  gi_wp2
  gi_loopw [3] (fun i wr => ∃ k : Nat, k ≤ K ∧ i = .int .i64 ((K : Int) - 1 - k) ∧ J (down K k) wr ∧ KD D Bs W wr)
    (fun i _ => (intOf i + 1).toNat)
  case atStart => exact ⟨0, Nat.zero_le _, by simp, h0, fun _ => rfl, rfl⟩
  case round =>
    obtain ⟨k, hk, rfl, hJs, hnx⟩ := hrel
    by_cases hlt : k < K
    · obtain ⟨x, hx⟩ : ∃ x : Nat, K - 1 - k = x := ⟨_, rfl⟩
      have hxK : x < K := by omega
      have hxi : (K : Int) - 1 - k = (x : Int) := by omega
      rw [hxi]
      have cb := hnx.2.trans hBs
      have c0 := (hnx.1 (x * 2)).trans (hc x hxK).1
      have c1 := (hnx.1 (x * 2 + 1)).trans (hc x hxK).2
      have x0 : (0 : Int) ≤ (x : Int) := by omega
      have x1 : (x : Int) < (K : Int) := by omega
      have wx : IntKind.i64.wrap ((x : Int) - 1) = (x : Int) - 1 := IntWalk.i64_in _ (by omega)
      obtain ⟨fn, tmps, assign, body, hy, hR⟩ := hY _ x wr hxK hJs (by rw [down_length]; exact hlt)
      gi_wp2
      refine hR.mono ?_
      rintro e W3 (⟨rfl, hJ3, hk3⟩ | ⟨rfl, hJx3⟩)
      · gi_wp2
        go_roundw
        case rel => exact ⟨k + 1, by omega, by simp; omega, by rw [down_succ, hx]; exact hJ3, hnx.trans hk3⟩
        case measure => (simp [intOf] <;> omega)
      · gi_wp2
        refine bodyPost_ret (results_none rfl _ _ _) rfl ?_
        exact ⟨⟨_, rfl⟩, .inr ⟨_, trivial, hJx3⟩⟩
    · obtain rfl : k = K := by omega
      have q0 : ¬ (0 : Int) ≤ (k : Int) - 1 - (k : Int) := by omega
      have q1 : (k : Int) - 1 - (k : Int) = -1 := by omega
      gi_wp2
      go_end0
      first | exact ⟨⟨_, rfl⟩, .inl ⟨_, rfl, hJs⟩⟩ | exact ⟨⟨_, rfl⟩, .inl hJs⟩
/-- slices.Backward over a row of piles, as the law of the range asks it -/
theorem back_stops (F : Fence) (n : Nat) (hf : F.fn 103) (hro : F.round = none) (hn : 1 ≤ n) (Bs D K : Nat) (hK : K ≤ 300) (Pf : Nat → Option Addr) (nf cf : Nat → Nat) (s : Nat → Bool) (w : World) (hBs : w.cell? ⟨Bs, 0, none⟩ = some (.slice (some ⟨D, 0, none⟩) K K)) (hc : ∀ x, x < K → w.cell? ⟨D, x * 2, none⟩ = some (.slice (Pf x) (nf x) (cf x)) ∧ w.cell? ⟨D, x * 2 + 1, none⟩ = some (.bool (s x))) :
    SeqStopsK (α := {x : Nat // x < K}) F n Tryz.prog 103 #[.pointer (some ⟨Bs, 0, none⟩)] (fun y => #[.int .i64 (y.1 : Int), .agg #[.slice (Pf y.1) (nf y.1) (cf y.1), .bool (s y.1)]]) (KD D Bs) (fun xs => xs.map (·.1) = down K K) (fun _ => True) K w := by
  intro l J Jx W hW hJ hJx hY h0
  refine (back1_in F n hf hro hn l Bs D K hK Pf nf cf s (fun pre W => ∃ q : List {x : Nat // x < K}, q.map (·.1) = pre ∧ J q W) (fun pre W => ∃ q : List {x : Nat // x < K}, q.map (·.1) = pre ∧ Jx q W) ?_ W (cell_keep hBs hW) (fun x hx => ⟨cell_keep (hc x hx).1 hW, cell_keep (hc x hx).2 hW⟩) ⟨[], rfl, h0⟩).mono ?_
  · rintro pre x W1 hx ⟨q, rfl, hq⟩ hl
    refine (hY q ⟨x, hx⟩ W1 hq (by simpa using hl)).mono ?_
    rintro e W' (⟨rfl, h1, h2⟩ | ⟨rfl, h1⟩)
    · exact .inl ⟨rfl, ⟨_, by simp, h1⟩, h2⟩
    · exact .inr ⟨rfl, _, by simp, h1⟩
  · rintro e W' ⟨h1, (⟨ys, h2, q, h3, h4⟩ | ⟨pre, -, q, h3, h4⟩)⟩
    · exact ⟨h1, .inl ⟨q, h3.trans h2, h4⟩⟩
    · exact ⟨h1, .inr ⟨q, trivial, h4⟩⟩
end Go.Proofs.YtapieajkmpnmoaaGreatDoor
namespace Go.Proofs.YtapieajkmpnmoaaGreatDoor
open Go.RowKit Go.Shelf
set_option linter.unusedVariables false
def ac (m : Nat) (xx : Nat → Nat → Int) (l : List Nat) (t : Nat) : Int := l.foldl (fun a x => 2 ^ m * a + xx x t) 0
theorem ac_snoc (m : Nat) (xx : Nat → Nat → Int) (l : List Nat) (x t : Nat) : ac m xx (l ++ [x]) t = 2 ^ m * ac m xx l t + xx x t := by simp [ac]
theorem tot_first (f : Nat → Int) (n : Nat) : tot f (n + 1) = f 0 + tot (fun i => f (i + 1)) n := by
  induction n with
  | zero => simp [tot]
  | succ n ih => rw [tot, ih, tot]; omega
theorem ac_down (m K : Nat) (xx : Nat → Nat → Int) (t : Nat) : ∀ k, k ≤ K → ac m xx (down K k) t = tot (fun i => 2 ^ (m * i) * xx (K - k + i) t) k := by
  intro k
  induction k with
  | zero => intro _; simp [down, ac, tot]
  | succ k ih =>
    intro hk
    rw [down_succ, ac_snoc, ih (by omega), tot_first, tot_mul]
    have e : K - (k + 1) + 0 = K - 1 - k := by omega
    rw [e, Nat.mul_zero, Int.pow_zero, Int.one_mul, Int.add_comm]
    congr 1
    refine tot_congr _ (fun i hi => ?_)
    rw [← Int.mul_assoc, ← Int.pow_add, show m + m * i = m * (i + 1) by rw [Nat.mul_add, Nat.mul_one, Nat.add_comm], show K - (k + 1) + (i + 1) = K - k + i by omega]
theorem ac_all (m K : Nat) (xx : Nat → Nat → Int) (t : Nat) : ac m xx (down K K) t = tot (fun i => 2 ^ (m * i) * xx i t) K := by
  rw [ac_down m K xx t K (Nat.le_refl _)]
  refine tot_congr _ (fun i _ => ?_)
  rw [Nat.sub_self, Nat.zero_add]
theorem KD.putObj {D Bs n : Nat} (hD : D < n) (hB : Bs < n) (W : World) (l : Nat) (o o' : Obj) (hl : n ≤ l) : KD D Bs W (W.putObj l o') := by
  have g := grownBy_putObj' W l o'
  have k : ∀ a : Addr, a.block < n → (W.putObj l o').cell? a = W.cell? a := fun a ha => by
    by_cases h : a.block < W.heap.size
    · exact World.cell?_of_block (g.block a.block h (fun e => by have := Option.some.inj e; omega))
    · have h1 : W.heap[a.block]? = none := Array.getElem?_eq_none (by omega)
      have h2 : (W.putObj l o').heap[a.block]? = none := by
        refine Array.getElem?_eq_none ?_
        simp [World.putObj]
        omega
      exact World.cell?_of_block (h2.trans h1.symm)
  exact ⟨fun o => k _ hD, k _ hB⟩
theorem Fr.kept {W W' : World} {V : Value} {x : Nat → Int} (h : Fr W V x) (k : ∀ (a : Addr) (v : Value), W.cell? a = some v → W'.cell? a = some v) : Fr W' V x := by
  obtain ⟨P, n, c, g, rfl, h2, h3⟩ := h
  obtain ⟨sb, so, h4, h5⟩ := h2
  refine ⟨P, n, c, g, rfl, ⟨sb, so, h4, fun hp => ?_⟩, h3⟩
  have r := h5 hp
  exact ⟨fun i hi => k _ _ (r.c0 i hi), fun i hi => k _ _ (r.c1 i hi), fun i hi => k _ _ (r.c2 i hi), fun i hi => k _ _ (r.c3 i hi)⟩
/-- between two rounds -/
structure Jn (w W : World) (H m K : Nat) (Pf : Nat → Option Addr) (nf cf : Nat → Nat) (s : Nat → Bool) (xx : Nat → Nat → Int) (b : Bool) (y : Nat → Int) : Prop where
  t3 : W.cell? ⟨w.heap.size, 0, none⟩ = some (.pointer (some ⟨H, 0, none⟩))
  t4 : W.cell? ⟨w.heap.size + 1, 0, none⟩ = some (.int .i64 (m : Int))
  t6 : W.cell? ⟨w.heap.size + 1 + 1, 0, none⟩ = some (.slice none 0 0)
  f6 : W.frozen? ⟨w.heap.size + 1 + 1, 0, none⟩ = false
  t7 : ∃ (P : Option Addr) (n c : Nat), W.cell? ⟨w.heap.size + 1 + 1 + 1, 0, none⟩ = some (.slice P n c) ∧ Fr W (.agg #[.slice P n c]) y ∧ ∀ a, P = some a → w.heap.size + 1 + 1 + 1 + 1 + 1 + 1 ≤ a.block
  f7 : W.frozen? ⟨w.heap.size + 1 + 1 + 1, 0, none⟩ = false
  t8 : W.cell? ⟨w.heap.size + 1 + 1 + 1 + 1, 0, none⟩ = some (.bool b)
  f8 : W.frozen? ⟨w.heap.size + 1 + 1 + 1 + 1, 0, none⟩ = false
  hd : Hd W H
  tb : Tb W
  gr : w.grownBy W (some H)
  pl : ∀ i, i < K → s i = true → Fr W (.agg #[.slice (Pf i) (nf i) (cf i)]) (xx i)
  bz : b = false → ∀ t, lst (y t) = zero4
  lt : H < w.heap.size
theorem Jn.own {w W W' : World} {H m K : Nat} {Pf : Nat → Option Addr} {nf cf : Nat → Nat} {s : Nat → Bool} {xx : Nat → Nat → Int} {b : Bool} {y : Nat → Int} {row : Option Nat} (h : Jn w W H m K Pf nf cf s xx b y) (hg : W.grownBy W' row) (hr : ∀ r, row = some r → w.heap.size ≤ r ∧ ∃ o : Obj, W.heap[r]? = some o ∧ o.isCells = false) : Jn w W' H m K Pf nf cf s xx b y := by
  have hr2 : ∀ r, row = some r → ∃ o : Obj, W.heap[r]? = some o ∧ o.isCells = false := fun r e => (hr r e).2
  have k : ∀ (a : Addr) (v : Value), W.cell? a = some v → W'.cell? a = some v := fun a v hv => cell_kept hv hg hr2
  have fk : ∀ (a : Addr) (v : Value), W.cell? a = some v → W'.frozen? a = W.frozen? a := fun a v hv => frozen_kept hv hg hr2
  obtain ⟨P, n, c, h7, h7f, h7b⟩ := h.t7
  have hb : ∀ k, k < w.heap.size → some k ≠ row := fun k hk e => by have := (hr k e.symm).1; omega
  refine ⟨k _ _ h.t3, k _ _ h.t4, k _ _ h.t6, (fk _ _ h.t6).trans h.f6, ⟨P, n, c, k _ _ h7, h7f.kept k, h7b⟩, (fk _ _ h7).trans h.f7, k _ _ h.t8, (fk _ _ h.t8).trans h.f8, ?_, ?_, ?_, fun i hi hs => (h.pl i hi hs).kept k, h.bz, h.lt⟩
  · obtain ⟨x, z, a0, a1, b0, b1, a2⟩ := h.hd
    have hB := hg.block H h.hd.lt (hb H h.lt)
    exact ⟨x, z, k _ _ a0, k _ _ a1, (fk _ _ a0).trans b0, (fk _ _ a1).trans b1, fun o ho => (World.cell?_of_block hB).trans (a2 o ho)⟩
  · obtain ⟨a0, a1, a2, a3, a4, a5, a6, a7, a8, a9, a10, a11⟩ := h.tb
    exact ⟨k _ _ a0, k _ _ a1, k _ _ a2, k _ _ a3, k _ _ a4, k _ _ a5, k _ _ a6, k _ _ a7, k _ _ a8, k _ _ a9, k _ _ a10, k _ _ a11⟩
  · have a := h.gr
    exact ⟨hg.os.trans a.os, hg.tape.trans a.tape, hg.output.trans a.output, Nat.le_trans a.size hg.size, fun q hq hn => (hg.block q (Nat.lt_of_lt_of_le hq a.size) (hb q hq)).trans (a.block q hq hn)⟩
theorem Jn.put {w W wa : World} {H m K : Nat} {Pf : Nat → Option Addr} {nf cf : Nat → Nat} {s : Nat → Bool} {xx : Nat → Nat → Int} {b : Bool} {y y2 : Nat → Int} {A mm k : Nat} (h : Jn w W H m K Pf nf cf s xx b y) (hHw : Hd w H) (hpl : ∀ i, i < K → s i = true → Fr w (.agg #[.slice (Pf i) (nf i) (cf i)]) (xx i)) (hg : W.grownBy wa (some H)) (hd : Hd wa H) (sz : w.heap.size + 1 + 1 + 1 + 1 + 1 + 1 ≤ W.heap.size) (hA : W.heap.size ≤ A) (hF : Fr wa (.agg #[.slice (some ⟨A, 0, none⟩) mm k]) y2) (hTw : Tb w) : Jn w ((wa.setCell ⟨w.heap.size + 1 + 1 + 1, 0, none⟩ (.slice (some ⟨A, 0, none⟩) mm k)).setCell ⟨w.heap.size + 1 + 1 + 1 + 1, 0, none⟩ (.bool true)) H m K Pf nf cf s xx true y2 := by
  have lH := h.lt
  have k0 : ∀ (a : Addr) (v : Value), a.block ≠ H → W.cell? a = some v → wa.cell? a = some v := fun a v ha hv => hg.cell hv (fun e => ha (Option.some.inj e))
  have k1 : ∀ (q : Nat) (v : Value), q ≠ H → W.cell? ⟨q, 0, none⟩ = some v → wa.frozen? ⟨q, 0, none⟩ = W.frozen? ⟨q, 0, none⟩ := fun q v ha hv => gb_frozen_some hg (by rw [hv]; rfl) ha
  obtain ⟨P, n, c, h7, -⟩ := h.t7
  have s7 := k0 _ _ (show (w.heap.size + 1 + 1 + 1) ≠ H by omega) h7
  have s8 := k0 _ _ (show (w.heap.size + 1 + 1 + 1 + 1) ≠ H by omega) h.t8
  have far : ∀ (V : Value) (q : Nat) (wx : World) (u : Value), q < A → Fr wx (.agg #[.slice (some ⟨A, 0, none⟩) mm k]) y2 → Fr (wx.setCell ⟨q, 0, none⟩ u) (.agg #[.slice (some ⟨A, 0, none⟩) mm k]) y2 := fun V q wx u hq hf => hf.keepG q (gb_set _ _ _ _) (by
    rintro P n c hP _ a rfl
    simp only [Value.agg.injEq, Array.mk.injEq, List.cons.injEq, Value.slice.injEq, Option.some.injEq, and_true] at hP
    obtain ⟨rfl, _⟩ := hP
    simp only
    omega)
  have gr : w.grownBy ((wa.setCell ⟨w.heap.size + 1 + 1 + 1, 0, none⟩ (.slice (some ⟨A, 0, none⟩) mm k)).setCell ⟨w.heap.size + 1 + 1 + 1 + 1, 0, none⟩ (.bool true)) (some H) := gb_box (gb_box (h.gr.trans hg) (by omega)) (by omega)
  have c7 : (wa.setCell ⟨w.heap.size + 1 + 1 + 1, 0, none⟩ (.slice (some ⟨A, 0, none⟩) mm k)).cell? ⟨w.heap.size + 1 + 1 + 1, 0, none⟩ = some (.slice (some ⟨A, 0, none⟩) mm k) := World.cell?_setCell_same _ _ _ s7
  have o7 : ∀ (q : Nat) (v : Value), q ≠ w.heap.size + 1 + 1 + 1 → wa.cell? ⟨q, 0, none⟩ = some v → (wa.setCell ⟨w.heap.size + 1 + 1 + 1, 0, none⟩ (.slice (some ⟨A, 0, none⟩) mm k)).cell? ⟨q, 0, none⟩ = some v := fun q v hq hv => by rw [World.cell?_setCell_far _ _ _ _ (by simp only; omega)]; exact hv
  have o8 : ∀ (q : Nat) (v : Value), q ≠ w.heap.size + 1 + 1 + 1 + 1 → (wa.setCell ⟨w.heap.size + 1 + 1 + 1, 0, none⟩ (.slice (some ⟨A, 0, none⟩) mm k)).cell? ⟨q, 0, none⟩ = some v → ((wa.setCell ⟨w.heap.size + 1 + 1 + 1, 0, none⟩ (.slice (some ⟨A, 0, none⟩) mm k)).setCell ⟨w.heap.size + 1 + 1 + 1 + 1, 0, none⟩ (.bool true)).cell? ⟨q, 0, none⟩ = some v := fun q v hq hv => by rw [World.cell?_setCell_far _ _ _ _ (by simp only; omega)]; exact hv
  have lt := World.block_lt_of_cell? _ _ h.tb.1
  exact ⟨o8 _ _ (by omega) (o7 _ _ (by omega) (k0 _ _ (by simp only; omega) h.t3)), o8 _ _ (by omega) (o7 _ _ (by omega) (k0 _ _ (by simp only; omega) h.t4)), o8 _ _ (by omega) (o7 _ _ (by omega) (k0 _ _ (by simp only; omega) h.t6)), by rw [World.frozen?_setCell, World.frozen?_setCell, k1 _ _ (by omega) h.t6]; exact h.f6, ⟨_, _, _, o8 _ _ (by omega) c7, far (.bool true) _ _ _ (by omega) (far (.bool true) _ _ _ (by omega) hF), fun a e => by obtain rfl := Option.some.inj e; simp only; omega⟩, by rw [World.frozen?_setCell, World.frozen?_setCell, k1 _ _ (by omega) h7]; exact h.f7, World.cell?_setCell_same _ _ _ (o7 _ _ (by omega) s8), by rw [World.frozen?_setCell, World.frozen?_setCell, k1 _ _ (by omega) h.t8]; exact h.f8, (hd.far (by omega)).far (by omega), hTw.keep0 gr (hHw.tb hTw), gr, fun i hi hs => (hpl i hi hs).hand hHw gr, fun e => by simp at e, h.lt⟩
theorem Jn.dbl {w W wa : World} {H m K : Nat} {Pf : Nat → Option Addr} {nf cf : Nat → Nat} {s : Nat → Bool} {xx : Nat → Nat → Int} {b : Bool} {y y2 : Nat → Int} {A mm k : Nat} (h : Jn w W H m K Pf nf cf s xx b y) (hHw : Hd w H) (hpl : ∀ i, i < K → s i = true → Fr w (.agg #[.slice (Pf i) (nf i) (cf i)]) (xx i)) (hg : W.grownBy wa (some H)) (hd : Hd wa H) (sz : w.heap.size + 1 + 1 + 1 + 1 + 1 + 1 ≤ W.heap.size) (hA : W.heap.size ≤ A) (hF : Fr wa (.agg #[.slice (some ⟨A, 0, none⟩) mm k]) y2) (hTw : Tb w) (hbt : b = true) : Jn w (wa.setCell ⟨w.heap.size + 1 + 1 + 1, 0, none⟩ (.slice (some ⟨A, 0, none⟩) mm k)) H m K Pf nf cf s xx true y2 := by
  have lH := h.lt
  have k0 : ∀ (a : Addr) (v : Value), a.block ≠ H → W.cell? a = some v → wa.cell? a = some v := fun a v ha hv => hg.cell hv (fun e => ha (Option.some.inj e))
  have k1 : ∀ (q : Nat) (v : Value), q ≠ H → W.cell? ⟨q, 0, none⟩ = some v → wa.frozen? ⟨q, 0, none⟩ = W.frozen? ⟨q, 0, none⟩ := fun q v ha hv => gb_frozen_some hg (by rw [hv]; rfl) ha
  obtain ⟨P, n, c, h7, -⟩ := h.t7
  have s7 := k0 _ _ (show (w.heap.size + 1 + 1 + 1) ≠ H by omega) h7
  have s8 := k0 _ _ (show (w.heap.size + 1 + 1 + 1 + 1) ≠ H by omega) h.t8
  have far : ∀ (V : Value) (q : Nat) (wx : World) (u : Value), q < A → Fr wx (.agg #[.slice (some ⟨A, 0, none⟩) mm k]) y2 → Fr (wx.setCell ⟨q, 0, none⟩ u) (.agg #[.slice (some ⟨A, 0, none⟩) mm k]) y2 := fun V q wx u hq hf => hf.keepG q (gb_set _ _ _ _) (by
    rintro P n c hP _ a rfl
    simp only [Value.agg.injEq, Array.mk.injEq, List.cons.injEq, Value.slice.injEq, Option.some.injEq, and_true] at hP
    obtain ⟨rfl, _⟩ := hP
    simp only
    omega)
  have gr : w.grownBy (wa.setCell ⟨w.heap.size + 1 + 1 + 1, 0, none⟩ (.slice (some ⟨A, 0, none⟩) mm k)) (some H) := gb_box (h.gr.trans hg) (by omega)
  have c7 : (wa.setCell ⟨w.heap.size + 1 + 1 + 1, 0, none⟩ (.slice (some ⟨A, 0, none⟩) mm k)).cell? ⟨w.heap.size + 1 + 1 + 1, 0, none⟩ = some (.slice (some ⟨A, 0, none⟩) mm k) := World.cell?_setCell_same _ _ _ s7
  have o7 : ∀ (q : Nat) (v : Value), q ≠ w.heap.size + 1 + 1 + 1 → wa.cell? ⟨q, 0, none⟩ = some v → (wa.setCell ⟨w.heap.size + 1 + 1 + 1, 0, none⟩ (.slice (some ⟨A, 0, none⟩) mm k)).cell? ⟨q, 0, none⟩ = some v := fun q v hq hv => by rw [World.cell?_setCell_far _ _ _ _ (by simp only; omega)]; exact hv
  exact ⟨o7 _ _ (by omega) (k0 _ _ (by simp only; omega) h.t3), o7 _ _ (by omega) (k0 _ _ (by simp only; omega) h.t4), o7 _ _ (by omega) (k0 _ _ (by simp only; omega) h.t6), by rw [World.frozen?_setCell, k1 _ _ (by omega) h.t6]; exact h.f6, ⟨_, _, _, c7, far (.bool true) _ _ _ (by omega) hF, fun a e => by obtain rfl := Option.some.inj e; simp only; omega⟩, by rw [World.frozen?_setCell, k1 _ _ (by omega) h7]; exact h.f7, o7 _ _ (by omega) (hbt ▸ s8), by rw [World.frozen?_setCell, k1 _ _ (by omega) h.t8]; exact h.f8, hd.far (by omega), hTw.keep0 gr (hHw.tb hTw), gr, fun i hi hs => (hpl i hi hs).hand hHw gr, fun e => by simp at e, h.lt⟩
theorem KD.gb {D Bs H : Nat} {W wa : World} (hg : W.grownBy wa (some H)) (hD : D < W.heap.size) (hB : Bs < W.heap.size) (h1 : D ≠ H) (h2 : Bs ≠ H) : KD D Bs W wa := ⟨fun o => World.cell?_of_block (hg.block D hD (fun e => h1 (Option.some.inj e))), World.cell?_of_block (hg.block Bs hB (fun e => h2 (Option.some.inj e)))⟩
theorem KD.set {D Bs q o : Nat} {W : World} {v : Value} (h1 : q ≠ D) (h2 : q ≠ Bs) : KD D Bs W (W.setCell ⟨q, o, none⟩ v) := ⟨fun _ => World.cell?_setCell_far _ _ _ _ h1, World.cell?_setCell_far _ _ _ _ h2⟩
end Go.Proofs.YtapieajkmpnmoaaGreatDoor
namespace Go.Proofs.YtapieajkmpnmoaaGreatDoor
open Go.RowKit Go.Shelf
attribute [local go_sem] Oper.semAt_some
set_option linter.unusedVariables false
theorem back_any (D K : Nat) (w : World) : Calls Tryz.prog 76 #[.slice (some ⟨D, 0, none⟩) K K] w fun e w' => e = .returned (.func (.func 103) #[] #[.pointer (some ⟨w.heap.size, 0, none⟩)]) ∧ w' = w.alloc (.cells #[.slice (some ⟨D, 0, none⟩) K K] 119) := by
  go_enter Tryz.func76, Tryz.ntmps76
  go_wp2_with fail
  exact bodyPost_ret (v := .func (.func 103) #[] #[.pointer (some ⟨w.heap.size, 0, none⟩)]) (by simp [results, Tryz.results76, go_sem]) rfl ⟨rfl, rfl⟩
set_option maxRecDepth 100000 in
set_option maxHeartbeats 1000000 in
theorem join_any (H m D K : Nat) (s : Nat → Bool) (xx : Nat → Nat → Int) (w : World) (hm : m ≤ 8) (hK : K ≤ 254) (hT : Tb w) (hH : Hd w H) (hP : Pl w D K s xx) (neDH : D ≠ H) :
    Calls Tryz.prog 61 #[.pointer (some ⟨H, 0, none⟩), .int .i64 (m : Int), .slice (some ⟨D, 0, none⟩) K K] w fun e w' => Hp w w' H e (fun t => tot (fun i => 2 ^ (m * i) * xx i t) K) := by
  have hc' : ∀ i, ∃ p : Option Addr × Nat × Nat, i < K → w.cell? ⟨D, i * 2, none⟩ = some (.slice p.1 p.2.1 p.2.2) ∧ w.cell? ⟨D, i * 2 + 1, none⟩ = some (.bool (s i)) ∧ (s i = true → Fr w (.agg #[.slice p.1 p.2.1 p.2.2]) (xx i)) := fun i => by
    by_cases hi : i < K
    · obtain ⟨P, n, c, h⟩ := hP.c i hi
      exact ⟨(P, n, c), fun _ => h⟩
    · exact ⟨(none, 0, 0), fun h => absurd h hi⟩
  obtain ⟨g, hg⟩ := Classical.axiomOfChoice hc'
  clear hc'
  have BC := hidden (fun x => callsIn_wide (n := 2) |>.2 (back_any D K x))
  refine callsIn_wide (n := 3) |>.1 ?_
  refine callsIn_of_wp_marks Tryz.func61 rfl trivial ?_ rfl
  simp only [Tryz.ntmps61, List.size_toArray, List.length_cons, List.length_nil, Nat.reduceAdd, Nat.reduceSub, Array.replicate_succ, Array.replicate_zero, List.push_toArray, List.append_toArray, List.nil_append, List.cons_append]
  gi_wp2_with (refine ⟨trivial, ?_⟩; gi_at_call 76; refine (BC.out _).mono ?_; rintro e w' ⟨rfl, rfl⟩)
  have hsz : ((((((w.alloc (.cells #[.pointer (some ⟨H, 0, none⟩)] 107)).alloc (.cells #[.int .i64 (m : Int)] 3)).alloc (.cells #[.slice none 0 0] 32)).alloc (.cells #[.slice none 0 0] 32)).alloc (.cells #[.bool false] 4)).alloc (.cells #[.slice (some ⟨D, 0, none⟩) K K] 119)).heap.size = w.heap.size + 1 + 1 + 1 + 1 + 1 + 1 := by simp only [World.size_alloc]
  have c3 : ((((((w.alloc (.cells #[.pointer (some ⟨H, 0, none⟩)] 107)).alloc (.cells #[.int .i64 (m : Int)] 3)).alloc (.cells #[.slice none 0 0] 32)).alloc (.cells #[.slice none 0 0] 32)).alloc (.cells #[.bool false] 4)).alloc (.cells #[.slice (some ⟨D, 0, none⟩) K K] 119)).cell? ⟨w.heap.size, 0, none⟩ = some (.pointer (some ⟨H, 0, none⟩)) := by go_simp
  have c4 : ((((((w.alloc (.cells #[.pointer (some ⟨H, 0, none⟩)] 107)).alloc (.cells #[.int .i64 (m : Int)] 3)).alloc (.cells #[.slice none 0 0] 32)).alloc (.cells #[.slice none 0 0] 32)).alloc (.cells #[.bool false] 4)).alloc (.cells #[.slice (some ⟨D, 0, none⟩) K K] 119)).cell? ⟨w.heap.size + 1, 0, none⟩ = some (.int .i64 (m : Int)) := by go_simp
  have c6 : ((((((w.alloc (.cells #[.pointer (some ⟨H, 0, none⟩)] 107)).alloc (.cells #[.int .i64 (m : Int)] 3)).alloc (.cells #[.slice none 0 0] 32)).alloc (.cells #[.slice none 0 0] 32)).alloc (.cells #[.bool false] 4)).alloc (.cells #[.slice (some ⟨D, 0, none⟩) K K] 119)).cell? ⟨w.heap.size + 1 + 1, 0, none⟩ = some (.slice none 0 0) := by go_simp
  have c7 : ((((((w.alloc (.cells #[.pointer (some ⟨H, 0, none⟩)] 107)).alloc (.cells #[.int .i64 (m : Int)] 3)).alloc (.cells #[.slice none 0 0] 32)).alloc (.cells #[.slice none 0 0] 32)).alloc (.cells #[.bool false] 4)).alloc (.cells #[.slice (some ⟨D, 0, none⟩) K K] 119)).cell? ⟨w.heap.size + 1 + 1 + 1, 0, none⟩ = some (.slice none 0 0) := by go_simp
  have c8 : ((((((w.alloc (.cells #[.pointer (some ⟨H, 0, none⟩)] 107)).alloc (.cells #[.int .i64 (m : Int)] 3)).alloc (.cells #[.slice none 0 0] 32)).alloc (.cells #[.slice none 0 0] 32)).alloc (.cells #[.bool false] 4)).alloc (.cells #[.slice (some ⟨D, 0, none⟩) K K] 119)).cell? ⟨w.heap.size + 1 + 1 + 1 + 1, 0, none⟩ = some (.bool false) := by go_simp
  have c9 : ((((((w.alloc (.cells #[.pointer (some ⟨H, 0, none⟩)] 107)).alloc (.cells #[.int .i64 (m : Int)] 3)).alloc (.cells #[.slice none 0 0] 32)).alloc (.cells #[.slice none 0 0] 32)).alloc (.cells #[.bool false] 4)).alloc (.cells #[.slice (some ⟨D, 0, none⟩) K K] 119)).cell? ⟨w.heap.size + 1 + 1 + 1 + 1 + 1, 0, none⟩ = some (.slice (some ⟨D, 0, none⟩) K K) := by go_simp
  have f6 : ((((((w.alloc (.cells #[.pointer (some ⟨H, 0, none⟩)] 107)).alloc (.cells #[.int .i64 (m : Int)] 3)).alloc (.cells #[.slice none 0 0] 32)).alloc (.cells #[.slice none 0 0] 32)).alloc (.cells #[.bool false] 4)).alloc (.cells #[.slice (some ⟨D, 0, none⟩) K K] 119)).frozen? ⟨w.heap.size + 1 + 1, 0, none⟩ = false := by go_simp
  have f7 : ((((((w.alloc (.cells #[.pointer (some ⟨H, 0, none⟩)] 107)).alloc (.cells #[.int .i64 (m : Int)] 3)).alloc (.cells #[.slice none 0 0] 32)).alloc (.cells #[.slice none 0 0] 32)).alloc (.cells #[.bool false] 4)).alloc (.cells #[.slice (some ⟨D, 0, none⟩) K K] 119)).frozen? ⟨w.heap.size + 1 + 1 + 1, 0, none⟩ = false := by go_simp
  have f8 : ((((((w.alloc (.cells #[.pointer (some ⟨H, 0, none⟩)] 107)).alloc (.cells #[.int .i64 (m : Int)] 3)).alloc (.cells #[.slice none 0 0] 32)).alloc (.cells #[.slice none 0 0] 32)).alloc (.cells #[.bool false] 4)).alloc (.cells #[.slice (some ⟨D, 0, none⟩) K K] 119)).frozen? ⟨w.heap.size + 1 + 1 + 1 + 1, 0, none⟩ = false := by go_simp
  have BB : Below w.heap.size w ((((((w.alloc (.cells #[.pointer (some ⟨H, 0, none⟩)] 107)).alloc (.cells #[.int .i64 (m : Int)] 3)).alloc (.cells #[.slice none 0 0] 32)).alloc (.cells #[.slice none 0 0] 32)).alloc (.cells #[.bool false] 4)).alloc (.cells #[.slice (some ⟨D, 0, none⟩) K K] 119)) := bl_trans (bl_trans (bl_trans (bl_trans (bl_trans (bl_alloc w _) (bl_alloc _ _)) (bl_alloc _ _)) (bl_alloc _ _)) (bl_alloc _ _)) (bl_alloc _ _)
  obtain ⟨W0, hW0⟩ : ∃ W0, (((((w.alloc (.cells #[.pointer (some ⟨H, 0, none⟩)] 107)).alloc (.cells #[.int .i64 (m : Int)] 3)).alloc (.cells #[.slice none 0 0] 32)).alloc (.cells #[.slice none 0 0] 32)).alloc (.cells #[.bool false] 4)).alloc (.cells #[.slice (some ⟨D, 0, none⟩) K K] 119) = W0 := ⟨_, rfl⟩
  rw [hW0] at hsz c3 c4 c6 c7 c8 c9 f6 f7 f8 BB ⊢
  clear hW0 BC
  have lH := hH.lt
  have lD := hP.lt
  have J0 : Jn w W0 H m K (fun x => (g x).1) (fun x => (g x).2.1) (fun x => (g x).2.2) s xx false (fun _ => 0) := ⟨c3, c4, c6, f6, ⟨none, 0, 0, c7, Fr.zero _, fun a e => by cases e⟩, f7, c8, f8, hH.keep BB, hT.keep BB, gbI BB _, fun i hi hs => ((hg i hi).2.2 hs).keep BB, fun _ _ => zero_lst, lH⟩
  refine wpIn_rangeFunc_ownH (α := {x : Nat // x < K}) rfl (by omega) (gf := 103) (lb := #[.pointer (some ⟨w.heap.size + 1 + 1 + 1 + 1 + 1, 0, none⟩)]) rfl trivial (enters_of Tryz.func103 (by kernel_rfl) rfl)
    (back_stops Fence.wide 2 trivial rfl (by omega) (w.heap.size + 1 + 1 + 1 + 1 + 1) D K (by omega) (fun x => (g x).1) (fun x => (g x).2.1) (fun x => (g x).2.2) s W0 c9 (fun x hx => ⟨cell_keep (hg x hx).1 BB, cell_keep (hg x hx).2.1 BB⟩)) (fun h1 h2 => h1.trans h2) (fun W l o o' hl _ _ _ => KD.putObj (n := W0.heap.size) (by omega) (by omega) W l o o' hl) (Below.refl _ _) (fun _ => rfl)
    (fun pre W => (∃ b y, Jn w W H m K (fun x => (g x).1) (fun x => (g x).2.1) (fun x => (g x).2.2) s xx b y ∧ ∀ t, lst (y t) = lst (ac m xx (pre.map (·.1)) t)) ∧ w.heap.size + 1 + 1 + 1 + 1 + 1 + 1 ≤ W.heap.size)
    (fun _ _ _ => False)
    (fun pre X Y row hs hgr hr => by
      obtain ⟨⟨b, y, h1, h2⟩, h3⟩ := hs
      exact ⟨⟨b, y, h1.own hgr (fun r e => ⟨by have := (hr r e).1; omega, (hr r e).2⟩), h2⟩, Nat.le_trans h3 hgr.size⟩)
    (fun _ _ _ _ _ hs _ _ => hs)
    ⟨⟨false, _, J0, fun t => rfl⟩, by omega⟩
    (fun x a' W => ∃ Bx, w.heap.size + 1 + 1 + 1 + 1 + 1 + 1 ≤ Bx ∧ W.cell? ⟨Bx, 0, none⟩ = some (.slice (g x.1).1 (g x.1).2.1 (g x.1).2.2) ∧ W.cell? ⟨Bx, 1, none⟩ = some (.bool (s x.1)) ∧ a' = { tmps := #[.pointer (some ⟨H, 0, none⟩), .int .i64 (m : Int), .slice (some ⟨D, 0, none⟩) K K, .pointer (some ⟨w.heap.size, 0, none⟩), .pointer (some ⟨w.heap.size + 1, 0, none⟩), undef, .pointer (some ⟨w.heap.size + 1 + 1, 0, none⟩), .pointer (some ⟨w.heap.size + 1 + 1 + 1, 0, none⟩), .pointer (some ⟨w.heap.size + 1 + 1 + 1 + 1, 0, none⟩), undef, .pointer (some ⟨Bx, 0, none⟩), .slice (some ⟨D, 0, none⟩) K K, .func (.func 103) #[] #[.pointer (some ⟨w.heap.size + 1 + 1 + 1 + 1 + 1, 0, none⟩)], .int .i64 (x.1 : Int), .agg #[.slice (g x.1).1 (g x.1).2.1 (g x.1).2.2, .bool (s x.1)], undef, undef, undef, undef, undef, undef, undef, undef, undef, undef, undef, undef, undef, undef, undef, undef], defers := [] })
    (fun x a' _ X Y row hs hgr hr => by
      obtain ⟨Bx, h1, h2, h3, h4⟩ := hs
      exact ⟨Bx, h1, cell_kept h2 hgr (fun r e => (hr r e).2), cell_kept h3 hgr (fun r e => (hr r e).2), h4⟩)
    ?assign ?body ?done ?stop
  case assign =>
    rintro l pre x W K0 ⟨⟨b, y, h1, h2⟩, h3⟩ hK0
    have nb := bl_alloc W (.cells #[.slice (g x.1).1 (g x.1).2.1 (g x.1).2.2, .bool (s x.1)] 128)
    have q0 : (W.alloc (.cells #[.slice (g x.1).1 (g x.1).2.1 (g x.1).2.2, .bool (s x.1)] 128)).cell? ⟨W.heap.size, 0, none⟩ = some (.slice (g x.1).1 (g x.1).2.1 (g x.1).2.2) := by go_simp
    have q1 : (W.alloc (.cells #[.slice (g x.1).1 (g x.1).2.1 (g x.1).2.2, .bool (s x.1)] 128)).cell? ⟨W.heap.size, 1, none⟩ = some (.bool (s x.1)) := by go_simp
    gi_wp2
    exact hK0 _ _ ((KeepsOthers.alloc _ _).from _) ⟨fun o => (bcell nb).1 D o (by have := h1.gr.size; omega), (bcell nb).1 _ 0 (by omega)⟩ ⟨⟨b, y, h1.own (gbI nb none) (fun r e => by cases e), h2⟩, Nat.le_trans h3 nb.size⟩ ⟨W.heap.size, h3, q0, q1, rfl⟩
  case body =>
    rintro l pre x a' W hl ⟨r, hr⟩ ⟨⟨b, y, h1, h2⟩, h3⟩ ⟨Bx, hBx, x0, x1, rfl⟩ hlt
    have t3 := h1.t3
    have t4 := h1.t4
    have t8 := h1.t8
    cases b with
    | false =>
      have hJ := h1
      have hy1 : ∀ t, lst (y t) = lst (2 ^ m * ac m xx (List.map (fun x => x.val) pre) t) := fun t => by
        have e := h1.bz rfl t
        rw [e, lst_twoM (rfl : lst (2 ^ m) = lst (2 ^ m)) ((h2 t).symm.trans (e.trans zero_lst.symm)), Int.mul_zero, zero_lst]
      have X0 := x0
      have X1 := x1
      have KF := KeepsFrom.refl W0.heap.size W
      have KK : KD D (w.heap.size + 1 + 1 + 1 + 1 + 1) W W := ⟨fun _ => rfl, rfl⟩
      have SZ := h3
      clear x0 x1
      cases hsx : s x.1 with
      | false =>
        rw [hsx] at X1
        clear t3 t4 t8
        have t8 := hJ.t8
        have fin : ∀ t, lst (y t) = lst (ac m xx (List.map (fun x => x.val) (pre ++ [x])) t) := fun t => by rw [List.map_append, List.map_cons, List.map_nil, ac_snoc, hy1 t]; have := hP.z x.1 x.2 hsx t; rw [← Int.add_zero (2 ^ m * ac m xx (List.map (fun x => x.val) pre) t)]; exact lst_two (by rw [Int.add_zero]) (zero_lst.trans this.symm)
        gi_wp2
        refine ⟨by first | exact KF | (rw [← hsz]; exact KF), KK, ?_, SZ⟩
        first | exact ⟨_, _, hJ, fin⟩ | exact Or.inl ⟨_, hJ, fin⟩ | exact Or.inr ⟨_, hJ, fin⟩
      | true =>
        rw [hsx] at X1
        clear t3 t4 t8
        have t3 := hJ.t3
        have t8 := hJ.t8
        obtain ⟨P2, n2, c2, z7, zF, -⟩ := id hJ.t7
        have CA := callsIn_wide (n := 0) |>.2 (hadd H _ _ _ (xx x.1) W hJ.tb hJ.hd zF (hJ.pl x.1 x.2 hsx))
        gi_wp2_with (refine ⟨trivial, ?_⟩; gi_at_call 42; refine (CallsIn.inRound l CA).mono ?_; rintro e wa ⟨A, mm, k, rfl, hA, hFa, hda, hga⟩; have u7 := hga.cell z7 (fun e => absurd (Option.some.inj e) (show w.heap.size + 1 + 1 + 1 ≠ H by omega)); have v7 := (gb_frozen_some hga (by rw [z7]; rfl) (show w.heap.size + 1 + 1 + 1 ≠ H by omega)).trans hJ.f7; have u8 := hga.cell t8 (fun e => absurd (Option.some.inj e) (show w.heap.size + 1 + 1 + 1 + 1 ≠ H by omega)); have v8 := (gb_frozen_some hga (by rw [t8]; rfl) (show w.heap.size + 1 + 1 + 1 + 1 ≠ H by omega)).trans hJ.f8; clear CA)
        exact ⟨(KF.trans (KeepsFrom.of_grownBy hga (fun q e => by have := Option.some.inj e; omega))).trans (((KeepsOthers.setCell _ _ _).trans (KeepsOthers.setCell _ _ _)).from _), ((KK.trans (KD.gb hga (by omega) (by omega) neDH (by omega))).trans (KD.set (by omega) (by omega))).trans (KD.set (by omega) (by omega)), ⟨true, _, hJ.put hH (fun q hq hs => (hg q hq).2.2 hs) hga hda SZ hA hFa hT, fun t => by rw [List.map_append, List.map_cons, List.map_nil, ac_snoc]; exact lst_two (hy1 t) rfl⟩, by have := hga.size; simp; omega⟩
    | true =>
      gi_wp2
      gi_loopw [17] (fun kv W' => ∃ k : Nat, k ≤ m ∧ kv = .int .i64 k ∧ ∃ y', Jn w W' H m K (fun x => (g x).1) (fun x => (g x).2.1) (fun x => (g x).2.2) s xx true y' ∧ (∀ t, lst (y' t) = lst (2 ^ k * y t)) ∧ W'.cell? ⟨Bx, 0, none⟩ = some (.slice (g x.1).1 (g x.1).2.1 (g x.1).2.2) ∧ W'.cell? ⟨Bx, 1, none⟩ = some (.bool (s x.1)) ∧ KeepsFrom W0.heap.size W W' ∧ KD D (w.heap.size + 1 + 1 + 1 + 1 + 1) W W' ∧ w.heap.size + 1 + 1 + 1 + 1 + 1 + 1 ≤ W'.heap.size) (fun k _ => m - (intOf k).toNat)
      case atStart => exact ⟨0, Nat.zero_le _, rfl, y, h1, fun t => by rw [Int.pow_zero, Int.one_mul], x0, x1, KeepsFrom.refl _ _, ⟨fun _ => rfl, rfl⟩, h3⟩
      case round =>
        obtain ⟨k, hk, rfl, y', hJ, hyk, X0, X1, KF, KK, SZ⟩ := hrel
        by_cases hkm : k < m
        · have k0 : (k : Int) < (m : Int) := by omega
          have w9 : IntKind.i64.wrap ((k : Int) + 1) = (k : Int) + 1 := IntWalk.i64_in _ (by omega)
          clear t3 t4 t8 x0 x1
          have t3 := hJ.t3
          obtain ⟨P2, n2, c2, z7, zF, -⟩ := id hJ.t7
          have CA := callsIn_wide (n := 0) |>.2 (hdouble H _ _ wr hJ.tb hJ.hd zF)
          gi_wp2_with (refine ⟨trivial, ?_⟩; gi_at_call 75; refine (CallsIn.inRound l CA).mono ?_; rintro e wa ⟨A, mm, q, rfl, hA, hFa, hda, hga⟩; have u7 := hga.cell z7 (fun e => absurd (Option.some.inj e) (show w.heap.size + 1 + 1 + 1 ≠ H by omega)); have v7 := (gb_frozen_some hga (by rw [z7]; rfl) (show w.heap.size + 1 + 1 + 1 ≠ H by omega)).trans hJ.f7; clear CA)
          go_roundw
          case rel =>
            refine ⟨k + 1, by omega, by go_num, _, hJ.dbl hH (fun q hq hs => (hg q hq).2.2 hs) hga hda SZ hA hFa hT rfl, fun t => ?_, ?_, ?_, (KF.trans (KeepsFrom.of_grownBy hga (fun q e => by have := Option.some.inj e; omega))).trans ((KeepsOthers.setCell _ _ _).from _), (KK.trans (KD.gb hga (by omega) (by omega) neDH (by omega))).trans (KD.set (by omega) (by omega)), by have := hga.size; simp; omega⟩
            · rw [lst_two (hyk t) (hyk t), ← Int.two_mul, ← Int.mul_assoc, Int.pow_succ, Int.mul_comm 2]
            · rw [World.cell?_setCell_far _ _ _ _ (by simp only; omega)]; exact hga.cell X0 (fun e => absurd (Option.some.inj e) (show Bx ≠ H by omega))
            · rw [World.cell?_setCell_far _ _ _ _ (by simp only; omega)]; exact hga.cell X1 (fun e => absurd (Option.some.inj e) (show Bx ≠ H by omega))
          case measure => simp [intOf]; omega
        · obtain rfl : k = m := by omega
          have k0 : ¬ (k : Int) < (k : Int) := by omega
          have hy1 : ∀ t, lst (y' t) = lst (2 ^ k * ac k xx (List.map (fun x => x.val) pre) t) := fun t => (hyk t).trans (lst_twoM rfl (h2 t))
          clear x0 x1
          cases hsx : s x.1 with
          | false =>
            rw [hsx] at X1
            clear t3 t4 t8
            have t8 := hJ.t8
            have fin : ∀ t, lst (y' t) = lst (ac k xx (List.map (fun x => x.val) (pre ++ [x])) t) := fun t => by rw [List.map_append, List.map_cons, List.map_nil, ac_snoc, hy1 t]; have := hP.z x.1 x.2 hsx t; rw [← Int.add_zero (2 ^ k * ac k xx (List.map (fun x => x.val) pre) t)]; exact lst_two (by rw [Int.add_zero]) (zero_lst.trans this.symm)
            gi_wp2
            refine ⟨by first | exact KF | (rw [← hsz]; exact KF), KK, ?_, SZ⟩
            first | exact ⟨_, _, hJ, fin⟩ | exact Or.inl ⟨_, hJ, fin⟩ | exact Or.inr ⟨_, hJ, fin⟩
          | true =>
            rw [hsx] at X1
            clear t3 t4 t8
            have t3 := hJ.t3
            have t8 := hJ.t8
            obtain ⟨P2, n2, c2, z7, zF, -⟩ := id hJ.t7
            have CA := callsIn_wide (n := 0) |>.2 (hadd H _ _ _ (xx x.1) wr hJ.tb hJ.hd zF (hJ.pl x.1 x.2 hsx))
            gi_wp2_with (refine ⟨trivial, ?_⟩; gi_at_call 42; refine (CallsIn.inRound l CA).mono ?_; rintro e wa ⟨A, mm, k, rfl, hA, hFa, hda, hga⟩; have u7 := hga.cell z7 (fun e => absurd (Option.some.inj e) (show w.heap.size + 1 + 1 + 1 ≠ H by omega)); have v7 := (gb_frozen_some hga (by rw [z7]; rfl) (show w.heap.size + 1 + 1 + 1 ≠ H by omega)).trans hJ.f7; have u8 := hga.cell t8 (fun e => absurd (Option.some.inj e) (show w.heap.size + 1 + 1 + 1 + 1 ≠ H by omega)); have v8 := (gb_frozen_some hga (by rw [t8]; rfl) (show w.heap.size + 1 + 1 + 1 + 1 ≠ H by omega)).trans hJ.f8; clear CA)
            exact ⟨(KF.trans (KeepsFrom.of_grownBy hga (fun q e => by have := Option.some.inj e; omega))).trans (((KeepsOthers.setCell _ _ _).trans (KeepsOthers.setCell _ _ _)).from _), ((KK.trans (KD.gb hga (by omega) (by omega) neDH (by omega))).trans (KD.set (by omega) (by omega))).trans (KD.set (by omega) (by omega)), ⟨true, _, hJ.put hH (fun q hq hs => (hg q hq).2.2 hs) hga hda SZ hA hFa hT, fun t => by rw [List.map_append, List.map_cons, List.map_nil, ac_snoc]; exact lst_two (hy1 t) rfl⟩, by have := hga.size; simp; omega⟩
  case done =>
    rintro Dd xs W hDd hS ⟨⟨b, y, h1, h2⟩, h3⟩ hKd
    obtain ⟨P, n, c, h7, hF, hA7⟩ := id h1.t7
    have t6 := h1.t6
    have g6 := h1.f6
    gi_wp2
    have hK' := (KeepsOthers.setCell W ⟨w.heap.size + 1 + 1, 0, none⟩ (.slice P n c)).same Dd _ hKd rfl
    refine ⟨by simp, .inl ⟨_, _, rfl, run_takeDeferred hK', ?_⟩⟩
    have gp := grownBy_putObj' (W.setCell ⟨w.heap.size + 1 + 1, 0, none⟩ (.slice P n c)) Dd (.deferred none)
    have kp : ∀ (a : Addr) (v : Value), (W.setCell ⟨w.heap.size + 1 + 1, 0, none⟩ (.slice P n c)).cell? a = some v → ((W.setCell ⟨w.heap.size + 1 + 1, 0, none⟩ (.slice P n c)).putObj Dd (.deferred none)).cell? a = some v := fun a v hv => cell_kept hv gp (fun r e => by cases e; exact ⟨_, hK', rfl⟩)
    have hc5 := kp _ _ (World.cell?_setCell_same _ _ _ t6)
    have gr := gb_box (o := 0) (v := .slice P n c) h1.gr (show w.heap.size ≤ w.heap.size + 1 + 1 by omega)
    have hdx : Hd (W.setCell ⟨w.heap.size + 1 + 1, 0, none⟩ (.slice P n c)) H := h1.hd.far (by omega)
    have nDd : ∀ q, q < w.heap.size → some q ≠ some Dd := fun q hq e => by have := Option.some.inj e; omega
    refine ⟨.agg #[.slice P n c], ?_, P, n, c, rfl, fun a e => by have := hA7 a e; omega, ?_, ?_, ?_⟩
    · simp [results, Tryz.results61, go_sem, hc5]
    · refine ((hF.keepG (w.heap.size + 1 + 1) (gb_set W _ 0 (.slice P n c)) ?_).kept kp).congr (fun t => by rw [h2 t, hS, ac_all])
      rintro P' n' c' hP' _ a rfl
      simp only [Value.agg.injEq, Array.mk.injEq, List.cons.injEq, Value.slice.injEq, and_true] at hP'
      have := hA7 a hP'.1
      omega
    · obtain ⟨q1, q2, a0, a1, b0, b1, a2⟩ := id hdx
      have hB := gp.block H hdx.lt (nDd H lH)
      exact ⟨q1, q2, kp _ _ a0, kp _ _ a1, (World.frozen?_of_block hB).trans b0, (World.frozen?_of_block hB).trans b1, fun o ho => (World.cell?_of_block hB).trans (a2 o ho)⟩
    · exact ⟨gp.os.trans gr.os, gp.tape.trans gr.tape, gp.output.trans gr.output, Nat.le_trans gr.size gp.size, fun q hq hn => (gp.block q (Nat.lt_of_lt_of_le hq gr.size) (nDd q hq)).trans (gr.block q hq hn)⟩
  case stop =>
    rintro Dd c pre W _ _ h _
    exact h.elim
end Go.Proofs.YtapieajkmpnmoaaGreatDoor
namespace Go.Proofs.YtapieajkmpnmoaaGreatDoor
open Go.RowKit
set_option linter.unusedVariables false
def cst1 (n : Int) (m : Nat) : Int := if m = 1 then n * 255 + 254 else if m = 2 then n * 129 + 254 else if m = 3 then n * 89 + 255 else if m = 4 then n * 72 + 256 else if m = 5 then n * 67 + 255 else if m = 6 then n * 75 + 258 else if m = 7 then n * 101 + 259 else if m = 8 then n * 160 + 256 else 0
def cst2 (n : Int) (m : Nat) : Int := if m = 1 then 254 * (n + 1 + 1) else if m = 2 then 127 * (n + 2 + 2) else if m = 3 then 85 * (n + 4 + 3) else if m = 4 then 64 * (n + 8 + 4) else if m = 5 then 51 * (n + 16 + 5) else if m = 6 then 43 * (n + 32 + 6) else if m = 7 then 37 * (n + 64 + 7) else if m = 8 then 32 * (n + 128 + 8) else if m = 9 then 29 * (n + 256 + 9) else if m = 10 then 26 * (n + 512 + 10) else if m = 11 then 24 * (n + 1024 + 11) else if m = 12 then 22 * (n + 2048 + 12) else 0
theorem cost1_all (n X : Nat) (hn : n ≤ 8192) (m : Nat) (h1 : 1 ≤ m) (h2 : m ≤ 8) (w : World) (hX : w.cell? ⟨X, 0, none⟩ = some (.int .i64 (n : Int))) :
    Calls Tryz.prog 49 #[.int .i64 (m : Int), .pointer (some ⟨X, 0, none⟩)] w fun e w' => e = .returned (.int .i64 (cst1 n m)) ∧ Below w.heap.size w w' := by
  obtain rfl | rfl | rfl | rfl | rfl | rfl | rfl | rfl : m = 1 ∨ m = 2 ∨ m = 3 ∨ m = 4 ∨ m = 5 ∨ m = 6 ∨ m = 7 ∨ m = 8 := by omega
  · exact cost1_1 n X hn w hX
  · exact cost1_2 n X hn w hX
  · exact cost1_3 n X hn w hX
  · exact cost1_4 n X hn w hX
  · exact cost1_5 n X hn w hX
  · exact cost1_6 n X hn w hX
  · exact cost1_7 n X hn w hX
  · exact cost1_8 n X hn w hX
theorem cost2_all (n X : Nat) (hn : n ≤ 8192) (m : Nat) (h1 : 1 ≤ m) (h2 : m ≤ 12) (w : World) (hX : w.cell? ⟨X, 0, none⟩ = some (.int .i64 (n : Int))) :
    Calls Tryz.prog 51 #[.int .i64 (m : Int), .pointer (some ⟨X, 0, none⟩)] w fun e w' => e = .returned (.int .i64 (cst2 n m)) ∧ Below w.heap.size w w' := by
  obtain rfl | rfl | rfl | rfl | rfl | rfl | rfl | rfl | rfl | rfl | rfl | rfl : m = 1 ∨ m = 2 ∨ m = 3 ∨ m = 4 ∨ m = 5 ∨ m = 6 ∨ m = 7 ∨ m = 8 ∨ m = 9 ∨ m = 10 ∨ m = 11 ∨ m = 12 := by omega
  · exact cost2_1 n X hn w hX
  · exact cost2_2 n X hn w hX
  · exact cost2_3 n X hn w hX
  · exact cost2_4 n X hn w hX
  · exact cost2_5 n X hn w hX
  · exact cost2_6 n X hn w hX
  · exact cost2_7 n X hn w hX
  · exact cost2_8 n X hn w hX
  · exact cost2_9 n X hn w hX
  · exact cost2_10 n X hn w hX
  · exact cost2_11 n X hn w hX
  · exact cost2_12 n X hn w hX
theorem few_many (N : Nat) (hN : N ≤ 50) (b1 b2 : Nat) (h1 : 1 ≤ b2) (h2 : b2 ≤ 12) (h : ∀ m, 1 ≤ m → m ≤ 8 → cst1 N b1 ≤ cst1 N m) : cst1 N b1 < cst2 N b2 := by
  have h4 : cst1 N b1 ≤ (N : Int) * 72 + 256 := h 4 (by omega) (by omega)
  have h5 : cst1 N b1 ≤ (N : Int) * 67 + 255 := h 5 (by omega) (by omega)
  obtain rfl | rfl | rfl | rfl | rfl | rfl | rfl | rfl | rfl | rfl | rfl | rfl : b2 = 1 ∨ b2 = 2 ∨ b2 = 3 ∨ b2 = 4 ∨ b2 = 5 ∨ b2 = 6 ∨ b2 = 7 ∨ b2 = 8 ∨ b2 = 9 ∨ b2 = 10 ∨ b2 = 11 ∨ b2 = 12 := by omega
  · show cst1 N b1 < 254 * ((N : Int) + 1 + 1); omega
  · show cst1 N b1 < 127 * ((N : Int) + 2 + 2); omega
  · show cst1 N b1 < 85 * ((N : Int) + 4 + 3); omega
  · show cst1 N b1 < 64 * ((N : Int) + 8 + 4); omega
  · show cst1 N b1 < 51 * ((N : Int) + 16 + 5); omega
  · show cst1 N b1 < 43 * ((N : Int) + 32 + 6); omega
  · show cst1 N b1 < 37 * ((N : Int) + 64 + 7); omega
  · show cst1 N b1 < 32 * ((N : Int) + 128 + 8); omega
  · show cst1 N b1 < 29 * ((N : Int) + 256 + 9); omega
  · show cst1 N b1 < 26 * ((N : Int) + 512 + 10); omega
  · show cst1 N b1 < 24 * ((N : Int) + 1024 + 11); omega
  · show cst1 N b1 < 22 * ((N : Int) + 2048 + 12); omega
set_option maxRecDepth 100000 in
set_option maxHeartbeats 2000000 in
theorem cheapest_any (H N L lo cap : Nat) (ks : Nat → E4) (fs : Nat → Nat → Int) (w : World) (hN : N ≤ 50) (hT : Tb w) (hH : Hd w H) (hTm : Tm w L lo N ks fs) :
    Calls Tryz.prog 43 #[.pointer (some ⟨H, 0, none⟩), .slice (some ⟨L, lo, none⟩) N cap] w fun e w' => Hp w w' H e (fun t => tot (fun q => (ks q).n * fs q t) N) := by
  have B2 := bl_alloc2 w (.cells #[.slice none 0 0] 32) (.cells #[.int .i64 (N : Int)] 3)
  have e4 : ((w.alloc (.cells #[.slice none 0 0] 32)).alloc (.cells #[.int .i64 (N : Int)] 3)).cell? ⟨w.heap.size, 0, none⟩ = some (.slice none 0 0) := by go_simp
  have f4 : ((w.alloc (.cells #[.slice none 0 0] 32)).alloc (.cells #[.int .i64 (N : Int)] 3)).frozen? ⟨w.heap.size, 0, none⟩ = false := by go_simp
  have e5 : ((w.alloc (.cells #[.slice none 0 0] 32)).alloc (.cells #[.int .i64 (N : Int)] 3)).cell? ⟨w.heap.size + 1, 0, none⟩ = some (.int .i64 (N : Int)) := by go_simp
  obtain ⟨w2, hw2⟩ : ∃ w2, (w.alloc (.cells #[.slice none 0 0] 32)).alloc (.cells #[.int .i64 (N : Int)] 3) = w2 := ⟨_, rfl⟩
  rw [hw2] at B2 e4 f4 e5
  have LH := hidden hH.lt
  have L1 := hidden (least_1 (fun m => cst1 N m) 8 (w.heap.size + 1) (by omega) (by omega) w2 (fun m h1 h2 x hx => cost1_all N (w.heap.size + 1) (by omega) m h1 h2 x (cell_keep e5 hx)))
  have L2 := hidden (fun (x : World) (hx : Below w2.heap.size w2 x) => least_2 (fun m => cst2 N m) 12 (w.heap.size + 1) (by omega) (by omega) x (fun m h1 h2 x' hx' => cost2_all N (w.heap.size + 1) (by omega) m h1 h2 x' (cell_keep e5 (bl_trans hx hx'))))
  have SS := hidden (fun (m : Nat) (h1 : 1 ≤ m) (h2 : m ≤ 8) (x : World) (hx : Below w2.heap.size w2 x) => straus_any H m N L lo cap ks fs x h1 h2 (by omega) (hT.keep (bl_trans B2 hx)) (hH.keep (bl_trans B2 hx)) (hTm.keep (bl_trans B2 hx)) (fun y D s xx a b c d => join_any H m D (253 / m + 1) s xx y h2 (by have := Nat.div_le_self 253 m; omega) a b c d))
  have FM := hidden (few_many N hN)
  have E4 := hidden (And.intro e4 f4)
  have HB := hidden B2
  clear hT hH hTm hN e4 f4 e5 B2
  simp only [show ((8 : Nat) : Int) = 8 from rfl] at L1
  simp only [show ((12 : Nat) : Int) = 12 from rfl] at L2
  go_enter Tryz.func43, Tryz.ntmps43
  go_upto_region 2 with fail
  go_wp2_with (first
    | (go_at_call 48; refine L1.out.mono ?_; rintro e wa ⟨b1, rfl, h11, h12, h13, ha⟩; have A1 : Hid (1 ≤ b1 ∧ b1 ≤ 8 ∧ (∀ m, 1 ≤ m → m ≤ 8 → cst1 N b1 ≤ cst1 N m) ∧ Below w2.heap.size w2 wa) := hidden ⟨h11, h12, h13, ha⟩; clear h11 h12 h13 ha L1)
    | (go_at_call 48; refine (L2.out _ A1.out.2.2.2).mono ?_; rintro e wb ⟨b2, rfl, h21, h22, -, hb⟩; have lt := FM.out b1 b2 h21 h22 A1.out.2.2.1; have A2 := hidden (bl_trans A1.out.2.2.2 hb); clear h21 h22 hb L2)
    | (go_at_call 52; refine (SS.out b1 A1.out.1 A1.out.2.1 _ A2.out).mono ?_; rintro e wc ⟨PA, mm, k, rfl, hA, hF, hHc, hgc⟩; have n4 : w.heap.size ≠ H := by have := LH.out; omega
       have q0 := hgc.cell (cell_keep E4.out.1 A2.out) (fun e => n4 (Option.some.inj e)); have q1 := (gb_frozen_some hgc (by rw [cell_keep E4.out.1 A2.out]; rfl) n4).trans (((bcell A2.out).2 _ 0 (World.block_lt_of_cell? _ _ E4.out.1)).trans E4.out.2); have RR := hidden (And.intro hA (And.intro hF (And.intro hHc hgc))); clear hA hF hHc hgc SS))
  refine bodyPost_ret (v := .agg #[.slice PA mm k]) (by simp [results, Tryz.results43, go_sem, q0]) rfl ?_
  have h2 := World.block_lt_of_cell? _ _ (cell_keep E4.out.1 A2.out)
  simp only at h2
  have BW := bl_trans HB.out A2.out
  obtain ⟨hA, hF, hHc, hgc⟩ := RR.out
  refine ⟨PA, mm, k, rfl, fun a e => by have := BW.size; have := hA a e; omega, (hF.keepG w.heap.size (gb_set _ _ _ _) ?_).congr (fun t => straus_sum b1 N A1.out.1 ks fs t), hHc.far (by have := LH.out; omega), gb_box ((gbI BW _).trans hgc) (Nat.le_refl _)⟩
  rintro P n c hP _ a rfl
  simp only [Value.agg.injEq, Array.mk.injEq, List.cons.injEq, Value.slice.injEq, and_true] at hP
  have h1 := hA a hP.1
  omega
end Go.Proofs.YtapieajkmpnmoaaGreatDoor
namespace Go.Proofs.YtapieajkmpnmoaaGreatDoor
open Go.RowKit Go.Shelf
attribute [local go_sem] Oper.semAt_some
set_option linter.unusedVariables false
theorem chunk_any (L lo N cap : Nat) (w : World) : Calls Tryz.prog 41 #[.slice (some ⟨L, lo, none⟩) N cap, .int .i64 8192] w fun e w' => e = .returned (.func (.func 47) #[] #[.pointer (some ⟨w.heap.size, 0, none⟩), .pointer (some ⟨w.heap.size + 1, 0, none⟩)]) ∧ w' = (w.alloc (.cells #[.slice (some ⟨L, lo, none⟩) N cap] 63)).alloc (.cells #[.int .i64 8192] 3) := by
  go_enter Tryz.func41, Tryz.ntmps41
  go_wp2_with fail
  exact bodyPost_ret (v := .func (.func 47) #[] #[.pointer (some ⟨w.heap.size, 0, none⟩), .pointer (some ⟨w.heap.size + 1, 0, none⟩)]) (by simp [results, Tryz.results41, go_sem]) rfl ⟨rfl, rfl⟩
def KB (B1 B2 : Nat) (W W' : World) : Prop := W'.cell? ⟨B1, 0, none⟩ = W.cell? ⟨B1, 0, none⟩ ∧ W'.cell? ⟨B2, 0, none⟩ = W.cell? ⟨B2, 0, none⟩
set_option maxRecDepth 100000 in
set_option maxHeartbeats 1000000 in
theorem chunk_stops (F : Fence) (n : Nat) (hf : F.fn 47) (hro : F.round = none) (hn : 1 ≤ n) (B1 B2 L lo N cap : Nat) (hN0 : 1 ≤ N) (hN : N ≤ 50) (hcap : N ≤ cap) (w : World) (c1 : w.cell? ⟨B1, 0, none⟩ = some (.slice (some ⟨L, lo, none⟩) N cap)) (c2 : w.cell? ⟨B2, 0, none⟩ = some (.int .i64 8192)) :
    SeqStopsK (α := Unit) F n Tryz.prog 47 #[.pointer (some ⟨B1, 0, none⟩), .pointer (some ⟨B2, 0, none⟩)] (fun _ => #[.slice (some ⟨L, lo, none⟩) N N]) (KB B1 B2) (fun xs => xs = [()]) (fun _ => True) 1 w := by
  intro l J Jx W hW hJ hJx hY h0
  have d1 := cell_keep c1 hW
  have d2 := cell_keep c2 hW
  clear c1 c2
  show CallsIn F n Tryz.prog 47 #[.func (.yield l) #[] #[], .pointer (some ⟨B1, 0, none⟩), .pointer (some ⟨B2, 0, none⟩)] W _
  refine callsIn_of_wp Tryz.func47 rfl hf ?_ hro
  simp only [Tryz.ntmps47, List.size_toArray, List.length_cons, List.length_nil, Nat.reduceAdd, Nat.reduceSub, Array.replicate_succ, Array.replicate_zero, List.push_toArray, List.append_toArray, List.nil_append, List.cons_append]
  gi_wp2
  gi_loopw [4] (fun i wr => (i = .int .i64 0 ∧ J [] wr ∧ KB B1 B2 W wr) ∨ (i = .int .i64 8192 ∧ J [()] wr ∧ KB B1 B2 W wr))
    (fun i _ => (8192 - intOf i).toNat)
  case atStart => exact .inl ⟨rfl, h0, rfl, rfl⟩
  case round =>
    obtain ⟨rfl, hJs, hk⟩ | ⟨rfl, hJs, hk⟩ := hrel
    · have e1 := hk.1.trans d1
      have e2 := hk.2.trans d2
      have p0 : (0 : Int) < (N : Int) := by omega
      have p1 : (N : Int) < 8192 := by omega
      have p2 : (N : Int) ≤ (cap : Int) := by omega
      have p3 : (0 : Int) ≤ (N : Int) := by omega
      have w1 : IntKind.i64.wrap (0 + (N : Int)) = (N : Int) := by rw [Int.zero_add]; exact IntWalk.i64_in _ (by omega)
      have w2 : IntKind.i64.wrap (N : Int) = (N : Int) := IntWalk.i64_in _ (by omega)
      have w3 : IntKind.i64.wrap (0 + 8192) = 8192 := IntWalk.i64_in _ (by omega)
      have hJd : J [] wr.drew := hJ [] wr wr.drew none hJs (gbI (bl_drew wr) none) (fun r e => by cases e)
      obtain ⟨fn, tmps, assign, body, hy, hR⟩ := hY [] () wr.drew hJd (by simp)
      have e1d : wr.drew.cell? ⟨B1, 0, none⟩ = some (.slice (some ⟨L, lo, none⟩) N cap) := cell_keep e1 (bl_drew _)
      have e2d : wr.drew.cell? ⟨B2, 0, none⟩ = some (.int .i64 8192) := cell_keep e2 (bl_drew _)
      gi_wp2
      gi_region
      all_goals
        gi_wp2
        refine hR.mono ?_
        rintro e W3 (⟨rfl, hJ3, hk3⟩ | ⟨rfl, hJx3⟩)
        · have e3 := hk3.2.trans e2d
          gi_wp2
          go_roundw
          case rel => exact .inr ⟨by go_num, hJ3, ⟨hk3.1.trans (e1d.trans d1.symm), hk3.2.trans (e2d.trans d2.symm)⟩⟩
          case measure => simp [intOf]
        · gi_wp2
          refine bodyPost_ret (results_none rfl _ _ _) rfl ?_
          exact ⟨⟨_, rfl⟩, .inr ⟨_, trivial, hJx3⟩⟩
    · have e1 := hk.1.trans d1
      have p1 : ¬ (8192 : Int) < (N : Int) := by omega
      gi_wp2
      go_end0
      first | exact ⟨⟨_, rfl⟩, .inl ⟨_, rfl, hJs⟩⟩ | exact ⟨⟨_, rfl⟩, .inl hJs⟩
end Go.Proofs.YtapieajkmpnmoaaGreatDoor
