import Derived.Test.YtaejedhdpilhjaaDoorSiam
import Derived.Test.YtaejedhdpilhjaaDoorSiv
import Derived.Test.YtaejedhdpilhjaaDoorStp
namespace Go.Proofs.YtaejedhdpilhjaaDoor
open Go.RowKit
theorem drew_blS (w : World) : Below w.heap.size w w.drew := (Below.refl _ _).drew
theorem St.bare {w0 w : World} (h : Below w0.heap.size w0 w) : St w0 [] [] w := ⟨fun p hp => absurd hp (by simp), fun b hb => absurd hb (by simp), h⟩
/-- a row of scalars is written at a place: the blocks beside it stay -/
theorem St.asideS {w0 : World} {L : List (Nat × E4)} {R : List Nat} {w1 : World} {b o : Nat} (h : St w0 L R w1) (hn : ∀ p ∈ L, b ≠ p.1) (h0 : w0.heap.size ≤ b) (s : E4) : St w0 L R (setS w1 b o s) := by
  refine ⟨fun p hp => ?_, fun c hc => ⟨?_, by rw [setS_size]; exact (h.wrt c hc).2⟩, setS_below _ _ _ _ h.bel h0⟩
  · have k := h.live p hp
    have hf : ∀ i, (setS w1 b o s).cell? ⟨p.1, i, none⟩ = w1.cell? ⟨p.1, i, none⟩ := fun i => setS_far _ _ _ _ _ (fun j _ e => hn p hp (congrArg Addr.block e))
    exact ⟨(hf 0).trans k.c0, (hf 1).trans k.c1, (hf 2).trans k.c2, (hf 3).trans k.c3⟩
  · have k := (h.wrt c hc).1
    exact ⟨by rw [setS_frozen]; exact k.f0, by rw [setS_frozen]; exact k.f1, by rw [setS_frozen]; exact k.f2, by rw [setS_frozen]; exact k.f3⟩
theorem Rws.far4 {w : World} {b n : Nat} {g : Nat → E4} (h : Rws w b n g) {c : Nat} (hne : c ≠ b) (s : E4) : Rws (set4 w c s) b n g := (((h.far hne 0 _).far hne 1 _).far hne 2 _).far hne 3 _
/-- the list, forwards: up to a place -/
def fl (a : Nat → Int) (i k : Nat) : E4 := if k < i then fs a k else zero4
/-- the list, backwards: from a place on -/
def sl (a : Nat → Int) (m k : Nat) : E4 := if k < m then fs a k else iv (a k)
theorem fl_next (a : Nat → Int) (i j : Nat) : (if j = i then fs a i else fl a i j) = fl a (i + 1) j := by
  unfold fl
  by_cases h : j = i
  · subst h; rw [if_pos rfl, if_pos (by omega)]
  · rw [if_neg h]
    by_cases hl : j < i
    · rw [if_pos hl, if_pos (by omega)]
    · rw [if_neg hl, if_neg (by omega)]
theorem fl_skip {a : Nat → Int} {i : Nat} (h : a i % Sm.L = 0) (j : Nat) : fl a i j = fl a (i + 1) j := by
  rw [← fl_next]
  by_cases hj : j = i
  · subst hj
    rw [if_pos rfl]
    unfold fl fs
    rw [if_neg (by omega), if_pos h]
  · rw [if_neg hj]
theorem sl_next (a : Nat → Int) (m j : Nat) : (if j = m then iv (a m) else sl a (m + 1) j) = sl a m j := by
  unfold sl
  by_cases h : j = m
  · subst h; rw [if_pos rfl, if_neg (by omega)]
  · rw [if_neg h]
    by_cases hl : j < m
    · rw [if_pos hl, if_pos (by omega)]
    · rw [if_neg hl, if_neg (by omega)]
theorem sl_skip {a : Nat → Int} {m : Nat} (h : a m % Sm.L = 0) (j : Nat) : sl a (m + 1) j = sl a m j := by
  rw [← sl_next a m j]
  by_cases hj : j = m
  · subst hj
    rw [if_pos rfl]
    unfold sl fs
    rw [if_pos (by omega), if_pos h, iv_zero h]
  · rw [if_neg hj]
set_option maxRecDepth 100000 in
set_option maxHeartbeats 16000000 in
theorem InvertAll_any (b n cap : Nat) (g : Nat → E4) (w : World) (hT : Tb w) (hn : n ≤ 4398046511040) (hg : ∀ k, k < n → (g k).ok) (hR : Rws w b n g) :
    Calls Tryd.prog 39 #[.slice (some ⟨b, 0, none⟩) n cap] w fun e w' => ∃ b' : Nat, e = .returned (.slice (some ⟨b', 0, none⟩) n n) ∧ w.heap.size ≤ b' ∧ Rws w' b' n (fun k => iv (g k).n) ∧ Below w.heap.size w w' := by
  have HT := hidden hT
  have HR := hidden hR
  have HG := hidden hg
  have HN := hidden hn
  obtain ⟨a, ha⟩ : ∃ a : Nat → Int, ∀ k, (g k).n = a k := ⟨_, fun _ => rfl⟩
  have HA := hidden ha
  have nn0 : (0 : Int) ≤ (n : Int) := by omega
  have IT := hidden (fun w => fix (Int_any 1 w (by unfold Sm.Wd; omega)) (show lst 1 = lst (pr a 0) from rfl))
  obtain ⟨i0, hi, hz0, hz1, hz2⟩ := info_parts sinfo
  have hmk := fun w => run_make (P := Tryd.prog) w 23 26 i0 (.agg #[.int .u64 0, .int .u64 0, .int .u64 0, .int .u64 0]) (by kernel_rfl) hi hz0 .i64 .i64 (n : Int) (n : Int) (by omega) (Int.le_refl _) (by rw [hz2]; omega) (by omega)
  simp only [Int.toNat_natCast, hz1] at hmk
  simp only [E4.v] at IT
  clear hT hR hg hn hi hz0 hz1 hz2 ha
  go_enter Tryd.func39, Tryd.ntmps39
  go_upto_region 1 with fail
  go_cut [3] (fun vx wx => ∃ bl : Nat, vx = .slice (some ⟨bl, 0, none⟩) n n ∧ w.heap.size ≤ bl ∧ Rws wx bl n (fun _ => zero4) ∧ Below w.heap.size w wx)
  case first =>
    have R0 := hidden (Rws.made w n 26)
    have B0 := hidden (bl_alloc w (.cells (madeCells #[.int .u64 0, .int .u64 0, .int .u64 0, .int .u64 0] (n * 4)) 26))
    go_wp2_with fail
    go_meet
    exact ⟨_, rfl, Nat.le_refl _, R0.out, B0.out⟩
  case rest =>
  obtain ⟨bl, rfl, hbl, r0, b0⟩ := hcut
  have R0 := hidden r0
  have B0 := hidden b0
  clear r0 b0 hmk
  go_upto_region 2 with fail
  go_cut [4] (fun vx wx => ∃ bp : Nat, vx = .pointer (some ⟨bp, 0, none⟩) ∧ bl < bp ∧ St w [(bp, lst (pr a 0))] [bp] wx ∧ Rws wx bl n (fl a 0))
  case first =>
    go_wp2_with fail
    refine (IT.out _).mono ?_
    rintro e w1 ⟨rfl, hb1⟩
    have s1 := (St.bare (bl_trans B0.out hb1)).roomR (lst (pr a 0)) 26
    have r1 := ((R0.out.keep hb1).keep (bl_alloc w1 (.cells #[.int .u64 (lst (pr a 0)).x0, .int .u64 (lst (pr a 0)).x1, .int .u64 (lst (pr a 0)).x2, .int .u64 (lst (pr a 0)).x3] 26))).congr (f := fl a 0) (fun k _ => by unfold fl; rw [if_neg (by omega)])
    have hl := (R0.out.keep hb1).lt
    replace s1 := hidden s1
    replace r1 := hidden r1
    go_wp2_with fail
    go_meet
    exact ⟨_, rfl, hl, s1.out, r1.out⟩
  case rest =>
  obtain ⟨bp, rfl, hbp, s1, r1⟩ := hcut
  have S1 := hidden s1
  have R1 := hidden r1
  clear s1 r1 R0 B0 IT
  go_wp2_with fail
  go_loopw [15] (fun iv' w' => ∃ k : Nat, k ≤ n ∧ iv' = .int .i64 k ∧ Hid (St w [(bp, lst (pr a k))] [bp] w') ∧ Hid (Rws w' bl n (fl a k))) (fun i _ => n - (intOf i).toNat)
  case atStart => exact ⟨0, by omega, rfl, S1, R1⟩
  case round =>
    clear S1 R1
    obtain ⟨k, hk, rfl, hS, hRr⟩ := hrel
    by_cases hkn : k < n
    · have k0 : (0 : Int) ≤ (k : Int) := by omega
      have k1 : (k : Int) < (n : Int) := by omega
      have w9 : IntKind.i64.wrap ((k : Int) + 1) = (k : Int) + 1 := IntWalk.i64_in _ (by have := HN.out; omega)
      have rx := HR.out.keep hS.out.bel
      have x0 := rx.c0 k hkn
      have x1 := rx.c1 k hkn
      have x2 := rx.c2 k hkn
      have x3 := rx.c3 k hkn
      have zok := HG.out k hkn
      have zn := HA.out k
      generalize g k = z at x0 x1 x2 x3 zok zn
      have S2 := hidden (hS.out.new z 26)
      have R2 := hidden (hRr.out.keep (bl_alloc wr (.cells #[.int .u64 z.x0, .int .u64 z.x1, .int .u64 z.x2, .int .u64 z.x3] 26)))
      have hX := (hS.out.live (bp, lst (pr a k)) (by simp)).lt
      simp only at hX
      clear rx hS hRr
      go_upto_region 6 with fail
      generalize wr.alloc (.cells #[.int .u64 z.x0, .int .u64 z.x1, .int .u64 z.x2, .int .u64 z.x3] 26) = w2 at *
      clear x0 x1 x2 x3
      generalize wr.heap.size = X at *
      have T2 := hidden (S2.out.tb HT.out)
      have IZ := hidden (fun w T => IsZero_any z w T zok)
      simp only [E4.v] at IZ
      rw [zn] at IZ
      have c0 := (S2.out.live (X, z) (by simp)).c0
      have c1 := (S2.out.live (X, z) (by simp)).c1
      have c2 := (S2.out.live (X, z) (by simp)).c2
      have c3 := (S2.out.live (X, z) (by simp)).c3
      simp only at c0 c1 c2 c3
      by_cases hz : a k % Sm.L = 0
      · rw [show decide (a k % Sm.L = 0) = true from decide_eq_true hz] at IZ
        go_cut [22] (fun v wx => v = .bool false ∧ St w [(X, z), (bp, lst (pr a k))] [bp] wx ∧ Rws wx bl n (fl a k))
        case first =>
          have HZ := hidden hz
          clear hz zok zn
          go_wp2_with fail
          refine (IZ.out _ T2.out).mono ?_
          rintro e w3 ⟨rfl, hb3⟩
          have S3 := hidden (S2.out.keep hb3)
          have R3 := hidden (R2.out.keep hb3)
          clear hb3 c0 c1 c2 c3
          go_wp2_with fail
          go_meet
          exact ⟨rfl, S3.out, R3.out⟩
        case rest =>
        obtain ⟨rfl, s3, r3⟩ := hcut
        have S3 : Hid (St w [(bp, lst (pr a (k + 1)))] [bp] wc) := hidden (by rw [pr_zero hz]; exact s3.sub (by simp))
        have R3 := hidden (r3.congr (fun j _ => fl_skip hz j))
        clear s3 r3 c0 c1 c2 c3 zok zn IZ hz S2 R2 T2
        go_wp2_with fail
        go_roundw
        case rel => exact ⟨k + 1, by omega, by go_num, S3, R3⟩
        case measure => simp [intOf]; omega
      · rw [show decide (a k % Sm.L = 0) = false from decide_eq_false hz] at IZ
        have HZ := hidden hz
        have ZN := hidden zn
        have ZO := hidden zok
        clear hz zn zok
        go_cut [22] (fun v wx => v = .bool true ∧ St w [(X, z), (bp, lst (pr a k))] [bp] wx ∧ Rws wx bl n (fl a k))
        case first =>
          go_wp2_with fail
          refine (IZ.out _ T2.out).mono ?_
          rintro e w3 ⟨rfl, hb3⟩
          have S3 := hidden (S2.out.keep hb3)
          have R3 := hidden (R2.out.keep hb3)
          clear hb3 c0 c1 c2 c3
          go_wp2_with fail
          go_meet
          exact ⟨rfl, S3.out, R3.out⟩
        case rest =>
        obtain ⟨rfl, s3, r3⟩ := hcut
        clear c0 c1 c2 c3 IZ S2 R2 T2
        obtain ⟨q, hq⟩ : ∃ q, lst (pr a (k + 1)) = q := ⟨_, rfl⟩
        have HQ := hidden hq
        have MU := hidden (fun w T => fix (R := q) (Mul_any (lst (pr a k)) z w T (lst_ok _) ZO.out) (by rw [ZN.out]; exact (front HZ.out).trans HQ.out))
        clear hq
        have OK1 : lst (pr a k) = fs a k := (if_neg HZ.out).symm
        have R4 := hidden ((r3.at k hkn (lst (pr a k))).congr (f := fl a (k + 1)) (fun j _ => by rw [OK1]; exact fl_next a k j))
        have S4 := hidden (s3.asideS (b := bl) (o := k * 4) (by simp; omega) hbl (lst (pr a k)))
        obtain ⟨p, hp⟩ : ∃ p, lst (pr a k) = p := ⟨_, rfl⟩
        rw [hp] at s3 MU R4 S4
        have p0 := (s3.live (bp, p) (by simp)).c0
        have p1 := (s3.live (bp, p) (by simp)).c1
        have p2 := (s3.live (bp, p) (by simp)).c2
        have p3 := (s3.live (bp, p) (by simp)).c3
        simp only at p0 p1 p2 p3
        have a0 := r3.c0 k hkn
        have a1 := r3.c1 k hkn
        have a2 := r3.c2 k hkn
        have a3 := r3.c3 k hkn
        rw [show fl a k k = zero4 by unfold fl; rw [if_neg (by omega)]] at a0 a1 a2 a3
        have f0 := r3.fr (k * 4) (by omega)
        have f1 := r3.fr (k * 4 + 1) (by omega)
        have f2 := r3.fr (k * 4 + 2) (by omega)
        have f3 := r3.fr (k * 4 + 3) (by omega)
        simp only [E4.v] at MU
        unfold setS at R4 S4
        clear s3 r3 OK1 hp
        go_upto_region 7 with fail
        go_cut [23] (fun v wx => St w [(X, z), (bp, p)] [bp] wx ∧ Rws wx bl n (fl a (k + 1)))
        case first =>
          go_wp2_with fail
          go_meet
          exact ⟨S4.out, R4.out⟩
        case rest =>
        obtain ⟨s5, r5⟩ := hcut
        clear p0 p1 p2 p3 a0 a1 a2 a3 f0 f1 f2 f3 S4 R4
        have p0 := (s5.live (bp, p) (by simp)).c0
        have p1 := (s5.live (bp, p) (by simp)).c1
        have p2 := (s5.live (bp, p) (by simp)).c2
        have p3 := (s5.live (bp, p) (by simp)).c3
        have c0 := (s5.live (X, z) (by simp)).c0
        have c1 := (s5.live (X, z) (by simp)).c1
        have c2 := (s5.live (X, z) (by simp)).c2
        have c3 := (s5.live (X, z) (by simp)).c3
        simp only at p0 p1 p2 p3 c0 c1 c2 c3
        have S5 := hidden s5
        have R5 := hidden r5
        have T5 := hidden (s5.tb HT.out)
        clear s5 r5
        go_upto_region 8 with fail
        go_wp2_with fail
        refine (MU.out _ T5.out).mono ?_
        rintro e w6 ⟨rfl, hb6⟩
        have s6 := S5.out.keep hb6
        have S7 := hidden (s6.set (b := bp) (M := []) q (old := p) (by simp) (by omega) (by simp))
        have R7 := hidden ((R5.out.keep hb6).far4 (c := bp) (by omega) q)
        clear p0 p1 p2 p3 c0 c1 c2 c3
        have p0 := (s6.live (bp, p) (by simp)).c0
        have p1 := (s6.live (bp, p) (by simp)).c1
        have p2 := (s6.live (bp, p) (by simp)).c2
        have p3 := (s6.live (bp, p) (by simp)).c3
        simp only at p0 p1 p2 p3
        have f0 := (s6.wrt bp (by simp)).1.f0
        have f1 := (s6.wrt bp (by simp)).1.f1
        have f2 := (s6.wrt bp (by simp)).1.f2
        have f3 := (s6.wrt bp (by simp)).1.f3
        unfold set4 at S7 R7
        clear s6 S5 R5 T5 MU hb6
        go_wp2_with fail
        go_roundw
        case rel =>
          obtain rfl := HQ.out
          exact ⟨k + 1, by omega, by go_num, S7, R7⟩
        case measure => simp [intOf]; omega
    · have hkn : n = k := by omega
      subst hkn
      have lq : ¬ (n : Int) < (n : Int) := by omega
      obtain ⟨q, hq⟩ : ∃ q, lst (pr a n) = q := ⟨_, rfl⟩
      have IN := hidden (fun w T => fix (R := iv (pr a n)) (Invert_any (lst (pr a n)) w T (lst_ok _)) (lst_pow _ _))
      have s3 := hS.out
      rw [hq] at s3 IN
      have R3 := hidden (hRr.out.congr (f := sl a n) (fun j hj => by unfold fl sl; rw [if_pos hj, if_pos hj]))
      have p0 := (s3.live (bp, q) (by simp)).c0
      have p1 := (s3.live (bp, q) (by simp)).c1
      have p2 := (s3.live (bp, q) (by simp)).c2
      have p3 := (s3.live (bp, q) (by simp)).c3
      simp only at p0 p1 p2 p3
      have S3 := hidden s3
      have T3 := hidden (s3.tb HT.out)
      simp only [E4.v] at IN
      clear s3 hS hRr hq hk
      go_upto_region 10 with fail
      clear lq
      go_cut [7] (fun v wx => ∃ bq : Nat, v = .pointer (some ⟨bq, 0, none⟩) ∧ bp < bq ∧ St w [(bq, iv (pr a n))] [bq] wx ∧ Rws wx bl n (sl a n))
      case first =>
        go_wp2_with fail
        refine (IN.out _ T3.out).mono ?_
        rintro e w4 ⟨rfl, hb4⟩
        have s4 := ((S3.out.keep hb4).roomR (iv (pr a n)) 26)
        have S4 : Hid (St w [(w4.heap.size, iv (pr a n))] [w4.heap.size] _) := hidden ⟨fun p hp => s4.live p (by simp at hp; simp [hp]), fun b hb => s4.wrt b (by simp at hb; simp [hb]), s4.bel⟩
        have R4 := hidden ((R3.out.keep hb4).keep (bl_alloc w4 (.cells #[.int .u64 (iv (pr a n)).x0, .int .u64 (iv (pr a n)).x1, .int .u64 (iv (pr a n)).x2, .int .u64 (iv (pr a n)).x3] 26)))
        have hl := ((S3.out.keep hb4).live (bp, q) (by simp)).lt
        simp only at hl
        clear s4 hb4 p0 p1 p2 p3
        go_wp2_with fail
        go_meet
        exact ⟨_, rfl, hl, S4.out, R4.out⟩
      case rest =>
      obtain ⟨bq, rfl, hbq, s4, r4⟩ := hcut
      have S4 := hidden s4
      have R4 := hidden r4
      clear s4 r4 R3 S3 T3 IN p0 p1 p2 p3
      have w8 : IntKind.i64.wrap ((n : Int) - 1) = (n : Int) - 1 := IntWalk.i64_in _ (by have := HN.out; omega)
      generalize wc = w5 at *
      go_wp2_with fail
      clear w8
      go_loopw [8] (fun v w' => ∃ m : Nat, m ≤ n ∧ v = .int .i64 ((m : Int) - 1) ∧ Hid (St w [(bq, iv (pr a m))] [bq] w') ∧ Hid (Rws w' bl n (sl a m))) (fun v _ => (intOf v + 1).toNat)
      case atStart => exact ⟨n, by omega, rfl, S4, R4⟩
      case round =>
        clear S4 R4
        obtain ⟨m, hm, rfl, hS, hRr⟩ := hrel
        by_cases hm0 : 0 < m
        · obtain ⟨k, rfl⟩ : ∃ k, m = k + 1 := ⟨m - 1, by omega⟩
          have hkn : k < n := by omega
          rw [show ((k + 1 : Nat) : Int) - 1 = (k : Int) by omega]
          have k0 : (0 : Int) ≤ (k : Int) := by omega
          have k1 : (k : Int) < (n : Int) := by omega
          have w9 : IntKind.i64.wrap ((k : Int) - 1) = (k : Int) - 1 := IntWalk.i64_in _ (by have := HN.out; omega)
          have rx := HR.out.keep hS.out.bel
          have x0 := rx.c0 k hkn
          have x1 := rx.c1 k hkn
          have x2 := rx.c2 k hkn
          have x3 := rx.c3 k hkn
          have zok := HG.out k hkn
          have zn := HA.out k
          obtain ⟨z, hz'⟩ : ∃ z, g k = z := ⟨_, rfl⟩
          rw [hz'] at x0 x1 x2 x3 zok zn
          have HZ' := hidden hz'
          have IZ := hidden (fun w T => IsZero_any z w T zok)
          simp only [E4.v] at IZ
          rw [zn] at IZ
          have T2 := hidden (hS.out.tb HT.out)
          clear rx hz'
          by_cases hz : a k % Sm.L = 0
          · rw [show decide (a k % Sm.L = 0) = true from decide_eq_true hz] at IZ
            have PZ := hidden (pr_zero hz)
            have HZ := hidden hz
            clear hz zok zn
            go_upto_region 14 with fail
            go_cut [45] (fun v wx => v = .bool false ∧ St w [(bq, iv (pr a (k + 1)))] [bq] wx ∧ Rws wx bl n (sl a (k + 1)))
            case first =>
              go_wp2_with fail
              refine (IZ.out _ T2.out).mono ?_
              rintro e w3 ⟨rfl, hb3⟩
              have S3 := hidden (hS.out.keep hb3)
              have R3 := hidden (hRr.out.keep hb3)
              clear hb3 x0 x1 x2 x3
              go_wp2_with fail
              go_meet
              exact ⟨rfl, S3.out, R3.out⟩
            case rest =>
            obtain ⟨rfl, s3, r3⟩ := hcut
            rw [PZ.out] at s3
            have S3 := hidden s3
            have R3 := hidden (r3.congr (fun j _ => sl_skip HZ.out j))
            clear s3 r3 x0 x1 x2 x3 IZ T2 PZ HZ hS hRr
            go_wp2_with fail
            go_roundw
            case rel => exact ⟨k, by omega, by go_num, S3, R3⟩
            case measure => simp [intOf]
          · rw [show decide (a k % Sm.L = 0) = false from decide_eq_false hz] at IZ
            have HZ := hidden hz
            have ZN := hidden zn
            have ZO := hidden zok
            clear hz zn zok
            go_upto_region 14 with fail
            go_cut [45] (fun v wx => v = .bool true ∧ St w [(bq, iv (pr a (k + 1)))] [bq] wx ∧ Rws wx bl n (sl a (k + 1)))
            case first =>
              go_wp2_with fail
              refine (IZ.out _ T2.out).mono ?_
              rintro e w3 ⟨rfl, hb3⟩
              have S3 := hidden (hS.out.keep hb3)
              have R3 := hidden (hRr.out.keep hb3)
              clear hb3 x0 x1 x2 x3
              go_wp2_with fail
              go_meet
              exact ⟨rfl, S3.out, R3.out⟩
            case rest =>
            obtain ⟨rfl, s3, r3⟩ := hcut
            clear x0 x1 x2 x3 IZ T2 hS hRr
            obtain ⟨u, hu⟩ : ∃ u, iv (a k) = u := ⟨_, rfl⟩
            obtain ⟨q2, hq2⟩ : ∃ q2, iv (pr a k) = q2 := ⟨_, rfl⟩
            obtain ⟨q1, hq1⟩ : ∃ q1, iv (pr a (k + 1)) = q1 := ⟨_, rfl⟩
            obtain ⟨p, hp⟩ : ∃ p, lst (pr a k) = p := ⟨_, rfl⟩
            have M1 := hidden (fun w T => fix (R := u) (Mul_any p q1 w T (hp ▸ lst_ok _) (hq1 ▸ iv_ok _)) (by rw [← hp, ← hq1, ← hu]; exact back_list HZ.out))
            have M2 := hidden (fun w T => fix (R := q2) (Mul_any q1 z w T (hq1 ▸ iv_ok _) ZO.out) (by rw [ZN.out, ← hq1, ← hq2]; exact back_rest HZ.out))
            have fk : sl a (k + 1) k = p := by unfold sl fs; rw [if_pos (by omega), if_neg HZ.out]; exact hp
            have HU := hidden hu
            have HQ2 := hidden hq2
            rw [hq1] at s3
            clear hu hq2 hq1 hp
            have R4 := hidden (fun (wx : World) (hb : Below wc.heap.size wc wx) => (((r3.keep hb).at k hkn u).congr (f := sl a k) (fun j _ => by rw [← HU.out]; exact sl_next a k j)))
            have S4 := hidden (fun (wx : World) (hb : Below wc.heap.size wc wx) => (s3.keep hb).asideS (b := bl) (o := k * 4) (by simp; omega) hbl u)
            have RK := hidden (fun (wx : World) (hb : Below wc.heap.size wc wx) => r3.keep hb)
            have r4 := r3.keep (drew_blS wc)
            have s4 := s3.keep (drew_blS wc)
            have T4 := hidden (s4.tb HT.out)
            have a0 := r4.c0 k hkn
            have a1 := r4.c1 k hkn
            have a2 := r4.c2 k hkn
            have a3 := r4.c3 k hkn
            rw [fk] at a0 a1 a2 a3
            have p0 := (s4.live (bq, q1) (by simp)).c0
            have p1 := (s4.live (bq, q1) (by simp)).c1
            have p2 := (s4.live (bq, q1) (by simp)).c2
            have p3 := (s4.live (bq, q1) (by simp)).c3
            simp only at p0 p1 p2 p3
            simp only [E4.v] at M1 M2
            unfold setS at R4 S4
            have FK := hidden fk
            clear s3 r3 r4 s4 fk
            go_upto_region 15 with fail
            go_cut [46] (fun v wx => St w [(bq, q1)] [bq] wx ∧ Rws wx bl n (sl a k))
            case first =>
              go_region_with (first | (go_at_call 10; with_reducible refine (M1.out _ T4.out).mono ?_; rintro e wm ⟨rfl, hbm⟩; have hbm := bl_trans (drew_blS wc) hbm; have r5 := RK.out _ hbm; have b0 := r5.c0 k hkn; have b1 := r5.c1 k hkn; have b2 := r5.c2 k hkn; have b3 := r5.c3 k hkn; have f0 := r5.fr (k * 4) (by omega); have f1 := r5.fr (k * 4 + 1) (by omega); have f2 := r5.fr (k * 4 + 2) (by omega); have f3 := r5.fr (k * 4 + 3) (by omega); have R5 := hidden (R4.out _ hbm); have S5 := hidden (S4.out _ hbm); clear r5 hbm))
              all_goals
                go_wp2_with fail
                go_meet
                exact ⟨S5.out, R5.out⟩
            case rest =>
            obtain ⟨s5, r5⟩ := hcut
            clear a0 a1 a2 a3 p0 p1 p2 p3 M1 T4 R4 S4 RK
            have s6 := s5.keep (drew_blS wc)
            have rx := HR.out.keep s6.bel
            have x0 := rx.c0 k hkn
            have x1 := rx.c1 k hkn
            have x2 := rx.c2 k hkn
            have x3 := rx.c3 k hkn
            rw [HZ'.out] at x0 x1 x2 x3
            have p0 := (s6.live (bq, q1) (by simp)).c0
            have p1 := (s6.live (bq, q1) (by simp)).c1
            have p2 := (s6.live (bq, q1) (by simp)).c2
            have p3 := (s6.live (bq, q1) (by simp)).c3
            simp only at p0 p1 p2 p3
            have S6 := hidden s6
            have R6 := hidden (r5.keep (drew_blS wc))
            have T6 := hidden (s6.tb HT.out)
            clear s5 r5 s6 rx
            go_upto_region 16 with fail
            go_region_with (first | (go_at_call 10; with_reducible refine (M2.out _ T6.out).mono ?_; rintro e wm ⟨rfl, hbm⟩; have s7 := S6.out.keep hbm; have b0 := (s7.live (bq, q1) (by simp)).c0; have b1 := (s7.live (bq, q1) (by simp)).c1; have b2 := (s7.live (bq, q1) (by simp)).c2; have b3 := (s7.live (bq, q1) (by simp)).c3; simp only at b0 b1 b2 b3; have f0 := (s7.wrt bq (by simp)).1.f0; have f1 := (s7.wrt bq (by simp)).1.f1; have f2 := (s7.wrt bq (by simp)).1.f2; have f3 := (s7.wrt bq (by simp)).1.f3; have S8 := hidden (s7.set (b := bq) (M := []) q2 (old := q1) (by simp) (by omega) (by simp)); have R8 := hidden ((R6.out.keep hbm).far4 (c := bq) (by omega) q2); unfold set4 at S8 R8; clear s7 hbm))
            all_goals
              clear x0 x1 x2 x3 p0 p1 p2 p3 S6 R6 T6 M2
              go_wp2_with fail
              go_roundw
              case rel =>
                obtain rfl := HQ2.out
                exact ⟨k, by omega, by go_num, S8, R8⟩
              case measure => simp [intOf]
        · have hm1 : m = 0 := by omega
          subst hm1
          have R9 := hidden (hRr.out.congr (f := fun k => iv (g k).n) (fun j _ => by unfold sl; rw [if_neg (by omega), HA.out]))
          have B9 := hidden hS.out.bel
          clear hS hRr hm
          have e1 : ((0 : Nat) : Int) - 1 = -1 := rfl
          rw [e1]
          go_wp2_with fail
          refine bodyPost_ret (v := .slice (some ⟨bl, 0, none⟩) n n) (by simp [results, Tryd.results39, go_sem]) rfl ⟨bl, rfl, hbl, R9.out, B9.out⟩
end Go.Proofs.YtaejedhdpilhjaaDoor
