import Derived.Test.YtapieajkmpnmoaaGreatDoorSwn
import Derived.Deep.OwnRows
namespace Go.Proofs.YtapieajkmpnmoaaGreatDoor
open Go.RowKit

/-- a row of ints -/
structure Rwi (w : World) (b n : Nat) (f : Nat → Int) : Prop where
  c : ∀ j, j < n → w.cell? ⟨b, j, none⟩ = some (.int .i64 (f j))
  fr : ∀ j, j < n → w.frozen? ⟨b, j, none⟩ = false
  lt : b < w.heap.size
theorem Rwi.keep {w1 w2 : World} {b n : Nat} {f : Nat → Int} (h : Rwi w1 b n f) (hb : Below w1.heap.size w1 w2) : Rwi w2 b n f :=
  ⟨fun j hj => cell_keep (h.c j hj) hb, fun j hj => ((bcell hb).2 _ _ h.lt).trans (h.fr j hj), Nat.lt_of_lt_of_le h.lt hb.size⟩
theorem Rwi.drew {w : World} {b n : Nat} {f : Nat → Int} (h : Rwi w b n f) : Rwi w.drew b n f := h.keep ((Below.refl _ _).drew)
theorem Rwi.far {w : World} {b n : Nat} {f : Nat → Int} (h : Rwi w b n f) {c : Nat} (hne : c ≠ b) (k : Nat) (v : Value) : Rwi (w.setCell ⟨c, k, none⟩ v) b n f :=
  ⟨fun j hj => (World.cell?_setCell_far w _ _ _ hne).trans (h.c j hj), fun j hj => by have := h.fr j hj; go_simp, by have := h.lt; simpa using this⟩
theorem Rwi.far4 {w : World} {b n : Nat} {f : Nat → Int} (h : Rwi w b n f) {c : Nat} (hne : c ≠ b) (s : E4) : Rwi (set4 w c s) b n f :=
  (((h.far hne 0 _).far hne 1 _).far hne 2 _).far hne 3 _
theorem Rwi.congr {w : World} {b n : Nat} {f g : Nat → Int} (h : Rwi w b n f) (e : ∀ j, j < n → f j = g j) : Rwi w b n g := ⟨fun j hj => by rw [← e j hj]; exact h.c j hj, h.fr, h.lt⟩
theorem Rwi.at {w : World} {b n : Nat} {f : Nat → Int} (h : Rwi w b n f) (k : Nat) (hk : k < n) (v : Int) : Rwi (w.setCell ⟨b, k, none⟩ (.int .i64 v)) b n (fun j => if j = k then v else f j) := by
  refine ⟨fun j hj => ?_, fun j hj => by have := h.fr j hj; go_simp, by have := h.lt; simpa using this⟩
  by_cases hjk : j = k
  · subst hjk
    have hb := h.c j hj
    rw [if_pos rfl]
    go_simp
  · rw [World.cell?_setCell_other w _ _ _ (by intro e; exact hjk (congrArg Addr.off e).symm), h.c j hj, if_neg hjk]
theorem Rwi.made (w : World) (n : Nat) (t : TypeId) : Rwi (w.alloc (.cells (madeCells #[.int .i64 0] n) t)) w.heap.size n (fun _ => 0) := by
  have h := World.rowIs_made w (.int .i64 0) n t
  exact ⟨fun j hj => h.cell hj, fun j hj => h.frozen j, by simp⟩
theorem St.asideI {w0 : World} {L : List (Nat × E4)} {R : List Nat} {w1 : World} {b : Nat} (h : St w0 L R w1) (hn : ∀ p ∈ L, b ≠ p.1) (h0 : w0.heap.size ≤ b) (k : Nat) (v : Value) : St w0 L R (w1.setCell ⟨b, k, none⟩ v) :=
  ⟨fun p hp => (h.live p hp).far1 (hn p hp) _ _, fun c hc => ⟨(h.wrt c hc).1.put _ _ _, by simpa using (h.wrt c hc).2⟩, h.bel.setCell h0 _⟩

/-- what is carried ahead of digit i, and the digit -/
def dgc (N : Int) (m : Nat) : Nat → Int
  | 0 => 0
  | i + 1 => if win N (m * i) m + dgc N m i > 2 ^ (m - 1) then 1 else 0
def dg (N : Int) (m i : Nat) : Int := if win N (m * i) m + dgc N m i > 2 ^ (m - 1) then win N (m * i) m + dgc N m i - 2 ^ m else win N (m * i) m + dgc N m i
theorem dgc_bd (N : Int) (m i : Nat) : 0 ≤ dgc N m i ∧ dgc N m i ≤ 1 := by
  cases i with
  | zero => simp [dgc]
  | succ i => unfold dgc; split <;> omega
theorem pow12 (m : Nat) (h : m ≤ 12) : (2 : Int) ^ m ≤ 4096 := by
  have := p2pos (12 - m)
  rw [show (4096 : Int) = 2 ^ 12 from rfl, p2mul m 12 h]
  have h1 := Int.mul_le_mul_of_nonneg_left (c := 2 ^ m) (show (1 : Int) ≤ 2 ^ (12 - m) by omega) (by have := p2pos m; omega)
  rw [Int.mul_one] at h1
  exact h1

set_option maxRecDepth 100000 in
set_option maxHeartbeats 8000000 in
theorem Digits_in (a : E4) (m : Nat) (w : World) (hT : Tb w) (ha : a.ok) (hm0 : 1 ≤ m) (hm : m ≤ 12) :
    Calls Tryz.prog 57 #[a.v, .int .i64 m] w fun e w' => ∃ b : Nat, e = .returned (.tuple #[.slice (some ⟨b, 0, none⟩) (253 / m + 1) (253 / m + 1), .int .i64 0]) ∧ w.heap.size ≤ b ∧ Rwi w' b (253 / m + 1) (dg (lst a.n).n m) ∧ Below w.heap.size w w' := by
  obtain ⟨A, hA⟩ : ∃ t : E4, lst a.n = t := ⟨_, rfl⟩
  have hAo : A.ok := by rw [← hA]; exact lst_ok _
  have CA := hidden (fun w T => fix (Least_any a w T ha) hA)
  have CW := hidden (fun k (hk : k < 256) w => window_any A k m w hAo hk hm)
  rw [hA]
  obtain ⟨q, hq⟩ : ∃ q, 253 / m = q := ⟨_, rfl⟩
  have hqm : m * q ≤ 253 := by rw [← hq]; exact Nat.mul_div_le 253 m
  have q253 : q ≤ 253 := by rw [← hq]; exact Nat.div_le_self _ _
  rw [hq]
  have dv : (253 : Int).tdiv (m : Int) = (q : Int) := by
    rw [Int.tdiv_eq_ediv_of_nonneg (by omega), ← hq]; rfl
  have QM := hidden hqm
  have HT := hidden hT
  have mm1 : (1 : Int) ≤ (m : Int) := by omega
  have mm2 : (m : Int) ≤ 12 := by omega
  have mz : ¬ (m : Int) = 0 := by omega
  have ml : ¬ (m : Int) < 1 := by omega
  have mg : ¬ (12 : Int) < (m : Int) := by omega
  have q0 : (0 : Int) ≤ (q : Int) := by omega
  have q1 : (q : Int) ≤ 253 := by omega
  have wq : IntKind.i64.wrap ((q : Int) + 1) = (q : Int) + 1 := IntWalk.i64_in _ (by omega)
  have hmk := run_make_row' (P := Tryz.prog) 120 3 (.int .i64 0) 8 (by kernel_rfl) (by kernel_rfl) rfl .i64 .i64 (q + 1) (by omega) (by omega)
  rw [show ((q + 1 : Nat) : Int) = (q : Int) + 1 by omega] at hmk
  have s0 := (St.nil w).roomR a 25
  have S0 := hidden s0
  clear s0 hA ha hT hq hqm hAo
  simp only [E4.v] at CA ⊢
  go_enter Tryz.func57, Tryz.ntmps57
  go_upto_region 3 with fail
  generalize (w.alloc (.cells #[.int .u64 a.x0, .int .u64 a.x1, .int .u64 a.x2, .int .u64 a.x3] 25)) = wB at S0 ⊢
  go_cut [] (fun wx => St w [(w.heap.size, A)] [] wx)
  case first =>
    have x0 := (S0.out.live (w.heap.size, a) (by simp)).c0
    have x1 := (S0.out.live (w.heap.size, a) (by simp)).c1
    have x2 := (S0.out.live (w.heap.size, a) (by simp)).c2
    have x3 := (S0.out.live (w.heap.size, a) (by simp)).c3
    have TB := hidden (S0.out.tb HT.out)
    go_wp2_with fail
    refine (CA.out _ TB.out).mono ?_
    rintro e w1 ⟨rfl, hb⟩
    have s2 := S0.out.keep hb
    have z0 := (s2.live (w.heap.size, a) (by simp)).c0
    have z1 := (s2.live (w.heap.size, a) (by simp)).c1
    have z2 := (s2.live (w.heap.size, a) (by simp)).c2
    have z3 := (s2.live (w.heap.size, a) (by simp)).c3
    obtain ⟨f0, f1, f2, f3⟩ := (s2.wrt w.heap.size (by simp)).1
    have S3 := hidden (s2.set (b := w.heap.size) (M := []) A (old := a) (by simp) (by omega) (by simp))
    clear s2 hb x0 x1 x2 x3 TB
    go_wp2_with fail
    go_meet
    exact S3.out.less (by simp) (by simp)
  case rest =>
  have S1 := hidden hcut
  clear hcut S0 CA HT
  go_upto_region 4 with fail
  go_cut [6] (fun vx wx => ∃ b : Nat, vx = .slice (some ⟨b, 0, none⟩) (q + 1) (q + 1) ∧ w.heap.size < b ∧ St w [(w.heap.size, A)] [] wx ∧ Rwi wx b (q + 1) (fun _ => 0))
  case first =>
    have hl := (S1.out.live (w.heap.size, A) (by simp)).lt
    have S2 := hidden (fun t => S1.out.keep (bl_alloc _ (.cells (madeCells #[.int .i64 0] (q + 1)) t)))
    have R2 := hidden (fun t => Rwi.made wc (q + 1) t)
    go_wp2_with fail
    go_meet
    exact ⟨_, rfl, hl, S2.out _, R2.out _⟩
  case rest =>
  obtain ⟨b, rfl, hb, s2, r2⟩ := hcut
  have S2 := hidden s2
  have R2 := hidden r2
  clear s2 r2 S1 hmk dv mz ml mg
  have hlen : (((q + 1 : Nat) : Int)) = (q : Int) + 1 := by omega
  go_wp2_with fail
  go_loopw [7, 24] (fun cv iv w' => ∃ i : Nat, i ≤ q + 1 ∧ cv = .int .i64 (dgc A.n m i) ∧ iv = .int .i64 i ∧ Hid (St w [(w.heap.size, A)] [] w') ∧ Hid (Rwi w' b (q + 1) (fun j => if j < i then dg A.n m j else 0))) (fun _ i _ => q + 1 - (intOf i).toNat)
  case atStart => exact ⟨0, by omega, rfl, rfl, S2, hidden (R2.out.congr (fun j _ => by rw [if_neg (by omega)]))⟩
  case round =>
    obtain ⟨i, hi, rfl, rfl, hst, hri⟩ := hrel
    clear S2 R2
    by_cases hiq : i < q + 1
    · have ii0 : (0 : Int) ≤ (i : Int) := by omega
      have ii1 : (i : Int) < (q : Int) + 1 := by omega
      have hpq : m * i ≤ 253 := Nat.le_trans (Nat.mul_le_mul_left m (show i ≤ q by omega)) QM.out
      have CV := hidden (CW.out (m * i) (by omega))
      have hp : IntKind.i64.wrap ((m : Int) * (i : Int)) = ((m * i : Nat) : Int) := by rw [← Int.natCast_mul]; exact IntWalk.i64_in _ (by omega)
      have xb := win_bd A.n (m * i) m
      have cb := dgc_bd A.n m i
      have p12 := pow12 m hm
      have p11 := pow12 (m - 1) (by omega)
      have p0 := p2pos (m - 1)
      have p1 := p2pos m
      have w1 : IntKind.i64.wrap ((m : Int) - 1) = (m : Int) - 1 := IntWalk.i64_in _ (by omega)
      have w2 : ((m : Int) - 1).toNat = m - 1 := by omega
      have w3 : (0 : Int) ≤ (m : Int) - 1 := by omega
      have ND : Hid (dgc A.n m (i + 1) = if win A.n (m * i) m + dgc A.n m i > 2 ^ (m - 1) then 1 else 0) := hidden rfl
      have NG : Hid (dg A.n m i = if win A.n (m * i) m + dgc A.n m i > 2 ^ (m - 1) then win A.n (m * i) m + dgc A.n m i - 2 ^ m else win A.n (m * i) m + dgc A.n m i) := hidden rfl
      generalize win A.n (m * i) m = X at *
      obtain ⟨C, hC⟩ : ∃ C, dgc A.n m i = C := ⟨_, rfl⟩
      rw [hC] at ND NG cb ⊢
      obtain ⟨H, hH⟩ : ∃ H, (2 : Int) ^ (m - 1) = H := ⟨_, rfl⟩
      obtain ⟨M, hM⟩ : ∃ M, (2 : Int) ^ m = M := ⟨_, rfl⟩
      rw [hH] at ND NG p11 p0
      rw [hM] at NG p12 p1 xb
      have w4 : IntKind.i64.wrap (2 ^ (m - 1)) = H := by rw [hH]; exact IntWalk.i64_in _ (by omega)
      have w5 : IntKind.i64.wrap (2 ^ m) = M := by rw [hM]; exact IntWalk.i64_in _ (by omega)
      obtain ⟨D, hD⟩ : ∃ D, X + C = D := ⟨_, rfl⟩
      rw [hD] at ND NG
      have w6 : IntKind.i64.wrap (X + C) = D := by rw [hD]; exact IntWalk.i64_in _ (by omega)
      have dB : 0 ≤ D ∧ D ≤ 4096 := by omega
      have w7 : IntKind.i64.wrap (D - M) = D - M := IntWalk.i64_in _ (by omega)
      have x0 := (hst.out.live (w.heap.size, A) (by simp)).c0
      have x1 := (hst.out.live (w.heap.size, A) (by simp)).c1
      have x2 := (hst.out.live (w.heap.size, A) (by simp)).c2
      have x3 := (hst.out.live (w.heap.size, A) (by simp)).c3
      have PU := hidden (fun (wx : World) (hb : Below wr.heap.size wr wx) (v : Int) => (⟨(hst.out.keep hb).asideI (b := b) (by intro p hp; rw [List.mem_singleton] at hp; subst hp; show b ≠ w.heap.size; omega) (by omega) i (.int .i64 v), (hri.out.keep hb).at i hiq v, (hri.out.keep hb).c i hiq, (hri.out.keep hb).fr i hiq⟩ : St w [(w.heap.size, A)] [] (wx.setCell ⟨b, i, none⟩ (.int .i64 v)) ∧ Rwi (wx.setCell ⟨b, i, none⟩ (.int .i64 v)) b (q + 1) (fun j => if j = i then v else if j < i then dg A.n m j else 0) ∧ wx.cell? ⟨b, i, none⟩ = some (.int .i64 (if i < i then dg A.n m i else 0)) ∧ wx.frozen? ⟨b, i, none⟩ = false))
      clear hst hri CW hC hH hM hD xb cb p12 p11 p0 p1 QM
      simp only [E4.v] at CV
      go_upto_region 9 with fail
      go_cut [9] (fun vx wx => vx = .int .i64 D ∧ Below wr.heap.size wr wx)
      case first =>
        go_wp2_with fail
        refine (CV.out _).mono ?_
        rintro e wz ⟨rfl, hb⟩
        have HB := hidden hb
        clear hb
        go_wp2_with fail
        go_meet
        exact ⟨rfl, HB.out⟩
      case rest =>
      obtain ⟨rfl, hbz⟩ := hcut
      clear x0 x1 x2 x3 CV
      by_cases hd : D > H
      · obtain ⟨s3, r3, c3, f3⟩ := PU.out _ hbz (D - M)
        rw [if_pos hd] at ND NG
        have S3 := hidden s3
        have R3 := hidden r3
        clear s3 r3 PU hbz
        go_wp2_with fail
        go_roundw
        case rel =>
          refine ⟨i + 1, by omega, by rw [ND.out], by go_num, S3, hidden (R3.out.congr (fun j _ => ?_))⟩
          by_cases hj : j = i
          · subst hj
            rw [if_pos rfl, if_pos (by omega), NG.out]
          · rw [if_neg hj]
            by_cases hlt : j < i
            · rw [if_pos hlt, if_pos (by omega)]
            · rw [if_neg hlt, if_neg (by omega)]
        case measure => simp [intOf]; omega
      · obtain ⟨s3, r3, c3, f3⟩ := PU.out _ hbz D
        rw [if_neg hd] at ND NG
        have S3 := hidden s3
        have R3 := hidden r3
        have hd' : ¬ H < D := hd
        clear s3 r3 PU hbz
        go_wp2_with fail
        go_roundw
        case rel =>
          refine ⟨i + 1, by omega, by rw [ND.out], by go_num, S3, hidden (R3.out.congr (fun j _ => ?_))⟩
          by_cases hj : j = i
          · subst hj
            rw [if_pos rfl, if_pos (by omega), NG.out]
          · rw [if_neg hj]
            by_cases hlt : j < i
            · rw [if_pos hlt, if_pos (by omega)]
            · rw [if_neg hlt, if_neg (by omega)]
        case measure => simp [intOf]; omega
    · have hii : i = q + 1 := by omega
      subst hii
      have S3 := hidden hst.out.bel
      have R3 := hidden (hri.out.congr (g := dg A.n m) (fun j hj => by rw [if_pos hj]))
      clear hst hri CW
      rw [hlen]
      have lq : ¬ (q : Int) + 1 < (q : Int) + 1 := by omega
      go_wp2_with fail
      refine bodyPost_ret (v := .tuple #[.slice (some ⟨b, 0, none⟩) (q + 1) (q + 1), .int .i64 0]) (by simp [results, Tryz.results57, go_sem]) rfl ⟨b, rfl, by omega, R3.out, S3.out⟩
set_option maxRecDepth 100000 in
set_option maxHeartbeats 4000000 in
theorem Digits_out (a : E4) (i : Int) (w : World) (hi : i < 1 ∨ 12 < i) :
    Calls Tryz.prog 57 #[a.v, .int .i64 i] w fun e w' => e = .returned (.tuple #[.slice none 0 0, .int .i64 1]) ∧ Below w.heap.size w w' := by
  simp only [E4.v]
  rcases hi with h | h
  · go_enter Tryz.func57, Tryz.ntmps57
    go_wp2_with fail
    refine bodyPost_ret (v := .tuple #[.slice none 0 0, .int .i64 1]) (by simp [results, Tryz.results57, go_sem]) rfl ⟨rfl, bl_alloc w _⟩
  · have h0 : ¬ i < 1 := by omega
    go_enter Tryz.func57, Tryz.ntmps57
    go_wp2_with fail
    refine bodyPost_ret (v := .tuple #[.slice none 0 0, .int .i64 1]) (by simp [results, Tryz.results57, go_sem]) rfl ⟨rfl, bl_alloc w _⟩
end Go.Proofs.YtapieajkmpnmoaaGreatDoor
