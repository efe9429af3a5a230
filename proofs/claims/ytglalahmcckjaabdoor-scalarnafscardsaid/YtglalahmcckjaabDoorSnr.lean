import Derived.Test.YtglalahmcckjaabDoorSnf
namespace Go.Proofs.YtglalahmcckjaabDoor
open Go.RowKit

/-- bit j of a number -/
def bt (N : Int) (j : Nat) : Int := N / 2 ^ j % 2
theorem bt_bd (N : Int) (j : Nat) : 0 ≤ bt N j ∧ bt N j ≤ 1 := by unfold bt; omega
theorem win_one (N : Int) (k : Nat) : win N k 1 = bt N k := rfl
theorem bitE_bt (a : E4) (ha : a.ok) (k : Nat) (hk : k < 256) : bitE a k = bt a.n k := by
  rw [← win_one]
  by_cases h : k / 64 + 1 < 4
  · rw [win_low a ha k 1 h (by omega)]
    unfold bitE
    rw [show 64 - k % 64 = (63 - k % 64) + 1 by omega, Int.pow_succ, ← Int.mul_assoc]
    generalize a.get (k / 64 + 1) % 2 ^ (k % 64) * 2 ^ (63 - k % 64) = z
    generalize a.get (k / 64) / 2 ^ (k % 64) = x
    omega
  · have h3 : k / 64 = 3 := by omega
    rw [win_top a ha k 1 h3]
    unfold bitE
    rw [h3]
    rfl
theorem bt_high (a : E4) (ha : a.ok) (k : Nat) (hk : 256 ≤ k) : bt a.n k = 0 := by
  obtain ⟨h0, h1⟩ := ok_bd ha
  unfold bt
  have : a.n / 2 ^ k = 0 := Int.ediv_eq_zero_of_lt h0 (by
    have e := p2mul 256 k hk
    have p := p2pos (k - 256)
    rw [e]
    have h2 := Int.mul_le_mul_of_nonneg_left (c := (2 : Int) ^ 256) (show (1 : Int) ≤ 2 ^ (k - 256) by omega) (by decide)
    rw [Int.mul_one] at h2
    have h3 : (2 : Int) ^ 256 = 115792089237316195423570985008687907853269984665640564039457584007913129639936 := by decide
    omega)
  rw [this]
  rfl
theorem win_succ (N : Int) (hN : 0 ≤ N) (i k : Nat) : win N i (k + 1) = win N i k + bt N (i + k) * 2 ^ k := by
  obtain ⟨n, rfl⟩ := Int.eq_ofNat_of_zero_le hN
  unfold win bt
  rw [Int.pow_add 2 i k, ← Int.ediv_ediv_of_nonneg (by have := p2pos i; omega)]
  have e1 : (n : Int) / 2 ^ i = ((n / 2 ^ i : Nat) : Int) := by simp
  rw [e1]
  generalize n / 2 ^ i = m
  have e2 : (m : Int) % 2 ^ (k + 1) = ((m % 2 ^ (k + 1) : Nat) : Int) := by simp
  have e3 : (m : Int) % 2 ^ k = ((m % 2 ^ k : Nat) : Int) := by simp
  have e4 : (m : Int) / 2 ^ k % 2 = ((m / 2 ^ k % 2 : Nat) : Int) := by simp
  rw [e2, e3, e4, Nat.pow_succ, Nat.mod_mul, Int.natCast_add, Int.natCast_mul, Int.mul_comm]
  simp
theorem win_par (N : Int) (i m : Nat) (hm : 1 ≤ m) : win N i m % 2 = bt N i := by
  unfold win bt
  exact Int.emod_emod_of_dvd _ ⟨2 ^ (m - 1), p2mul 1 m hm⟩
theorem win_zero (N : Int) (i : Nat) : win N i 0 = 0 := by unfold win; omega

theorem rBit_all (a : E4) (ha : a.ok) (k : Nat) (w : World) : Calls Tryd.prog 20 #[a.v, .int .i64 k] w fun e w' => e = .returned (.int .i64 (bt a.n k)) ∧ Below w.heap.size w w' := by
  by_cases hk : k < 256
  · rw [← bitE_bt a ha k hk]
    exact rBit_in a k w ha hk
  · rw [bt_high a ha k (by omega)]
    exact rBit_out a k w (Or.inr (by omega))

set_option maxRecDepth 100000 in
set_option maxHeartbeats 8000000 in
theorem rNaf_in (A : E4) (m : Nat) (w : World) (ha : A.ok) (hm0 : 2 ≤ m) (hm : m ≤ 8) :
    Calls Tryd.prog 12 #[A.v, .int .i64 m] w fun e w' => ∃ b : Nat, e = .returned (.tuple #[.slice (some ⟨b, 0, none⟩) 254 254, .int .i64 0]) ∧ w.heap.size ≤ b ∧ Rwi w' b 254 (nf A.n m 254 0 0) ∧ Below w.heap.size w w' := by
  have CB := hidden (fun k w => rBit_all A ha k w)
  have HN := hidden (ok_bd ha).1
  have mm1 : (2 : Int) ≤ (m : Int) := by omega
  have mm2 : (m : Int) ≤ 8 := by omega
  have ml : ¬ (m : Int) < 2 := by omega
  have mg : ¬ (8 : Int) < (m : Int) := by omega
  have hmk := run_make_row' (P := Tryd.prog) 25 3 (.int .i64 0) 8 (by kernel_rfl) (by kernel_rfl) rfl .i64 .i64 254 (by omega) (by omega)
  rw [show ((254 : Nat) : Int) = 254 from rfl] at hmk
  have S1 := hidden (St.start w A 31)
  clear ha
  simp only [E4.v] at CB ⊢
  go_enter Tryd.func12, Tryd.ntmps12
  go_upto_region 3 with fail
  generalize (w.alloc (.cells #[.int .u64 A.x0, .int .u64 A.x1, .int .u64 A.x2, .int .u64 A.x3] 31)) = wB at S1 ⊢
  go_cut [6] (fun vx wx => ∃ b : Nat, vx = .slice (some ⟨b, 0, none⟩) 254 254 ∧ w.heap.size < b ∧ St w [(w.heap.size, A)] [] wx ∧ Rwi wx b 254 (fun _ => 0))
  case first =>
    have hl := (S1.out.live (w.heap.size, A) (by simp)).lt
    have S2 := hidden (fun t => S1.out.keep (bl_alloc _ (.cells (madeCells #[.int .i64 0] 254) t)))
    have R2 := hidden (fun t => Rwi.made wB 254 t)
    go_wp2_with fail
    go_meet
    exact ⟨_, rfl, hl, S2.out _, R2.out _⟩
  case rest =>
  obtain ⟨b, rfl, hb, s2, r2⟩ := hcut
  have S2 := hidden s2
  have R2 := hidden r2
  clear s2 r2 S1 hmk ml mg
  go_wp2_with fail
  go_loopg [7, 8] 254 (fun f cv iv w' => ∃ (i : Nat) (c : Int) (g : Nat → Int), i ≤ 262 ∧ cv = .int .i64 c ∧ iv = .int .i64 i ∧ Hid (Nf A.n m f i c g) ∧ Hid (St w [(w.heap.size, A)] [] w') ∧ Hid (Rwi w' b 254 g))
  case atStart => exact ⟨0, 0, _, by omega, rfl, rfl, hidden (Nf.start _ _), S2, R2⟩
  case round =>
    clear S2 R2
    obtain ⟨i, c, g, hi, rfl, rfl, hnf, hst, hri⟩ := hrel
    by_cases hi254 : i < 254
    · have ii0 : (0 : Int) ≤ (i : Int) := by omega
      have ii1 : (i : Int) ≤ 253 := by omega
      have CV := hidden (CB.out i)
      have xb := win_bd A.n i m
      have bb := bt_bd A.n i
      have wp := win_par A.n i m (by omega)
      have c01 := hnf.out.c01
      have fu := hnf.out.fu
      have p12 := pow12 m (by omega)
      have pM : (2 : Int) ^ m = 2 * 2 ^ (m - 1) := p2mul 1 m (by omega)
      have pH : (2 : Int) ^ (m - 1) = 2 * 2 ^ (m - 1 - 1) := p2mul 1 (m - 1) (by omega)
      have p0 := p2pos (m - 1)
      have w1 : IntKind.i64.wrap ((m : Int) - 1) = (m : Int) - 1 := IntWalk.i64_in _ (by omega)
      have w2 : ((m : Int) - 1).toNat = m - 1 := by omega
      have w3 : (0 : Int) ≤ (m : Int) - 1 := by omega
      have w8 : IntKind.i64.wrap ((i : Int) + (m : Int)) = ((i + m : Nat) : Int) := by rw [← Int.natCast_add]; exact IntWalk.i64_in _ (by omega)
      have NE := hidden (hnf.out.even hi254)
      have NO := hidden (hnf.out.odd hi254 (by omega))
      have NQ := hidden (naf_q (win A.n i m) c (2 ^ m) (2 ^ (m - 1)) pM xb.1 xb.2 c01 p0)
      have x0 := (hst.out.live (w.heap.size, A) (by simp)).c0
      have x1 := (hst.out.live (w.heap.size, A) (by simp)).c1
      have x2 := (hst.out.live (w.heap.size, A) (by simp)).c2
      have x3 := (hst.out.live (w.heap.size, A) (by simp)).c3
      obtain ⟨X, hX⟩ : ∃ X, win A.n i m = X := ⟨_, rfl⟩
      obtain ⟨y, hy⟩ : ∃ y, bt A.n i = y := ⟨_, rfl⟩
      rw [hX] at xb wp NE NO NQ
      rw [hy] at bb wp CV
      obtain ⟨D, hD⟩ : ∃ D, X + c = D := ⟨_, rfl⟩
      have dB : 0 ≤ D ∧ D ≤ 4096 := by omega
      rw [hD] at NE NO NQ
      have w6 : IntKind.i64.wrap (y + c) = y + c := IntWalk.i64_in _ (by omega)
      have S2 := hidden (fun (wx : World) (hb : Below wr.heap.size wr wx) => (⟨hst.out.keep hb, hri.out.keep hb⟩ : St w [(w.heap.size, A)] [] wx ∧ Rwi wx b 254 g))
      have HX := hidden hX
      clear hnf hst hri hX hy
      by_cases he : (y + c) % 2 = 0
      · have N1 := hidden (NE.out (by omega))
        have dq : (y + c).tdiv 2 = c := by rw [Int.tdiv_eq_ediv_of_nonneg (by omega)]; omega
        have dq2 : (y + c) / 2 = c := by omega
        clear NE NO NQ xb wp hD dB pM pH
        go_upto_region 7 with fail
        go_cut [26] (fun vx wx => vx = .bool true ∧ St w [(w.heap.size, A)] [] wx ∧ Rwi wx b 254 g)
        case first =>
          go_wp2_with fail
          refine (CV.out _).mono ?_
          rintro e wz ⟨rfl, hb⟩
          have HB := hidden (S2.out _ hb)
          clear hb
          go_wp2_with fail
          go_meet
          exact ⟨rfl, HB.out⟩
        case rest =>
        obtain ⟨rfl, s3, r3⟩ := hcut
        clear x0 x1 x2 x3 S2
        have x0 := (s3.live (w.heap.size, A) (by simp)).c0
        have x1 := (s3.live (w.heap.size, A) (by simp)).c1
        have x2 := (s3.live (w.heap.size, A) (by simp)).c2
        have x3 := (s3.live (w.heap.size, A) (by simp)).c3
        have S4 := hidden (fun (wx : World) (hb : Below wc.heap.size wc wx) => (⟨s3.keep hb, r3.keep hb⟩ : St w [(w.heap.size, A)] [] wx ∧ Rwi wx b 254 g))
        clear s3 r3
        go_wp2_with fail
        refine (CV.out _).mono ?_
        rintro e wz ⟨rfl, hb⟩
        obtain ⟨s5, r5⟩ := S4.out _ hb
        have S5 := hidden s5
        have R5 := hidden r5
        clear hb s5 r5 x0 x1 x2 x3 S4
        go_wp2_with fail
        go_roundg (gk - 1)
        case measure => omega
        case rel => exact ⟨i + 1, c, g, by omega, rfl, by go_num, N1, S5, R5⟩
      · have hodd : ¬ D % 2 = 0 := by omega
        have hq := NQ.out hodd
        have N1 := hidden (NO.out hodd hq)
        have he' : ((y + c) % 2 == 0) = false := by simp; omega
        go_upto_region 7 with fail
        go_cut [26] (fun vx wx => vx = .bool false ∧ St w [(w.heap.size, A)] [] wx ∧ Rwi wx b 254 g)
        case first =>
          go_wp2_with fail
          refine (CV.out _).mono ?_
          rintro e wz ⟨rfl, hb⟩
          have HB := hidden (S2.out _ hb)
          clear hb
          go_wp2_with fail
          go_meet
          exact ⟨rfl, HB.out⟩
        case rest =>
        obtain ⟨rfl, s3, r3⟩ := hcut
        clear x0 x1 x2 x3 S2 CV w6
        have S3 := hidden s3
        have R3 := hidden r3
        clear s3 r3
        have CC := hidden (fun k => CB.out (i + k))
        go_wp2_with fail
        go_loopw [9, 10] (fun dv kv w' => ∃ k : Nat, k ≤ m ∧ dv = .int .i64 (c + win A.n i k) ∧ kv = .int .i64 k ∧ Hid (St w [(w.heap.size, A)] [] w') ∧ Hid (Rwi w' b 254 g)) (fun _ k _ => m - (intOf k).toNat)
        case atStart => exact ⟨0, by omega, by rw [win_zero, Int.add_zero], rfl, S3, R3⟩
        case round =>
          clear S3 R3
          obtain ⟨k, hk, rfl, rfl, hst, hri⟩ := hrel
          by_cases hkm : k < m
          · have kk0 : (0 : Int) ≤ (k : Int) := by omega
            have kk1 : (k : Int) < (m : Int) := by omega
            have C1 := hidden (CC.out k)
            have xk := win_bd A.n i k
            have yk := bt_bd A.n (i + k)
            have pk := pow12 k (by omega)
            have pk0 := p2pos k
            have ws := win_succ A.n HN.out i k
            have v1 : IntKind.i64.wrap ((i : Int) + (k : Int)) = ((i + k : Nat) : Int) := by rw [← Int.natCast_add]; exact IntWalk.i64_in _ (by omega)
            generalize bt A.n (i + k) = z at *
            obtain ⟨P, hP⟩ : ∃ P, (2 : Int) ^ k = P := ⟨_, rfl⟩
            have zb : 0 ≤ z * P ∧ z * P ≤ 4096 := by
              rw [hP] at pk pk0
              rcases (show z = 0 ∨ z = 1 by omega) with h | h <;> subst h <;> omega
            rw [hP] at ws xk pk
            have v2 : IntKind.i64.wrap (z * 2 ^ k) = z * P := by rw [hP]; exact IntWalk.i64_in _ (by omega)
            generalize win A.n i k = Y at *
            have v3 : IntKind.i64.wrap (c + Y + z * P) = c + Y + z * P := IntWalk.i64_in _ (by omega)
            have WS := hidden ws
            have x0 := (hst.out.live (w.heap.size, A) (by simp)).c0
            have x1 := (hst.out.live (w.heap.size, A) (by simp)).c1
            have x2 := (hst.out.live (w.heap.size, A) (by simp)).c2
            have x3 := (hst.out.live (w.heap.size, A) (by simp)).c3
            have S4 := hidden (fun (wx : World) (hb : Below wr.heap.size wr wx) => (⟨hst.out.keep hb, hri.out.keep hb⟩ : St w [(w.heap.size, A)] [] wx ∧ Rwi wx b 254 g))
            clear hst hri ws hP xk yk pk pk0 zb
            go_wp2_with fail
            refine (C1.out _).mono ?_
            rintro e wz ⟨rfl, hb⟩
            obtain ⟨s5, r5⟩ := S4.out _ hb
            have S5 := hidden s5
            have R5 := hidden r5
            clear hb s5 r5 x0 x1 x2 x3 S4
            go_wp2_with fail
            go_roundw
            case rel => exact ⟨k + 1, by omega, by rw [WS.out, ← Int.add_assoc], by go_num, S5, R5⟩
            case measure => simp [intOf]; omega
          · have hkk : k = m := by omega
            subst hkk
            rw [HX.out, show c + X = D by omega]
            obtain ⟨H, hH⟩ : ∃ H, (2 : Int) ^ (k - 1) = H := ⟨_, rfl⟩
            obtain ⟨M, hM⟩ : ∃ M, (2 : Int) ^ k = M := ⟨_, rfl⟩
            rw [hH] at N1 hq p0 pM pH
            rw [hM] at N1 pM p12 xb
            have v4 : IntKind.i64.wrap (2 ^ (k - 1)) = H := by rw [hH]; exact IntWalk.i64_in _ (by omega)
            have v5 : IntKind.i64.wrap (2 ^ k) = M := by rw [hM]; exact IntWalk.i64_in _ (by omega)
            have v6 : IntKind.i64.wrap (D - M) = D - M := IntWalk.i64_in _ (by omega)
            have lq : ¬ (k : Int) < (k : Int) := by omega
            have qe : D / H = 1 ↔ D > H := by
              have e1 := Int.emod_add_mul_ediv D H
              have e2 := Int.emod_nonneg D (show H ≠ 0 by omega)
              have e3 := Int.emod_lt_of_pos D p0
              rcases hq with h | h <;> rw [h] at e1 ⊢ <;> constructor <;> intro h' <;> omega
            have PU := hidden (fun v => (⟨hst.out.asideI (b := b) (by intro p hp; rw [List.mem_singleton] at hp; subst hp; show b ≠ w.heap.size; omega) (by omega) i (.int .i64 v), hri.out.at i hi254 v, hri.out.c i hi254, hri.out.fr i hi254⟩ : St w [(w.heap.size, A)] [] (wr.setCell ⟨b, i, none⟩ (.int .i64 v)) ∧ Rwi (wr.setCell ⟨b, i, none⟩ (.int .i64 v)) b 254 (fun j => if j = i then v else g j) ∧ wr.cell? ⟨b, i, none⟩ = some (.int .i64 (g i)) ∧ wr.frozen? ⟨b, i, none⟩ = false))
            by_cases hd : D > H
            · obtain ⟨s3, r3, c3, f3⟩ := PU.out (D - M)
              rw [qe.2 hd, Int.one_mul] at N1
              have S3 := hidden s3
              have R3 := hidden r3
              clear s3 r3 PU hst hri qe hq hH hM pM pH p12 xb wp hD
              generalize g i = gi at *
              go_wp2_with fail
              go_roundg (gk - 1)
              case measure => omega
              case rel => exact ⟨i + k, 1, _, by omega, rfl, by go_num, N1, S3, R3⟩
            · obtain ⟨s3, r3, c3, f3⟩ := PU.out D
              rw [show D / H = 0 by rcases hq with h | h; exact h; exact absurd (qe.1 h) hd, Int.zero_mul, Int.sub_zero] at N1
              have S3 := hidden s3
              have R3 := hidden r3
              have hd' : ¬ H < D := hd
              clear s3 r3 PU hst hri qe hq hH hM pM pH p12 xb wp hD
              generalize g i = gi at *
              go_wp2_with fail
              go_roundg (gk - 1)
              case measure => omega
              case rel => exact ⟨i + k, 0, _, by omega, rfl, by go_num, N1, S3, R3⟩
    · have R3 := hidden (hri.out.congr (hnf.out.done (by omega)))
      have B3 := hidden hst.out.bel
      have lq : ¬ (i : Int) ≤ 253 := by omega
      clear hst hri hnf
      go_wp2_with fail
      refine bodyPost_ret (v := .tuple #[.slice (some ⟨b, 0, none⟩) 254 254, .int .i64 0]) (by simp [results, Tryd.results12, go_sem]) rfl ⟨b, rfl, by omega, R3.out, B3.out⟩
set_option maxRecDepth 100000 in
set_option maxHeartbeats 4000000 in
theorem rNaf_out (a : E4) (i : Int) (w : World) (hi : i < 2 ∨ 8 < i) :
    Calls Tryd.prog 12 #[a.v, .int .i64 i] w fun e w' => e = .returned (.tuple #[.slice none 0 0, .int .i64 1]) ∧ Below w.heap.size w w' := by
  simp only [E4.v]
  rcases hi with h | h
  · go_enter Tryd.func12, Tryd.ntmps12
    go_wp2_with fail
    refine bodyPost_ret (v := .tuple #[.slice none 0 0, .int .i64 1]) (by simp [results, Tryd.results12, go_sem]) rfl ⟨rfl, bl_alloc w _⟩
  · have h0 : ¬ i < 2 := by omega
    go_enter Tryd.func12, Tryd.ntmps12
    go_wp2_with fail
    refine bodyPost_ret (v := .tuple #[.slice none 0 0, .int .i64 1]) (by simp [results, Tryd.results12, go_sem]) rfl ⟨rfl, bl_alloc w _⟩
end Go.Proofs.YtglalahmcckjaabDoor
