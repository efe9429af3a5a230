import Derived.Test.YtglalahmcckjaaaDoorSdg
import Derived.Deep.LoopGhost
namespace Go.Proofs.YtglalahmcckjaaaDoor
open Go.RowKit

/-- the digits of a non-adjacent form from place i on, c being carried -/
def nf (N : Int) (m : Nat) : Nat → Nat → Int → Nat → Int
  | 0, _, _, _ => 0
  | f + 1, i, c, j => if 254 ≤ i then 0 else if (win N i m + c) % 2 = 0 then nf N m f (i + 1) c j else if j = i then win N i m + c - (win N i m + c) / 2 ^ (m - 1) * 2 ^ m else nf N m f (i + m) ((win N i m + c) / 2 ^ (m - 1)) j
theorem nf_low (N : Int) (m f : Nat) : ∀ (i : Nat) (c : Int) (j : Nat), j < i → nf N m f i c j = 0 := by
  induction f with
  | zero => intro i c j _; rfl
  | succ f ih =>
    intro i c j h
    rw [nf]
    split
    · rfl
    split
    · exact ih _ _ _ (by omega)
    rw [if_neg (by omega)]
    exact ih _ _ _ (by omega)
/-- what is done and what is to come -/
structure Nf (N : Int) (m f i : Nat) (c : Int) (g : Nat → Int) : Prop where
  fu : 254 ≤ i + f
  c01 : c = 0 ∨ c = 1
  z : ∀ j, i ≤ j → g j = 0
  t : ∀ j, j < 254 → nf N m 254 0 0 j = if j < i then g j else nf N m f i c j
theorem Nf.start (N : Int) (m : Nat) : Nf N m 254 0 0 (fun _ => 0) := ⟨by omega, Or.inl rfl, fun _ _ => rfl, fun j _ => by rw [if_neg (by omega)]⟩
theorem Nf.even {N : Int} {m f i : Nat} {c : Int} {g : Nat → Int} (h : Nf N m f i c g) (hi : i < 254) (he : (win N i m + c) % 2 = 0) : Nf N m (f - 1) (i + 1) c g := by
  have fu := h.fu
  obtain ⟨f, rfl⟩ : ∃ k, f = k + 1 := ⟨f - 1, by omega⟩
  refine ⟨by omega, h.c01, fun j hj => h.z j (by omega), fun j hj => ?_⟩
  rw [h.t j hj]
  by_cases h1 : j < i
  · rw [if_pos h1, if_pos (by omega)]
  · rw [if_neg h1, nf, if_neg (by omega), if_pos he, Nat.add_sub_cancel]
    by_cases h2 : j < i + 1
    · rw [if_pos h2, nf_low _ _ _ _ _ _ h2, h.z j (by omega)]
    · rw [if_neg h2]
theorem Nf.odd {N : Int} {m f i : Nat} {c : Int} {g : Nat → Int} (h : Nf N m f i c g) (hi : i < 254) (hm : 1 ≤ m) (he : ¬ (win N i m + c) % 2 = 0) (hq : (win N i m + c) / 2 ^ (m - 1) = 0 ∨ (win N i m + c) / 2 ^ (m - 1) = 1) :
    Nf N m (f - 1) (i + m) ((win N i m + c) / 2 ^ (m - 1)) (fun j => if j = i then win N i m + c - (win N i m + c) / 2 ^ (m - 1) * 2 ^ m else g j) := by
  have fu := h.fu
  obtain ⟨f, rfl⟩ : ∃ k, f = k + 1 := ⟨f - 1, by omega⟩
  refine ⟨by omega, hq, fun j hj => ?_, fun j hj => ?_⟩
  · rw [if_neg (by omega)]
    exact h.z j (by omega)
  rw [h.t j hj]
  by_cases h1 : j < i
  · rw [if_pos h1, if_pos (by omega), if_neg (by omega)]
  · rw [if_neg h1, nf, if_neg (by omega), if_neg he, Nat.add_sub_cancel]
    by_cases h2 : j = i
    · rw [if_pos h2, if_pos (by omega), if_pos h2]
    · rw [if_neg h2]
      by_cases h3 : j < i + m
      · rw [if_pos h3, nf_low _ _ _ _ _ _ h3, if_neg h2, h.z j (by omega)]
      · rw [if_neg h3]
theorem Nf.done {N : Int} {m f i : Nat} {c : Int} {g : Nat → Int} (h : Nf N m f i c g) (hi : 254 ≤ i) (j : Nat) (hj : j < 254) : g j = nf N m 254 0 0 j := by rw [h.t j hj, if_pos (by omega)]
theorem naf_q (x c M H : Int) (hM : M = 2 * H) (h0 : 0 ≤ x) (h1 : x < M) (hc : c = 0 ∨ c = 1) (hH : 0 < H) (ho : ¬ (x + c) % 2 = 0) : (x + c) / H = 0 ∨ (x + c) / H = 1 := by
  have a : x + c < M := by omega
  have b : 0 ≤ (x + c) / H := Int.ediv_nonneg (by omega) (by omega)
  have d : (x + c) / H < 2 := Int.ediv_lt_of_lt_mul hH (by omega)
  omega

set_option maxRecDepth 100000 in
set_option maxHeartbeats 8000000 in
theorem Naf_in (a : E4) (m : Nat) (w : World) (hT : Tb w) (ha : a.ok) (hm0 : 2 ≤ m) (hm : m ≤ 8) :
    Calls Tryd.prog 26 #[a.v, .int .i64 m] w fun e w' => ∃ b : Nat, e = .returned (.tuple #[.slice (some ⟨b, 0, none⟩) 254 254, .int .i64 0]) ∧ w.heap.size ≤ b ∧ Rwi w' b 254 (nf (lst a.n).n m 254 0 0) ∧ Below w.heap.size w w' := by
  obtain ⟨A, hA⟩ : ∃ t : E4, lst a.n = t := ⟨_, rfl⟩
  have hAo : A.ok := by rw [← hA]; exact lst_ok _
  have CA := hidden (fun w T => fix (Least_any a w T ha) hA)
  have CW := hidden (fun k (hk : k < 256) w => window_any A k m w hAo hk (by omega))
  rw [hA]
  have HT := hidden hT
  have mm1 : (2 : Int) ≤ (m : Int) := by omega
  have mm2 : (m : Int) ≤ 8 := by omega
  have ml : ¬ (m : Int) < 2 := by omega
  have mg : ¬ (8 : Int) < (m : Int) := by omega
  have hmk := run_make_row' (P := Tryd.prog) 46 3 (.int .i64 0) 8 (by kernel_rfl) (by kernel_rfl) rfl .i64 .i64 254 (by omega) (by omega)
  rw [show ((254 : Nat) : Int) = 254 from rfl] at hmk
  have s0 := (St.nil w).roomR a 25
  have S0 := hidden s0
  clear s0 hA ha hT hAo
  simp only [E4.v] at CA ⊢
  go_enter Tryd.func26, Tryd.ntmps26
  go_upto_region 3 with fail
  generalize (w.alloc (.cells #[.int .u64 a.x0, .int .u64 a.x1, .int .u64 a.x2, .int .u64 a.x3] 25)) = wB at S0 ⊢
  go_cut [] (fun wx => St w [(w.heap.size, A)] [] wx)
  case first =>
    have x0 := (S0.out.live (w.heap.size, a) (by simp)).c0
    have x1 := (S0.out.live (w.heap.size, a) (by simp)).c1
    have x2 := (S0.out.live (w.heap.size, a) (by simp)).c2
    have x3 := (S0.out.live (w.heap.size, a) (by simp)).c3
    have TB := hidden (S0.out.tb HT.out)
    go_wp2_with fail
    refine (CA.out _ TB.out).mono ?_
    rintro e w1 ⟨rfl, hb⟩
    have s2 := S0.out.keep hb
    have z0 := (s2.live (w.heap.size, a) (by simp)).c0
    have z1 := (s2.live (w.heap.size, a) (by simp)).c1
    have z2 := (s2.live (w.heap.size, a) (by simp)).c2
    have z3 := (s2.live (w.heap.size, a) (by simp)).c3
    obtain ⟨f0, f1, f2, f3⟩ := (s2.wrt w.heap.size (by simp)).1
    have S3 := hidden (s2.set (b := w.heap.size) (M := []) A (old := a) (by simp) (by omega) (by simp))
    clear s2 hb x0 x1 x2 x3 TB
    go_wp2_with fail
    go_meet
    exact S3.out.less (by simp) (by simp)
  case rest =>
  have S1 := hidden hcut
  clear hcut S0 CA HT
  go_upto_region 4 with fail
  go_cut [6] (fun vx wx => ∃ b : Nat, vx = .slice (some ⟨b, 0, none⟩) 254 254 ∧ w.heap.size < b ∧ St w [(w.heap.size, A)] [] wx ∧ Rwi wx b 254 (fun _ => 0))
  case first =>
    have hl := (S1.out.live (w.heap.size, A) (by simp)).lt
    have S2 := hidden (fun t => S1.out.keep (bl_alloc _ (.cells (madeCells #[.int .i64 0] 254) t)))
    have R2 := hidden (fun t => Rwi.made wc 254 t)
    go_wp2_with fail
    go_meet
    exact ⟨_, rfl, hl, S2.out _, R2.out _⟩
  case rest =>
  obtain ⟨b, rfl, hb, s2, r2⟩ := hcut
  have S2 := hidden s2
  have R2 := hidden r2
  clear s2 r2 S1 hmk ml mg
  go_wp2_with fail
  go_loopg [7, 8] 254 (fun f cv iv w' => ∃ (i : Nat) (c : Int) (g : Nat → Int), i ≤ 262 ∧ cv = .int .i64 c ∧ iv = .int .i64 i ∧ Hid (Nf A.n m f i c g) ∧ Hid (St w [(w.heap.size, A)] [] w') ∧ Hid (Rwi w' b 254 g))
  case atStart => exact ⟨0, 0, _, by omega, rfl, rfl, hidden (Nf.start _ _), S2, R2⟩
  case round =>
    clear S2 R2
    obtain ⟨i, c, g, hi, rfl, rfl, hnf, hst, hri⟩ := hrel
    by_cases hi254 : i < 254
    · have ii0 : (0 : Int) ≤ (i : Int) := by omega
      have ii1 : (i : Int) < 254 := by omega
      have CV := hidden (CW.out i (by omega))
      have xb := win_bd A.n i m
      have c01 := hnf.out.c01
      have fu := hnf.out.fu
      have p12 := pow12 m (by omega)
      have pM : (2 : Int) ^ m = 2 * 2 ^ (m - 1) := p2mul 1 m (by omega)
      have p0 := p2pos (m - 1)
      have w1 : IntKind.i64.wrap ((m : Int) - 1) = (m : Int) - 1 := IntWalk.i64_in _ (by omega)
      have w2 : ((m : Int) - 1).toNat = m - 1 := by omega
      have w3 : (0 : Int) ≤ (m : Int) - 1 := by omega
      have w8 : IntKind.i64.wrap ((i : Int) + (m : Int)) = ((i + m : Nat) : Int) := by rw [← Int.natCast_add]; exact IntWalk.i64_in _ (by omega)
      have NE := hidden (hnf.out.even hi254)
      have NO := hidden (hnf.out.odd hi254 (by omega))
      have NQ := hidden (naf_q (win A.n i m) c (2 ^ m) (2 ^ (m - 1)) pM xb.1 xb.2 c01 p0)
      have x0 := (hst.out.live (w.heap.size, A) (by simp)).c0
      have x1 := (hst.out.live (w.heap.size, A) (by simp)).c1
      have x2 := (hst.out.live (w.heap.size, A) (by simp)).c2
      have x3 := (hst.out.live (w.heap.size, A) (by simp)).c3
      generalize win A.n i m = X at *
      obtain ⟨D, hD⟩ : ∃ D, X + c = D := ⟨_, rfl⟩
      have dB : 0 ≤ D ∧ D ≤ 4096 := by omega
      rw [hD] at NE NO NQ
      have w6 : IntKind.i64.wrap (X + c) = D := by rw [hD]; exact IntWalk.i64_in _ (by omega)
      have tm : D.tmod 2 = D % 2 := by rw [Int.tmod_eq_emod_of_nonneg dB.1]
      have S2 := hidden (fun (wx : World) (hb : Below wr.heap.size wr wx) => (⟨hst.out.keep hb, hri.out.keep hb⟩ : St w [(w.heap.size, A)] [] wx ∧ Rwi wx b 254 g))
      clear hnf hst hri CW hD xb
      simp only [E4.v] at CV
      go_upto_region 8 with fail
      go_cut [9] (fun vx wx => vx = .int .i64 D ∧ St w [(w.heap.size, A)] [] wx ∧ Rwi wx b 254 g)
      case first =>
        go_wp2_with fail
        refine (CV.out _).mono ?_
        rintro e wz ⟨rfl, hb⟩
        have HB := hidden (S2.out _ hb)
        clear hb
        go_wp2_with fail
        go_meet
        exact ⟨rfl, HB.out⟩
      case rest =>
      obtain ⟨rfl, s3, r3⟩ := hcut
      clear x0 x1 x2 x3 CV S2
      by_cases he : D % 2 = 0
      · have N1 := hidden (NE.out he)
        have S3 := hidden s3
        have R3 := hidden r3
        clear NE NO NQ s3 r3
        rw [he] at tm
        go_wp2_with fail
        go_roundg (gk - 1)
        case measure => omega
        case rel => exact ⟨i + 1, c, g, by omega, rfl, by go_num, N1, S3, R3⟩
      · have hq := NQ.out he
        have N1 := hidden (NO.out he hq)
        obtain ⟨M, hM⟩ : ∃ M, (2 : Int) ^ m = M := ⟨_, rfl⟩
        obtain ⟨Q, hQ⟩ : ∃ Q, D / 2 ^ (m - 1) = Q := ⟨_, rfl⟩
        rw [hQ] at hq
        rw [hQ, hM] at N1
        have hQM : Q * M = 0 ∨ Q * M = M := by
          rcases hq with h | h
          · rw [h]; left; omega
          · rw [h]; right; omega
        have w7 : IntKind.i64.wrap (Q * 2 ^ m) = Q * M := by rw [hM]; exact IntWalk.i64_in _ (by omega)
        have w9 : IntKind.i64.wrap (D - Q * M) = D - Q * M := IntWalk.i64_in _ (by omega)
        have he' : (D % 2 == 0) = false := by simp; omega
        have S3 := hidden (s3.asideI (b := b) (by intro p hp; rw [List.mem_singleton] at hp; subst hp; show b ≠ w.heap.size; omega) (by omega) i (.int .i64 (D - Q * M)))
        have R3 := hidden (r3.at i hi254 (D - Q * M))
        have c3 := r3.c i hi254
        have f3 := r3.fr i hi254
        clear NE NO NQ s3 r3 pM hM hQM hq p12
        go_wp2_with fail
        go_roundg (gk - 1)
        case measure => omega
        case rel => exact ⟨i + m, Q, _, by omega, rfl, by go_num, N1, S3, R3⟩
    · have R3 := hidden (hri.out.congr (hnf.out.done (by omega)))
      have B3 := hidden hst.out.bel
      have lq : ¬ (i : Int) < 254 := by omega
      clear hst hri hnf CW
      go_wp2_with fail
      refine bodyPost_ret (v := .tuple #[.slice (some ⟨b, 0, none⟩) 254 254, .int .i64 0]) (by simp [results, Tryd.results26, go_sem]) rfl ⟨b, rfl, by omega, R3.out, B3.out⟩
set_option maxRecDepth 100000 in
set_option maxHeartbeats 4000000 in
theorem Naf_out (a : E4) (i : Int) (w : World) (hi : i < 2 ∨ 8 < i) :
    Calls Tryd.prog 26 #[a.v, .int .i64 i] w fun e w' => e = .returned (.tuple #[.slice none 0 0, .int .i64 1]) ∧ Below w.heap.size w w' := by
  simp only [E4.v]
  rcases hi with h | h
  · go_enter Tryd.func26, Tryd.ntmps26
    go_wp2_with fail
    refine bodyPost_ret (v := .tuple #[.slice none 0 0, .int .i64 1]) (by simp [results, Tryd.results26, go_sem]) rfl ⟨rfl, bl_alloc w _⟩
  · have h0 : ¬ i < 2 := by omega
    go_enter Tryd.func26, Tryd.ntmps26
    go_wp2_with fail
    refine bodyPost_ret (v := .tuple #[.slice none 0 0, .int .i64 1]) (by simp [results, Tryd.results26, go_sem]) rfl ⟨rfl, bl_alloc w _⟩
end Go.Proofs.YtglalahmcckjaaaDoor
