import Derived.Test.YtglalahmcckjaabDoorScy
import Derived.Test.YtglalahmcckjaabDoorSli
import Derived.Test.YtglalahmcckjaabDoorSde
namespace Go.Proofs.YtglalahmcckjaabDoor
open Go.RowKit

theorem Naf_all (a : E4) (i : Int) : ∃ (er : Int) (n : Nat) (f : Nat → Int), n < 1000000 ∧ ∀ z : E4, z.ok → lst z.n = lst a.n → ∀ w, Tb w → Calls Tryd.prog 9 #[z.v, .int .i64 i] w fun e w' => ∃ s, e = .returned (.tuple #[s, .int .i64 er]) ∧ Ls w' s n f ∧ Below w.heap.size w w' := by
  by_cases h0 : i < 2
  · exact ⟨1, 0, fun _ => 0, by omega, fun z _ _ w _ => (Naf_out z i w (Or.inl h0)).mono fun e w' q => ⟨_, q.1, ⟨none, rfl, fun h => absurd h (by omega)⟩, q.2⟩⟩
  by_cases h1 : 8 < i
  · exact ⟨1, 0, fun _ => 0, by omega, fun z _ _ w _ => (Naf_out z i w (Or.inr h1)).mono fun e w' q => ⟨_, q.1, ⟨none, rfl, fun h => absurd h (by omega)⟩, q.2⟩⟩
  obtain ⟨m, rfl⟩ := Int.eq_ofNat_of_zero_le (show 0 ≤ i by omega)
  refine ⟨0, 254, nf (lst a.n).n m 254 0 0, by omega, fun z hz hl w T => (Naf_in z m w T hz (by omega) (by omega)).mono fun e w' q => ?_⟩
  obtain ⟨b, q1, _, q3, q4⟩ := q
  rw [hl] at q3
  exact ⟨_, q1, ⟨_, rfl, fun _ => ⟨b, rfl, q3⟩⟩, q4⟩
theorem Digits_all (a : E4) (i : Int) : ∃ (er : Int) (n : Nat) (f : Nat → Int), n < 1000000 ∧ ∀ z : E4, z.ok → lst z.n = lst a.n → ∀ w, Tb w → Calls Tryd.prog 29 #[z.v, .int .i64 i] w fun e w' => ∃ s, e = .returned (.tuple #[s, .int .i64 er]) ∧ Ls w' s n f ∧ Below w.heap.size w w' := by
  by_cases h0 : i < 1
  · exact ⟨1, 0, fun _ => 0, by omega, fun z _ _ w _ => (Digits_out z i w (Or.inl h0)).mono fun e w' q => ⟨_, q.1, ⟨none, rfl, fun h => absurd h (by omega)⟩, q.2⟩⟩
  by_cases h1 : 12 < i
  · exact ⟨1, 0, fun _ => 0, by omega, fun z _ _ w _ => (Digits_out z i w (Or.inr h1)).mono fun e w' q => ⟨_, q.1, ⟨none, rfl, fun h => absurd h (by omega)⟩, q.2⟩⟩
  obtain ⟨m, rfl⟩ := Int.eq_ofNat_of_zero_le (show 0 ≤ i by omega)
  refine ⟨0, 253 / m + 1, dg (lst a.n).n m, by have := Nat.div_le_self 253 m; omega, fun z hz hl w T => (Digits_in z m w T hz (by omega) (by omega)).mono fun e w' q => ?_⟩
  obtain ⟨b, q1, _, q3, q4⟩ := q
  rw [hl] at q3
  exact ⟨_, q1, ⟨_, rfl, fun _ => ⟨b, rfl, q3⟩⟩, q4⟩
theorem Bit_all (a : E4) (i : Int) : ∃ v : Int, ∀ z : E4, z.ok → lst z.n = lst a.n → ∀ w, Tb w → Calls Tryd.prog 19 #[z.v, .int .i64 i] w fun e w' => e = .returned (.int .i64 v) ∧ Below w.heap.size w w' := by
  by_cases h0 : i < 0
  · exact ⟨0, fun z _ _ w _ => Bit_out z i w (Or.inl h0)⟩
  by_cases h1 : 252 < i
  · exact ⟨0, fun z _ _ w _ => Bit_out z i w (Or.inr h1)⟩
  obtain ⟨k, rfl⟩ := Int.eq_ofNat_of_zero_le (show 0 ≤ i by omega)
  refine ⟨bitE (lst a.n) k, fun z hz hl w T => ?_⟩
  rw [← hl]
  exact Bit_in z k w T hz (by omega)
structure Anw (w0 : World) (L : List (Nat × E4)) (R : List Nat) (d f h k : Value) (n1 n2 : Nat) (f1 f2 : Nat → Int) (w : World) : Prop where
  st : St w0 L R w
  ld : Ls w d n1 f1
  lf : Ls w f n1 f1
  lh : Ls w h n2 f2
  lk : Ls w k n2 f2
theorem Anw.keep {w0 : World} {L : List (Nat × E4)} {R : List Nat} {d f h k : Value} {n1 n2 : Nat} {f1 f2 : Nat → Int} {w1 w2 : World} (q : Anw w0 L R d f h k n1 n2 f1 f2 w1) (hb : Below w1.heap.size w1 w2) : Anw w0 L R d f h k n1 n2 f1 f2 w2 :=
  ⟨q.st.keep hb, q.ld.keep hb, q.lf.keep hb, q.lh.keep hb, q.lk.keep hb⟩
theorem Anw.drew {w0 : World} {L : List (Nat × E4)} {R : List Nat} {d f h k : Value} {n1 n2 : Nat} {f1 f2 : Nat → Int} {w1 : World} (q : Anw w0 L R d f h k n1 n2 f1 f2 w1) : Anw w0 L R d f h k n1 n2 f1 f2 w1.drew := q.keep ((Below.refl _ _).drew)
theorem lst_eq {z a : E4} (h : lst z.n = lst a.n) : z.n % Sm.L = a.n % Sm.L := by
  have := congrArg E4.n h
  rwa [lst_n, lst_n] at this
theorem carried_lst (m a : E4) (hm : m.ok) (h : lst m.n = lst a.n) (hc : (m.n + Sm.L) / 115792089237316195423570985008687907853269984665640564039457584007913129639936 = 0) : (limE (m.n + Sm.L)).ok ∧ lst (limE (m.n + Sm.L)).n = lst a.n := by
  refine ⟨limE_ok _, ?_⟩
  have h0 := (ok_bd hm).1
  rw [limE_n _ (by unfold Sm.L; omega) (by unfold Sm.L at *; omega), ← h]
  exact lst_congr (by rw [Int.add_emod, Int.emod_self, Int.add_zero, emod_emod_L])

set_option maxRecDepth 100000 in
set_option maxHeartbeats 64000000 in
theorem any_any (a b : E4) (i : Int) (w : World) (hT : Tb w) (ha : a.ok) (hb : b.ok) : Calls Tryd.prog 6 #[a.v, b.v, .int .i64 i] w fun e w' => e = .returned (.bool true) ∧ Below w.heap.size w w' := by
  obtain ⟨e1, n1, f1, hn1, cN⟩ := Naf_all a i
  obtain ⟨e2, n2, f2, hn2, cD⟩ := Digits_all a i
  obtain ⟨v, cB⟩ := Bit_all a i
  obtain ⟨X, hX⟩ : ∃ t : E4, lst a.n = t := ⟨_, rfl⟩
  have LX : lst X.n = X := by rw [← hX, lst_n']
  have hXo : X.ok := by rw [← hX]; exact lst_ok _
  have al := hidden (fun w T => alive_any w T)
  have HT := hidden hT
  have HA := hidden ha
  have HB := hidden hb
  have CN := hidden cN
  have CD := hidden cD
  have CB := hidden cB
  have HX := hidden hX
  have lex := hidden (fun w T => fix (Least_any a w T ha) hX)
  have leX := hidden (fun w T => fix (Least_any X w T hXo) LX)
  have pr := hidden prime_any
  have izl := hidden (fun w T => IsZero_any lE w T lE_ok)
  rw [show decide (lE.n % Sm.L = 0) = true by decide] at izl
  have s0 := (St.start w a 24).new b 24
  simp only [World.size_alloc] at s0
  have S0 := hidden s0
  have N1 := hidden hn1
  have N2 := hidden hn2
  clear s0 cN cD cB hX LX hXo hT ha hb hn1 hn2
  simp only [E4.v, lE] at lex leX pr izl ⊢
  go_enter Tryd.func6, Tryd.ntmps6
  go_upto_region 1 with fail
  generalize ((w.alloc (.cells #[.int .u64 a.x0, .int .u64 a.x1, .int .u64 a.x2, .int .u64 a.x3] 24)).alloc (.cells #[.int .u64 b.x0, .int .u64 b.x1, .int .u64 b.x2, .int .u64 b.x3] 24)) = wB at S0 ⊢
  go_wp2_with fail
  refine (al.out _ (S0.out.tb HT.out)).mono ?_
  rintro e w1 ⟨rfl, hb1⟩
  have S1 := hidden (S0.out.keep hb1)
  clear hb1 S0 al
  go_upto_region 3 with fail
  go_cut [7] (fun vx wx => ∃ px : Nat, vx = .pointer (some ⟨px, 0, none⟩) ∧ w.heap.size + 1 < px ∧ St w [(px, a), (w.heap.size + 1, b), (w.heap.size, a)] [] wx)
  case first =>

    have x0 := (S1.out.live (w.heap.size, a) (by simp)).c0
    have x1 := (S1.out.live (w.heap.size, a) (by simp)).c1
    have x2 := (S1.out.live (w.heap.size, a) (by simp)).c2
    have x3 := (S1.out.live (w.heap.size, a) (by simp)).c3
    have hl := (S1.out.live (w.heap.size + 1, b) (by simp)).lt
    have s2 := hidden (S1.out.new a 28)
    go_wp2_with fail
    go_meet
    exact ⟨_, rfl, hl, s2.out⟩
  case rest =>
  obtain ⟨px, rfl, hpx, s1⟩ := hcut
  clear S1
  have S1 := hidden s1
  clear s1
  go_upto_region 4 with fail
  go_cut [8] (fun vx wx => ∃ py : Nat, vx = .pointer (some ⟨py, 0, none⟩) ∧ px < py ∧ St w [(py, b), (px, a), (w.heap.size, a)] [] wx)
  case first =>
    have x0 := (S1.out.live (w.heap.size + 1, b) (by simp)).c0
    have x1 := (S1.out.live (w.heap.size + 1, b) (by simp)).c1
    have x2 := (S1.out.live (w.heap.size + 1, b) (by simp)).c2
    have x3 := (S1.out.live (w.heap.size + 1, b) (by simp)).c3
    have hl := (S1.out.live (px, a) (by simp)).lt
    have s2 := hidden ((S1.out.new b 28).sub (M := [(wc.heap.size, b), (px, a), (w.heap.size, a)]) (by simp))
    go_wp2_with fail
    go_meet
    exact ⟨_, rfl, hl, s2.out⟩
  case rest =>
  obtain ⟨py, rfl, hpy, s1⟩ := hcut
  clear S1
  have S1 := hidden s1
  clear s1
  have CA := hidden (carried_any a)
  go_upto_region 5 with fail
  go_cut [9, 10] (fun vx vo wx => ∃ (pm : Nat) (mo : E4) (ok : Bool), vx = .pointer (some ⟨pm, 0, none⟩) ∧ vo = .bool ok ∧ py < pm ∧ Hid (ok = true → mo.ok ∧ lst mo.n = lst a.n) ∧ St w [(pm, mo), (py, b), (px, a)] [pm] wx)
  case first =>
    have x0 := (S1.out.live (w.heap.size, a) (by simp)).c0
    have x1 := (S1.out.live (w.heap.size, a) (by simp)).c1
    have x2 := (S1.out.live (w.heap.size, a) (by simp)).c2
    have x3 := (S1.out.live (w.heap.size, a) (by simp)).c3
    have CB2 := hidden (fun w => CA.out w HA.out)
    simp only [E4.v] at CB2
    go_wp2_with fail
    refine (CB2.out _).mono ?_
    rintro e w2 ⟨rfl, hb2⟩
    have s1 := S1.out.keep hb2
    have hl := (s1.live (py, b) (by simp)).lt
    have s2 := hidden ((s1.roomR (limE (a.n + Sm.L)) 24).less (M := [(w2.heap.size, limE (a.n + Sm.L)), (py, b), (px, a)]) (Q := [w2.heap.size]) (by simp) (by simp))
    clear hb2 s1 x0 x1 x2 x3
    go_wp2_with fail
    go_meet
    exact ⟨_, _, _, rfl, rfl, hl, hidden (fun h => carried_lst a a HA.out rfl (of_decide_eq_true h)), s2.out⟩
  case rest =>
  obtain ⟨pm, mo, ok, rfl, rfl, hpm, hmo, s1⟩ := hcut
  clear S1 CA
  have S1 := hidden s1
  clear s1
  go_wp2_with fail
  go_loopw [10, 11] (fun ov iv w' => ∃ (ok : Bool) (k : Nat) (mo : E4), k ≤ 16 ∧ ov = .bool ok ∧ iv = .int .i64 k ∧ Hid (ok = true → mo.ok ∧ lst mo.n = lst a.n) ∧ Hid (St w [(pm, mo), (py, b), (px, a)] [pm] w')) (fun _ i _ => 16 - (intOf i).toNat)
  case atStart => exact ⟨ok, 0, mo, by omega, rfl, rfl, hmo, S1⟩
  case round =>
    clear S1 hmo
    obtain ⟨ok, k, mo, hk, rfl, rfl, hmo, S1⟩ := hrel
    by_cases hgo : ok = true ∧ k < 16
    · obtain ⟨hok, hk16⟩ := hgo
      subst hok
      have kk0 : (0 : Int) ≤ (k : Int) := by omega
      have kk1 : (k : Int) < 16 := by omega
      obtain ⟨mk, ml⟩ := hmo.out rfl
      have MK := hidden mk
      have ML := hidden ml
      have me := lst_eq ml
      obtain ⟨A, hA⟩ : ∃ t : E4, lst (a.n + b.n) = t := ⟨_, rfl⟩
      obtain ⟨S, hS⟩ : ∃ t : E4, lst (b.n - a.n) = t := ⟨_, rfl⟩
      obtain ⟨M, hM⟩ : ∃ t : E4, lst (a.n * b.n) = t := ⟨_, rfl⟩
      obtain ⟨I, hI⟩ : ∃ t : E4, lst (a.n ^ 7237005577332262213973186563042994240857116359379907606001950938285454250987) = t := ⟨_, rfl⟩
      obtain ⟨G, hG⟩ : ∃ t : E4, lst (-a.n) = t := ⟨_, rfl⟩
      obtain ⟨D, hD⟩ : ∃ c, decide (a.n % Sm.L = 0) = c := ⟨_, rfl⟩
      have adx := hidden (fun w T => fix (Add_any a b w T HA.out HB.out) hA)
      have adz := hidden (fun w T => fix (Add_any mo b w T mk HB.out) (show lst (mo.n + b.n) = A by rw [← lst_add, ml, lst_add, hA]))
      have sbx := hidden (fun w T => fix (Sub_any b a w T HB.out HA.out) hS)
      have sbz := hidden (fun w T => fix (Sub_any b mo w T HB.out mk) (show lst (b.n - mo.n) = S by rw [← hS]; exact lst_congr (by rw [Int.sub_emod, me, ← Int.sub_emod])))
      have mlx := hidden (fun w T => fix (Mul_any a b w T HA.out HB.out) hM)
      have mlz := hidden (fun w T => fix (Mul_any mo b w T mk HB.out) (show lst (mo.n * b.n) = M by rw [← lst_mul, ml, lst_mul, hM]))
      have ivx := hidden (fun w T => fix (Invert_any a w T HA.out) hI)
      have ivz := hidden (fun w T => fix (Invert_any mo w T mk) (show lst (mo.n ^ 7237005577332262213973186563042994240857116359379907606001950938285454250987) = I by rw [← lst_pow, ml, lst_pow, hI]))
      have ngx := hidden (fun w T => fix (Neg_any a w T HA.out) hG)
      have ngz := hidden (fun w T => fix (Neg_any mo w T mk) (show lst (-mo.n) = G by rw [← lst_neg, ml, lst_neg, hG]))
      have lez := hidden (fun w T => fix (Least_any mo w T mk) (ml.trans HX.out))
      have enx := hidden (fun w T => Encode_any a w T HA.out)
      have enz := hidden (fun w T => Encode_any mo w T mk)
      rw [me] at enz
      have eqE := fun w => (eq32 (bytes (a.n % Sm.L)) (bytes (a.n % Sm.L)) w (bytes_len _) (bytes_len _)).trans (by rw [decide_eq_true rfl] : _ = Result.ok true w)
      have smx := hidden (fun w T => Same_any a mo w T HA.out mk)
      have smz := hidden (fun w T => Same_any mo a w T mk HA.out)
      rw [ml, E4.same_self] at smx smz
      have izx := hidden (fun w T => IsZero_any a w T HA.out)
      have izz := hidden (fun w T => IsZero_any mo w T mk)
      rw [hD] at izx
      rw [me, hD] at izz
      have btx := hidden (fun w T => CB.out a HA.out rfl w T)
      have btz := hidden (fun w T => CB.out mo mk ml w T)
      have nfx := hidden (fun w T => CN.out a HA.out rfl w T)
      have nfz := hidden (fun w T => CN.out mo mk ml w T)
      have dgx := hidden (fun w T => CD.out a HA.out rfl w T)
      have dgz := hidden (fun w T => CD.out mo mk ml w T)
      have ca := hidden (fun w => carried_any mo w mk)
      have qx := fun (x : E4) w => (eq4 x x w).trans (by rw [E4.same_self] : _ = Result.ok true w)
      have NXT := hidden (carried_lst mo a mk ml)
      obtain ⟨EV, hEV⟩ : ∃ v : Array Value, ((bytes (a.n % Sm.L)).map fun z => Value.int .u8 z).toArray = v := ⟨_, rfl⟩
      rw [hEV] at enx enz eqE
      simp only [E4.v] at adx adz sbx sbz mlx mlz ivx ivz ngx ngz lez enx enz smx smz izx izz btx btz nfx nfz dgx dgz ca qx
      clear hA hS hM hI hG hD mk ml me hEV hmo
      go_upto_region 9 with fail
      go_cut [12] (fun vx wx => ∃ pz : Nat, vx = .pointer (some ⟨pz, 0, none⟩) ∧ pm < pz ∧ St w [(pz, mo), (pm, mo), (py, b), (px, a)] [pm] wx)
      case first =>
        have x0 := (S1.out.live (pm, mo) (by simp)).c0
        have x1 := (S1.out.live (pm, mo) (by simp)).c1
        have x2 := (S1.out.live (pm, mo) (by simp)).c2
        have x3 := (S1.out.live (pm, mo) (by simp)).c3
        have hl := (S1.out.live (pm, mo) (by simp)).lt
        have s2 := hidden (S1.out.new mo 28)
        go_wp2_with fail
        go_meet
        exact ⟨_, rfl, hl, s2.out⟩
      case rest =>
      obtain ⟨pz, rfl, hpz, s1⟩ := hcut
      clear S1
      have S1 := hidden s1
      clear s1
      go_upto_region 10 with fail
      go_cut [13, 14] (fun vx ve wx => ∃ s : Value, s = vx ∧ ve = .int .i64 e1 ∧ Hid (St w [(pz, mo), (pm, mo), (py, b), (px, a)] [pm] wx) ∧ Ls wx s n1 f1)
      case first =>
        have x0 := (S1.out.live (px, a) (by simp)).c0
        have x1 := (S1.out.live (px, a) (by simp)).c1
        have x2 := (S1.out.live (px, a) (by simp)).c2
        have x3 := (S1.out.live (px, a) (by simp)).c3
        have TB := hidden (S1.out.tb HT.out)
        go_wp2_with fail
        refine (nfx.out _ TB.out).mono ?_
        rintro e w2 ⟨s, rfl, hs, hb2⟩
        have s1 := hidden (S1.out.keep hb2)
        have HS := hidden hs
        clear hb2 hs x0 x1 x2 x3
        go_wp2_with fail
        go_meet
        exact ⟨_, rfl, rfl, s1, HS.out⟩
      case rest =>
      obtain ⟨vd, rfl, rfl, s1, hvd⟩ := hcut
      clear S1
      have S1 := s1
      clear s1
      have Hvd := hidden hvd
      clear hvd
      go_upto_region 11 with fail
      go_cut [15, 16] (fun vx ve wx => ∃ s : Value, s = vx ∧ ve = .int .i64 e1 ∧ Hid (St w [(pz, mo), (pm, mo), (py, b), (px, a)] [pm] wx) ∧ Ls wx s n1 f1 ∧ Ls wx vd n1 f1)
      case first =>
        have x0 := (S1.out.live (pz, mo) (by simp)).c0
        have x1 := (S1.out.live (pz, mo) (by simp)).c1
        have x2 := (S1.out.live (pz, mo) (by simp)).c2
        have x3 := (S1.out.live (pz, mo) (by simp)).c3
        have TB := hidden (S1.out.tb HT.out)
        go_wp2_with fail
        refine (nfz.out _ TB.out).mono ?_
        rintro e w2 ⟨s, rfl, hs, hb2⟩
        have s1 := hidden (S1.out.keep hb2)
        have HS := hidden hs
        have Kvd := hidden (Hvd.out.keep hb2)
        clear hb2 hs x0 x1 x2 x3
        go_wp2_with fail
        go_meet
        exact ⟨_, rfl, rfl, s1, HS.out, Kvd.out⟩
      case rest =>
      obtain ⟨vf, rfl, rfl, s1, hvf, hvd⟩ := hcut
      clear S1 Hvd
      have S1 := s1
      clear s1
      have Hvf := hidden hvf
      clear hvf
      have Hvd := hidden hvd
      clear hvd
      go_upto_region 12 with fail
      go_cut [17, 18] (fun vx ve wx => ∃ s : Value, s = vx ∧ ve = .int .i64 e2 ∧ Hid (St w [(pz, mo), (pm, mo), (py, b), (px, a)] [pm] wx) ∧ Ls wx s n2 f2 ∧ Ls wx vf n1 f1 ∧ Ls wx vd n1 f1)
      case first =>
        have x0 := (S1.out.live (px, a) (by simp)).c0
        have x1 := (S1.out.live (px, a) (by simp)).c1
        have x2 := (S1.out.live (px, a) (by simp)).c2
        have x3 := (S1.out.live (px, a) (by simp)).c3
        have TB := hidden (S1.out.tb HT.out)
        go_wp2_with fail
        refine (dgx.out _ TB.out).mono ?_
        rintro e w2 ⟨s, rfl, hs, hb2⟩
        have s1 := hidden (S1.out.keep hb2)
        have HS := hidden hs
        have Kvf := hidden (Hvf.out.keep hb2)
        have Kvd := hidden (Hvd.out.keep hb2)
        clear hb2 hs x0 x1 x2 x3
        go_wp2_with fail
        go_meet
        exact ⟨_, rfl, rfl, s1, HS.out, Kvf.out, Kvd.out⟩
      case rest =>
      obtain ⟨vh, rfl, rfl, s1, hvh, hvf, hvd⟩ := hcut
      clear S1 Hvf Hvd
      have S1 := s1
      clear s1
      have Hvh := hidden hvh
      clear hvh
      have Hvf := hidden hvf
      clear hvf
      have Hvd := hidden hvd
      clear hvd
      go_upto_region 13 with fail
      go_cut [19, 20] (fun vx ve wx => ∃ s : Value, s = vx ∧ ve = .int .i64 e2 ∧ Hid (St w [(pz, mo), (pm, mo), (py, b), (px, a)] [pm] wx) ∧ Ls wx s n2 f2 ∧ Ls wx vh n2 f2 ∧ Ls wx vf n1 f1 ∧ Ls wx vd n1 f1)
      case first =>
        have x0 := (S1.out.live (pz, mo) (by simp)).c0
        have x1 := (S1.out.live (pz, mo) (by simp)).c1
        have x2 := (S1.out.live (pz, mo) (by simp)).c2
        have x3 := (S1.out.live (pz, mo) (by simp)).c3
        have TB := hidden (S1.out.tb HT.out)
        go_wp2_with fail
        refine (dgz.out _ TB.out).mono ?_
        rintro e w2 ⟨s, rfl, hs, hb2⟩
        have s1 := hidden (S1.out.keep hb2)
        have HS := hidden hs
        have Kvh := hidden (Hvh.out.keep hb2)
        have Kvf := hidden (Hvf.out.keep hb2)
        have Kvd := hidden (Hvd.out.keep hb2)
        clear hb2 hs x0 x1 x2 x3
        go_wp2_with fail
        go_meet
        exact ⟨_, rfl, rfl, s1, HS.out, Kvh.out, Kvf.out, Kvd.out⟩
      case rest =>
      obtain ⟨vk, rfl, rfl, s1, hvk, hvh, hvf, hvd⟩ := hcut
      clear S1 Hvh Hvf Hvd
      have S1 := s1
      clear s1
      have Hvk := hidden hvk
      clear hvk
      have Hvh := hidden hvh
      clear hvh
      have Hvf := hidden hvf
      clear hvf
      have Hvd := hidden hvd
      clear hvd
      have KSt : Hid (∀ w' : World, Anw w [(pz, mo), (pm, mo), (py, b), (px, a)] [pm] vd vf vh vk n1 n2 f1 f2 w' → (fun w' => Anw w [(pz, mo), (pm, mo), (py, b), (px, a)] [pm] vd vf vh vk n1 n2 f1 f2 w' ∧ w'.cell? ⟨pz, 0, none⟩ = some (.int .u64 mo.x0) ∧ w'.cell? ⟨pz, 1, none⟩ = some (.int .u64 mo.x1) ∧ w'.cell? ⟨pz, 2, none⟩ = some (.int .u64 mo.x2) ∧ w'.cell? ⟨pz, 3, none⟩ = some (.int .u64 mo.x3) ∧ w'.cell? ⟨py, 0, none⟩ = some (.int .u64 b.x0) ∧ w'.cell? ⟨py, 1, none⟩ = some (.int .u64 b.x1) ∧ w'.cell? ⟨py, 2, none⟩ = some (.int .u64 b.x2) ∧ w'.cell? ⟨py, 3, none⟩ = some (.int .u64 b.x3) ∧ w'.cell? ⟨px, 0, none⟩ = some (.int .u64 a.x0) ∧ w'.cell? ⟨px, 1, none⟩ = some (.int .u64 a.x1) ∧ w'.cell? ⟨px, 2, none⟩ = some (.int .u64 a.x2) ∧ w'.cell? ⟨px, 3, none⟩ = some (.int .u64 a.x3)) w') := hidden (fun w' h => ⟨h, (h.st.live (pz, mo) (by simp)).c0, (h.st.live (pz, mo) (by simp)).c1, (h.st.live (pz, mo) (by simp)).c2, (h.st.live (pz, mo) (by simp)).c3, (h.st.live (py, b) (by simp)).c0, (h.st.live (py, b) (by simp)).c1, (h.st.live (py, b) (by simp)).c2, (h.st.live (py, b) (by simp)).c3, (h.st.live (px, a) (by simp)).c0, (h.st.live (px, a) (by simp)).c1, (h.st.live (px, a) (by simp)).c2, (h.st.live (px, a) (by simp)).c3⟩)
      have KTb : Hid (∀ w' : World, Anw w [(pz, mo), (pm, mo), (py, b), (px, a)] [pm] vd vf vh vk n1 n2 f1 f2 w' → Tb w') := hidden (fun w' h => h.st.tb HT.out)
      have AW : Hid (Anw w [(pz, mo), (pm, mo), (py, b), (px, a)] [pm] vd vf vh vk n1 n2 f1 f2 _) := hidden ⟨S1.out, Hvd.out, Hvf.out, Hvh.out, Hvk.out⟩
      have in1 := hidden (fun w h1 h2 => ints_any vd vf n1 f1 w N1.out h1 h2)
      have in2 := hidden (fun w h1 h2 => ints_any vh vk n2 f2 w N2.out h1 h2)
      clear Hvd Hvf Hvh Hvk S1 nfx nfz dgx dgz
      go_upto_region 14 with fail
      go_cut [122] (fun vx wx => vx = .bool false ∧ Anw w [(pz, mo), (pm, mo), (py, b), (px, a)] [pm] vd vf vh vk n1 n2 f1 f2 wx)
      case first =>
        as_aux_lemma =>
          have K0 : Hid ((fun w' => Anw w [(pz, mo), (pm, mo), (py, b), (px, a)] [pm] vd vf vh vk n1 n2 f1 f2 w' ∧ w'.cell? ⟨pz, 0, none⟩ = some (.int .u64 mo.x0) ∧ w'.cell? ⟨pz, 1, none⟩ = some (.int .u64 mo.x1) ∧ w'.cell? ⟨pz, 2, none⟩ = some (.int .u64 mo.x2) ∧ w'.cell? ⟨pz, 3, none⟩ = some (.int .u64 mo.x3) ∧ w'.cell? ⟨py, 0, none⟩ = some (.int .u64 b.x0) ∧ w'.cell? ⟨py, 1, none⟩ = some (.int .u64 b.x1) ∧ w'.cell? ⟨py, 2, none⟩ = some (.int .u64 b.x2) ∧ w'.cell? ⟨py, 3, none⟩ = some (.int .u64 b.x3) ∧ w'.cell? ⟨px, 0, none⟩ = some (.int .u64 a.x0) ∧ w'.cell? ⟨px, 1, none⟩ = some (.int .u64 a.x1) ∧ w'.cell? ⟨px, 2, none⟩ = some (.int .u64 a.x2) ∧ w'.cell? ⟨px, 3, none⟩ = some (.int .u64 a.x3)) _) := hidden (KSt.out _ (AW.out).drew)
          go_region_held3 (fun w' => Anw w [(pz, mo), (pm, mo), (py, b), (px, a)] [pm] vd vf vh vk n1 n2 f1 f2 w' ∧ w'.cell? ⟨pz, 0, none⟩ = some (.int .u64 mo.x0) ∧ w'.cell? ⟨pz, 1, none⟩ = some (.int .u64 mo.x1) ∧ w'.cell? ⟨pz, 2, none⟩ = some (.int .u64 mo.x2) ∧ w'.cell? ⟨pz, 3, none⟩ = some (.int .u64 mo.x3) ∧ w'.cell? ⟨py, 0, none⟩ = some (.int .u64 b.x0) ∧ w'.cell? ⟨py, 1, none⟩ = some (.int .u64 b.x1) ∧ w'.cell? ⟨py, 2, none⟩ = some (.int .u64 b.x2) ∧ w'.cell? ⟨py, 3, none⟩ = some (.int .u64 b.x3) ∧ w'.cell? ⟨px, 0, none⟩ = some (.int .u64 a.x0) ∧ w'.cell? ⟨px, 1, none⟩ = some (.int .u64 a.x1) ∧ w'.cell? ⟨px, 2, none⟩ = some (.int .u64 a.x2) ∧ w'.cell? ⟨px, 3, none⟩ = some (.int .u64 a.x3)) (first | with_reducible exact K0.out | with_reducible exact hk.out)
            (first | (go_at_call 13; with_reducible refine (in1.out _ (show Anw w [(pz, mo), (pm, mo), (py, b), (px, a)] [pm] vd vf vh vk n1 n2 f1 f2 _ from And.left (by assumption)).ld (show Anw w [(pz, mo), (pm, mo), (py, b), (px, a)] [pm] vd vf vh vk n1 n2 f1 f2 _ from And.left (by assumption)).lf).mono ?_; rintro e wn ⟨rfl, hb⟩; have hk := hidden (KSt.out _ ((show Anw w [(pz, mo), (pm, mo), (py, b), (px, a)] [pm] vd vf vh vk n1 n2 f1 f2 _ from And.left (by assumption)).keep hb))) | (go_at_call 13; with_reducible refine (in2.out _ (show Anw w [(pz, mo), (pm, mo), (py, b), (px, a)] [pm] vd vf vh vk n1 n2 f1 f2 _ from And.left (by assumption)).lh (show Anw w [(pz, mo), (pm, mo), (py, b), (px, a)] [pm] vd vf vh vk n1 n2 f1 f2 _ from And.left (by assumption)).lk).mono ?_; rintro e wn ⟨rfl, hb⟩; have hk := hidden (KSt.out _ ((show Anw w [(pz, mo), (pm, mo), (py, b), (px, a)] [pm] vd vf vh vk n1 n2 f1 f2 _ from And.left (by assumption)).keep hb))) | (go_at_call 30; with_reducible refine (adx.out _ (KTb.out _ (And.left (by assumption)))).mono ?_; rintro e wn ⟨rfl, hb⟩; have hk := hidden (KSt.out _ ((show Anw w [(pz, mo), (pm, mo), (py, b), (px, a)] [pm] vd vf vh vk n1 n2 f1 f2 _ from And.left (by assumption)).keep hb))) | (go_at_call 30; with_reducible refine (adz.out _ (KTb.out _ (And.left (by assumption)))).mono ?_; rintro e wn ⟨rfl, hb⟩; have hk := hidden (KSt.out _ ((show Anw w [(pz, mo), (pm, mo), (py, b), (px, a)] [pm] vd vf vh vk n1 n2 f1 f2 _ from And.left (by assumption)).keep hb))) | (go_at_call 31; with_reducible refine (sbx.out _ (KTb.out _ (And.left (by assumption)))).mono ?_; rintro e wn ⟨rfl, hb⟩; have hk := hidden (KSt.out _ ((show Anw w [(pz, mo), (pm, mo), (py, b), (px, a)] [pm] vd vf vh vk n1 n2 f1 f2 _ from And.left (by assumption)).keep hb))) | (go_at_call 31; with_reducible refine (sbz.out _ (KTb.out _ (And.left (by assumption)))).mono ?_; rintro e wn ⟨rfl, hb⟩; have hk := hidden (KSt.out _ ((show Anw w [(pz, mo), (pm, mo), (py, b), (px, a)] [pm] vd vf vh vk n1 n2 f1 f2 _ from And.left (by assumption)).keep hb))) | (go_at_call 32; with_reducible refine (mlx.out _ (KTb.out _ (And.left (by assumption)))).mono ?_; rintro e wn ⟨rfl, hb⟩; have hk := hidden (KSt.out _ ((show Anw w [(pz, mo), (pm, mo), (py, b), (px, a)] [pm] vd vf vh vk n1 n2 f1 f2 _ from And.left (by assumption)).keep hb))) | (go_at_call 32; with_reducible refine (mlz.out _ (KTb.out _ (And.left (by assumption)))).mono ?_; rintro e wn ⟨rfl, hb⟩; have hk := hidden (KSt.out _ ((show Anw w [(pz, mo), (pm, mo), (py, b), (px, a)] [pm] vd vf vh vk n1 n2 f1 f2 _ from And.left (by assumption)).keep hb))) | (go_at_call 33; with_reducible refine (ivx.out _ (KTb.out _ (And.left (by assumption)))).mono ?_; rintro e wn ⟨rfl, hb⟩; have hk := hidden (KSt.out _ ((show Anw w [(pz, mo), (pm, mo), (py, b), (px, a)] [pm] vd vf vh vk n1 n2 f1 f2 _ from And.left (by assumption)).keep hb))) | (go_at_call 33; with_reducible refine (ivz.out _ (KTb.out _ (And.left (by assumption)))).mono ?_; rintro e wn ⟨rfl, hb⟩; have hk := hidden (KSt.out _ ((show Anw w [(pz, mo), (pm, mo), (py, b), (px, a)] [pm] vd vf vh vk n1 n2 f1 f2 _ from And.left (by assumption)).keep hb))) | (go_at_call 34; with_reducible refine (enx.out _ (KTb.out _ (And.left (by assumption)))).mono ?_; rintro e wn ⟨rfl, hb⟩; have hk := hidden (KSt.out _ ((show Anw w [(pz, mo), (pm, mo), (py, b), (px, a)] [pm] vd vf vh vk n1 n2 f1 f2 _ from And.left (by assumption)).keep hb))) | (go_at_call 34; with_reducible refine (enz.out _ (KTb.out _ (And.left (by assumption)))).mono ?_; rintro e wn ⟨rfl, hb⟩; have hk := hidden (KSt.out _ ((show Anw w [(pz, mo), (pm, mo), (py, b), (px, a)] [pm] vd vf vh vk n1 n2 f1 f2 _ from And.left (by assumption)).keep hb))))
          go_wp2_with fail
          go_meet
          exact ⟨rfl, hk.out.1⟩
      case rest =>
      obtain ⟨rfl, aw⟩ := hcut
      clear AW
      have AW := hidden aw
      clear aw in1 in2 adx adz sbx sbz mlx mlz ivx ivz enx enz eqE
      go_upto_region 16 with fail
      go_cut [162] (fun vx wx => vx = .bool false ∧ Anw w [(pz, mo), (pm, mo), (py, b), (px, a)] [pm] vd vf vh vk n1 n2 f1 f2 wx)
      case first =>
        as_aux_lemma =>
          have K0 : Hid ((fun w' => Anw w [(pz, mo), (pm, mo), (py, b), (px, a)] [pm] vd vf vh vk n1 n2 f1 f2 w' ∧ w'.cell? ⟨pz, 0, none⟩ = some (.int .u64 mo.x0) ∧ w'.cell? ⟨pz, 1, none⟩ = some (.int .u64 mo.x1) ∧ w'.cell? ⟨pz, 2, none⟩ = some (.int .u64 mo.x2) ∧ w'.cell? ⟨pz, 3, none⟩ = some (.int .u64 mo.x3) ∧ w'.cell? ⟨py, 0, none⟩ = some (.int .u64 b.x0) ∧ w'.cell? ⟨py, 1, none⟩ = some (.int .u64 b.x1) ∧ w'.cell? ⟨py, 2, none⟩ = some (.int .u64 b.x2) ∧ w'.cell? ⟨py, 3, none⟩ = some (.int .u64 b.x3) ∧ w'.cell? ⟨px, 0, none⟩ = some (.int .u64 a.x0) ∧ w'.cell? ⟨px, 1, none⟩ = some (.int .u64 a.x1) ∧ w'.cell? ⟨px, 2, none⟩ = some (.int .u64 a.x2) ∧ w'.cell? ⟨px, 3, none⟩ = some (.int .u64 a.x3)) _) := hidden (KSt.out _ (AW.out).drew)
          go_region_held3 (fun w' => Anw w [(pz, mo), (pm, mo), (py, b), (px, a)] [pm] vd vf vh vk n1 n2 f1 f2 w' ∧ w'.cell? ⟨pz, 0, none⟩ = some (.int .u64 mo.x0) ∧ w'.cell? ⟨pz, 1, none⟩ = some (.int .u64 mo.x1) ∧ w'.cell? ⟨pz, 2, none⟩ = some (.int .u64 mo.x2) ∧ w'.cell? ⟨pz, 3, none⟩ = some (.int .u64 mo.x3) ∧ w'.cell? ⟨py, 0, none⟩ = some (.int .u64 b.x0) ∧ w'.cell? ⟨py, 1, none⟩ = some (.int .u64 b.x1) ∧ w'.cell? ⟨py, 2, none⟩ = some (.int .u64 b.x2) ∧ w'.cell? ⟨py, 3, none⟩ = some (.int .u64 b.x3) ∧ w'.cell? ⟨px, 0, none⟩ = some (.int .u64 a.x0) ∧ w'.cell? ⟨px, 1, none⟩ = some (.int .u64 a.x1) ∧ w'.cell? ⟨px, 2, none⟩ = some (.int .u64 a.x2) ∧ w'.cell? ⟨px, 3, none⟩ = some (.int .u64 a.x3)) (first | with_reducible exact K0.out | with_reducible exact hk.out)
            (first | (go_at_call 15; with_reducible refine (smx.out _ (KTb.out _ (And.left (by assumption)))).mono ?_; rintro e wn ⟨rfl, hb⟩; have hk := hidden (KSt.out _ ((show Anw w [(pz, mo), (pm, mo), (py, b), (px, a)] [pm] vd vf vh vk n1 n2 f1 f2 _ from And.left (by assumption)).keep hb))) | (go_at_call 15; with_reducible refine (smz.out _ (KTb.out _ (And.left (by assumption)))).mono ?_; rintro e wn ⟨rfl, hb⟩; have hk := hidden (KSt.out _ ((show Anw w [(pz, mo), (pm, mo), (py, b), (px, a)] [pm] vd vf vh vk n1 n2 f1 f2 _ from And.left (by assumption)).keep hb))) | (go_at_call 17; with_reducible refine (izx.out _ (KTb.out _ (And.left (by assumption)))).mono ?_; rintro e wn ⟨rfl, hb⟩; have hk := hidden (KSt.out _ ((show Anw w [(pz, mo), (pm, mo), (py, b), (px, a)] [pm] vd vf vh vk n1 n2 f1 f2 _ from And.left (by assumption)).keep hb))) | (go_at_call 17; with_reducible refine (izz.out _ (KTb.out _ (And.left (by assumption)))).mono ?_; rintro e wn ⟨rfl, hb⟩; have hk := hidden (KSt.out _ ((show Anw w [(pz, mo), (pm, mo), (py, b), (px, a)] [pm] vd vf vh vk n1 n2 f1 f2 _ from And.left (by assumption)).keep hb))) | (go_at_call 35; with_reducible refine (lex.out _ (KTb.out _ (And.left (by assumption)))).mono ?_; rintro e wn ⟨rfl, hb⟩; have hk := hidden (KSt.out _ ((show Anw w [(pz, mo), (pm, mo), (py, b), (px, a)] [pm] vd vf vh vk n1 n2 f1 f2 _ from And.left (by assumption)).keep hb))) | (go_at_call 35; with_reducible refine (lez.out _ (KTb.out _ (And.left (by assumption)))).mono ?_; rintro e wn ⟨rfl, hb⟩; have hk := hidden (KSt.out _ ((show Anw w [(pz, mo), (pm, mo), (py, b), (px, a)] [pm] vd vf vh vk n1 n2 f1 f2 _ from And.left (by assumption)).keep hb))) | (go_at_call 10; with_reducible refine (ngx.out _ (KTb.out _ (And.left (by assumption)))).mono ?_; rintro e wn ⟨rfl, hb⟩; have hk := hidden (KSt.out _ ((show Anw w [(pz, mo), (pm, mo), (py, b), (px, a)] [pm] vd vf vh vk n1 n2 f1 f2 _ from And.left (by assumption)).keep hb))) | (go_at_call 10; with_reducible refine (ngz.out _ (KTb.out _ (And.left (by assumption)))).mono ?_; rintro e wn ⟨rfl, hb⟩; have hk := hidden (KSt.out _ ((show Anw w [(pz, mo), (pm, mo), (py, b), (px, a)] [pm] vd vf vh vk n1 n2 f1 f2 _ from And.left (by assumption)).keep hb))) | (go_at_call 19; with_reducible refine (btx.out _ (KTb.out _ (And.left (by assumption)))).mono ?_; rintro e wn ⟨rfl, hb⟩; have hk := hidden (KSt.out _ ((show Anw w [(pz, mo), (pm, mo), (py, b), (px, a)] [pm] vd vf vh vk n1 n2 f1 f2 _ from And.left (by assumption)).keep hb))) | (go_at_call 19; with_reducible refine (btz.out _ (KTb.out _ (And.left (by assumption)))).mono ?_; rintro e wn ⟨rfl, hb⟩; have hk := hidden (KSt.out _ ((show Anw w [(pz, mo), (pm, mo), (py, b), (px, a)] [pm] vd vf vh vk n1 n2 f1 f2 _ from And.left (by assumption)).keep hb))))
          go_wp2_with fail
          go_meet
          exact ⟨rfl, hk.out.1⟩
      case rest =>
      obtain ⟨rfl, aw⟩ := hcut
      clear AW
      have AW := hidden aw
      clear aw KSt KTb smx smz izx izz lez ngx ngz btx btz
      have S1 := hidden AW.out.st
      go_upto_region 18 with fail
      have x0 := (S1.out.live (pm, mo) (by simp)).c0
      have x1 := (S1.out.live (pm, mo) (by simp)).c1
      have x2 := (S1.out.live (pm, mo) (by simp)).c2
      have x3 := (S1.out.live (pm, mo) (by simp)).c3
      go_wp2_with fail
      refine (ca.out _).mono ?_
      rintro e w2 ⟨rfl, hb2⟩
      have s2 := S1.out.keep hb2
      have z0 := (s2.live (pm, mo) (by simp)).c0
      have z1 := (s2.live (pm, mo) (by simp)).c1
      have z2 := (s2.live (pm, mo) (by simp)).c2
      have z3 := (s2.live (pm, mo) (by simp)).c3
      obtain ⟨f0, f1, f2, f3⟩ := (s2.wrt pm (by simp)).1
      have S3 := hidden ((s2.set (b := pm) (M := [(py, b), (px, a)]) (limE (mo.n + Sm.L)) (old := mo) (by simp) (by omega) (by simp; omega)))
      clear s2 hb2 x0 x1 x2 x3 AW
      go_wp2_with fail
      go_roundw
      case rel => exact ⟨_, k + 1, _, by omega, rfl, by go_num, hidden (fun h => NXT.out (of_decide_eq_true h)), S3⟩
      case measure => simp [intOf]; omega
    · have S2 := hidden (S1.out.less (M := [(px, a)]) (Q := []) (by simp) (by simp))
      clear S1 hmo
      have TB := hidden (S2.out.tb HT.out)
      have qX := fun w => (eq4 X X w).trans (by rw [E4.same_self] : _ = Result.ok true w)
      simp only [E4.v] at qX
      have KSt : Hid (∀ w' : World, St w [(px, a)] [] w' → (fun w' => St w [(px, a)] [] w' ∧ w'.cell? ⟨px, 0, none⟩ = some (.int .u64 a.x0) ∧ w'.cell? ⟨px, 1, none⟩ = some (.int .u64 a.x1) ∧ w'.cell? ⟨px, 2, none⟩ = some (.int .u64 a.x2) ∧ w'.cell? ⟨px, 3, none⟩ = some (.int .u64 a.x3)) w') := hidden (fun w' h => ⟨h, (h.live (px, a) (by simp)).c0, (h.live (px, a) (by simp)).c1, (h.live (px, a) (by simp)).c2, (h.live (px, a) (by simp)).c3⟩)
      have KTb : Hid (∀ w' : World, St w [(px, a)] [] w' → Tb w') := hidden (fun w' h => h.tb HT.out)
      have K0 : Hid ((fun w' => St w [(px, a)] [] w' ∧ w'.cell? ⟨px, 0, none⟩ = some (.int .u64 a.x0) ∧ w'.cell? ⟨px, 1, none⟩ = some (.int .u64 a.x1) ∧ w'.cell? ⟨px, 2, none⟩ = some (.int .u64 a.x2) ∧ w'.cell? ⟨px, 3, none⟩ = some (.int .u64 a.x3)) _) := hidden (KSt.out _ S2.out.drew)
      by_cases hok : ok = true
      · subst hok
        have kk1 : ¬ (k : Int) < 16 := by intro h; exact hgo ⟨rfl, by omega⟩
        clear hgo
        go_upto_region 19 with fail
        go_region_held3 (fun w' => St w [(px, a)] [] w' ∧ w'.cell? ⟨px, 0, none⟩ = some (.int .u64 a.x0) ∧ w'.cell? ⟨px, 1, none⟩ = some (.int .u64 a.x1) ∧ w'.cell? ⟨px, 2, none⟩ = some (.int .u64 a.x2) ∧ w'.cell? ⟨px, 3, none⟩ = some (.int .u64 a.x3)) (first | with_reducible exact K0.out | with_reducible exact hk.out)
          (first | (go_at_call 35; with_reducible refine (lex.out _ (KTb.out _ (And.left (by assumption)))).mono ?_; rintro e wn ⟨rfl, hb⟩; have hk := hidden (KSt.out _ ((show St w [(px, a)] [] _ from And.left (by assumption)).keep hb))) | (go_at_call 35; with_reducible refine (leX.out _ (KTb.out _ (And.left (by assumption)))).mono ?_; rintro e wn ⟨rfl, hb⟩; have hk := hidden (KSt.out _ ((show St w [(px, a)] [] _ from And.left (by assumption)).keep hb))) | (go_at_call 36; with_reducible refine (pr.out _).mono ?_; rintro e wn ⟨rfl, hb⟩; have hk := hidden (KSt.out _ ((show St w [(px, a)] [] _ from And.left (by assumption)).keep hb))) | (go_at_call 17; with_reducible refine (izl.out _ (KTb.out _ (And.left (by assumption)))).mono ?_; rintro e wn ⟨rfl, hb⟩; have hk := hidden (KSt.out _ ((show St w [(px, a)] [] _ from And.left (by assumption)).keep hb))))
        go_wp2_with fail
        go_ret
        exact ⟨rfl, hk.out.1.bel⟩
      · have hf : ok = false := by cases ok <;> simp_all
        subst hf
        clear hgo hok
        go_upto_region 19 with fail
        go_region_held3 (fun w' => St w [(px, a)] [] w' ∧ w'.cell? ⟨px, 0, none⟩ = some (.int .u64 a.x0) ∧ w'.cell? ⟨px, 1, none⟩ = some (.int .u64 a.x1) ∧ w'.cell? ⟨px, 2, none⟩ = some (.int .u64 a.x2) ∧ w'.cell? ⟨px, 3, none⟩ = some (.int .u64 a.x3)) (first | with_reducible exact K0.out | with_reducible exact hk.out)
          (first | (go_at_call 35; with_reducible refine (lex.out _ (KTb.out _ (And.left (by assumption)))).mono ?_; rintro e wn ⟨rfl, hb⟩; have hk := hidden (KSt.out _ ((show St w [(px, a)] [] _ from And.left (by assumption)).keep hb))) | (go_at_call 35; with_reducible refine (leX.out _ (KTb.out _ (And.left (by assumption)))).mono ?_; rintro e wn ⟨rfl, hb⟩; have hk := hidden (KSt.out _ ((show St w [(px, a)] [] _ from And.left (by assumption)).keep hb))) | (go_at_call 36; with_reducible refine (pr.out _).mono ?_; rintro e wn ⟨rfl, hb⟩; have hk := hidden (KSt.out _ ((show St w [(px, a)] [] _ from And.left (by assumption)).keep hb))) | (go_at_call 17; with_reducible refine (izl.out _ (KTb.out _ (And.left (by assumption)))).mono ?_; rintro e wn ⟨rfl, hb⟩; have hk := hidden (KSt.out _ ((show St w [(px, a)] [] _ from And.left (by assumption)).keep hb))))
        go_wp2_with fail
        go_ret
        exact ⟨rfl, hk.out.1.bel⟩
end Go.Proofs.YtglalahmcckjaabDoor
