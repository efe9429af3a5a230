import Derived.Test.YtbmbopapmajaaaaDoorSrf
import Derived.Test.YtbmbopapmajaaaaDoorSrd2
namespace Go.Proofs.YtbmbopapmajaaaaDoor
open Go.RowKit

theorem limE_of {o : E4} {n c : Int} (h : o.ok) (e : o.n + 115792089237316195423570985008687907853269984665640564039457584007913129639936 * c = n) : o = limE n := by
  obtain ⟨h0, h1, h2, h3⟩ := h
  obtain ⟨e0, e1, e2, e3⟩ := Sm.lim_of n o.x0 o.x1 o.x2 o.x3 c h0 h1 h2 h3 e
  obtain ⟨x0, x1, x2, x3⟩ := o
  simp only at e0 e1 e2 e3
  unfold limE
  rw [← e0, ← e1, ← e2, ← e3]
theorem B_pow4 : (18446744073709551616 : Int) ^ 4 = 115792089237316195423570985008687907853269984665640564039457584007913129639936 := by decide
theorem ok_bd {o : E4} (h : o.ok) : 0 ≤ o.n ∧ o.n < 115792089237316195423570985008687907853269984665640564039457584007913129639936 := Sm.V_bd _ _ _ _ h.1 h.2.1 h.2.2.1 h.2.2.2

theorem minus_next (a b o : E4) (k : Nat) (hk : k < 4) (C d t : Int) (hi : o.low k - 18446744073709551616 ^ k * C = a.low k - b.low k) (hs : t - 18446744073709551616 * d = a.get k - b.get k - C) : (o.put k t).low (k + 1) - 18446744073709551616 ^ (k + 1) * d = a.low (k + 1) - b.low (k + 1) := by
  simp only [E4.low]
  rw [E4.put_low o k t hk, E4.put_get, Int.pow_succ]
  generalize (18446744073709551616 : Int) ^ k = p at *
  generalize a.get k = x at *
  generalize b.get k = y at *
  have ht : t = x - y - C + 18446744073709551616 * d := by omega
  rw [ht]
  grind
theorem minus_done (a b o : E4) (C : Int) (ho : o.ok) (hi : o.low 4 - 18446744073709551616 ^ 4 * C = a.low 4 - b.low 4) : o = limE (a.n - b.n) ∧ C = -((a.n - b.n) / 115792089237316195423570985008687907853269984665640564039457584007913129639936) := by
  rw [E4.low4, E4.low4, E4.low4, B_pow4] at hi
  have hb := ok_bd ho
  refine ⟨limE_of ho (c := -C) (by omega), by omega⟩

set_option maxRecDepth 100000 in
set_option maxHeartbeats 8000000 in
theorem rminus_any (a b : E4) (w : World) (ha : a.ok) (hb : b.ok) :
    Calls Tryd.prog 46 #[a.v, b.v] w fun e w' => e = .returned (.tuple #[(limE (a.n - b.n)).v, .int .u64 (-((a.n - b.n) / 115792089237316195423570985008687907853269984665640564039457584007913129639936))]) ∧ Below w.heap.size w w' := by
  have HA := hidden ha
  have HB := hidden hb
  have s0 := (((St.start w a 41).new b 41).room 41).room 41
  simp only [World.size_alloc] at s0
  have S0 := hidden s0
  clear s0 ha hb
  have DONE := hidden (fun o C ho hi => minus_done a b o C ho hi)
  have NEXT := hidden (fun o k hk C d t hi hs => minus_next a b o k hk C d t hi hs)
  simp only [E4.v]
  go_enter Tryd.func46, Tryd.ntmps46
  go_wp2_with fail
  go_loopw [7, 8] (fun c i w' => ∃ (k : Nat) (o : E4) (C : Int), k ≤ 4 ∧ c = .int .u64 C ∧ i = .int .i64 k ∧ (C = 0 ∨ C = 1) ∧ o.ok ∧ o.low k - 18446744073709551616 ^ k * C = a.low k - b.low k ∧ St w [(w.heap.size + 1 + 1 + 1, o), (w.heap.size + 1 + 1, zero4), (w.heap.size + 1, b), (w.heap.size, a)] [w.heap.size + 1 + 1 + 1, w.heap.size + 1 + 1] w') (fun _ i _ => 4 - (intOf i).toNat)
  case atStart => exact ⟨0, zero4, 0, by omega, rfl, rfl, Or.inl rfl, ⟨by unfold Sm.Wd zero4; simp, by unfold Sm.Wd zero4; simp, by unfold Sm.Wd zero4; simp, by unfold Sm.Wd zero4; simp⟩, by simp [E4.low], S0.out⟩
  case round =>
    obtain ⟨k, o, C, hk, rfl, rfl, hC, hok, hinv, hst⟩ := hrel
    clear S0
    by_cases hk4 : k < 4
    · have kk0 : (0 : Int) ≤ (k : Int) := by omega
      have kk1 : (k : Int) < 4 := by omega
      have xa := E4.get_wd HA.out k
      have xb := E4.get_wd HB.out k
      unfold Sm.Wd at xa xb
      have NX := hidden (fun d t hs => NEXT.out o k hk4 C d t hinv hs)
      have HOK := hidden hok
      have ca := (hst.live (w.heap.size, a) (by simp)).get k hk4
      have cb := (hst.live (w.heap.size + 1, b) (by simp)).get k hk4
      have KS : Hid (∀ w', St w [(w.heap.size + 1 + 1 + 1, o), (w.heap.size + 1 + 1, zero4), (w.heap.size + 1, b), (w.heap.size, a)] [w.heap.size + 1 + 1 + 1, w.heap.size + 1 + 1] w' → (fun w' => St w [(w.heap.size + 1 + 1 + 1, o), (w.heap.size + 1 + 1, zero4), (w.heap.size + 1, b), (w.heap.size, a)] [w.heap.size + 1 + 1 + 1, w.heap.size + 1 + 1] w' ∧ w'.cell? ⟨w.heap.size, k, none⟩ = some (.int .u64 (a.get k)) ∧ w'.cell? ⟨w.heap.size + 1, k, none⟩ = some (.int .u64 (b.get k))) w') := hidden (fun w' h => ⟨h, (h.live (w.heap.size, a) (by simp)).get k hk4, (h.live (w.heap.size + 1, b) (by simp)).get k hk4⟩)
      have K0 := hidden (KS.out _ hst.drew)
      have K1 := hidden (KS.out _ hst.drew.drew)
      have SD := hidden hst.drew.drew
      clear hst ca cb KS hinv hok
      generalize a.get k = x at *
      generalize b.get k = y at *
      obtain ⟨s, hs⟩ : ∃ s, s = (x - y) % 18446744073709551616 := ⟨_, rfl⟩
      have hws : IntKind.u64.wrap (x - y) = s := by rw [IntKind.wrap_u64, hs]
      obtain ⟨t, ht⟩ : ∃ t, t = (s - C) % 18446744073709551616 := ⟨_, rfl⟩
      have hwt : IntKind.u64.wrap (s - C) = t := by rw [IntKind.wrap_u64, ht]
      have hsb : 0 ≤ s ∧ s ≤ 18446744073709551615 := by omega
      have htb : 0 ≤ t ∧ t ≤ 18446744073709551615 := by omega
      by_cases hc1 : x < y
      · have hc2 : ¬ s < C := by omega
        have ht2 : t = s - C := by omega
        subst ht2
        have HS := hidden hs
        have HT2 := hidden ht
        have R1 := hidden (NX.out 1 (s - C) (by omega))
        clear hs ht HS HT2
        go_upto_region 6 with fail
        go_region_held3 (fun w' => St w [(w.heap.size + 1 + 1 + 1, o), (w.heap.size + 1 + 1, zero4), (w.heap.size + 1, b), (w.heap.size, a)] [w.heap.size + 1 + 1 + 1, w.heap.size + 1 + 1] w' ∧ w'.cell? ⟨w.heap.size, k, none⟩ = some (.int .u64 x) ∧ w'.cell? ⟨w.heap.size + 1, k, none⟩ = some (.int .u64 y)) (with_reducible exact K0.out) (fail)
        go_upto_region 8 with fail
        go_region_held3 (fun w' => St w [(w.heap.size + 1 + 1 + 1, o), (w.heap.size + 1 + 1, zero4), (w.heap.size + 1, b), (w.heap.size, a)] [w.heap.size + 1 + 1 + 1, w.heap.size + 1 + 1] w' ∧ w'.cell? ⟨w.heap.size, k, none⟩ = some (.int .u64 x) ∧ w'.cell? ⟨w.heap.size + 1, k, none⟩ = some (.int .u64 y)) (with_reducible exact K1.out) (fail)
        generalize wr.drew.drew = wd at *
        have oc : wd.cell? ⟨w.heap.size + 1 + 1 + 1, k, none⟩ = some (.int .u64 (o.get k)) := (SD.out.live (w.heap.size + 1 + 1 + 1, o) (by simp)).get k hk4
        have of := (SD.out.wrt (w.heap.size + 1 + 1 + 1) (by simp)).1.get k hk4
        generalize o.get k = z at *
        have P1 := hidden (SD.out.put (b := w.heap.size + 1 + 1 + 1) (o := o) (M := [(w.heap.size + 1 + 1, zero4), (w.heap.size + 1, b), (w.heap.size, a)]) k hk4 (s - C) (by simp) (by omega) (by simp; omega))
        have OK1 := hidden (E4.put_ok (o := o) HOK.out k (v := (s - C)) ⟨htb.1, by omega⟩)
        clear K0 K1 SD NX HOK
        go_wp2_with fail
        go_roundw
        case rel => exact ⟨k + 1, o.put k (s - C), 1, by omega, rfl, by go_num, Or.inr rfl, OK1.out, R1.out, P1.out⟩
        case measure => simp [intOf]; omega
      · by_cases hc2 : s < C
        · have hs2 : s = x - y := by omega
          subst hs2
          have HS := hidden hs
          have HT2 := hidden ht
          have R1 := hidden (NX.out 1 t (by omega))
          clear hs ht HS HT2
          go_upto_region 6 with fail
          go_region_held3 (fun w' => St w [(w.heap.size + 1 + 1 + 1, o), (w.heap.size + 1 + 1, zero4), (w.heap.size + 1, b), (w.heap.size, a)] [w.heap.size + 1 + 1 + 1, w.heap.size + 1 + 1] w' ∧ w'.cell? ⟨w.heap.size, k, none⟩ = some (.int .u64 x) ∧ w'.cell? ⟨w.heap.size + 1, k, none⟩ = some (.int .u64 y)) (with_reducible exact K0.out) (fail)
          go_upto_region 8 with fail
          go_region_held3 (fun w' => St w [(w.heap.size + 1 + 1 + 1, o), (w.heap.size + 1 + 1, zero4), (w.heap.size + 1, b), (w.heap.size, a)] [w.heap.size + 1 + 1 + 1, w.heap.size + 1 + 1] w' ∧ w'.cell? ⟨w.heap.size, k, none⟩ = some (.int .u64 x) ∧ w'.cell? ⟨w.heap.size + 1, k, none⟩ = some (.int .u64 y)) (with_reducible exact K1.out) (fail)
          generalize wr.drew.drew = wd at *
          have oc : wd.cell? ⟨w.heap.size + 1 + 1 + 1, k, none⟩ = some (.int .u64 (o.get k)) := (SD.out.live (w.heap.size + 1 + 1 + 1, o) (by simp)).get k hk4
          have of := (SD.out.wrt (w.heap.size + 1 + 1 + 1) (by simp)).1.get k hk4
          generalize o.get k = z at *
          have P1 := hidden (SD.out.put (b := w.heap.size + 1 + 1 + 1) (o := o) (M := [(w.heap.size + 1 + 1, zero4), (w.heap.size + 1, b), (w.heap.size, a)]) k hk4 t (by simp) (by omega) (by simp; omega))
          have OK1 := hidden (E4.put_ok (o := o) HOK.out k (v := t) ⟨htb.1, by omega⟩)
          clear K0 K1 SD NX HOK
          go_wp2_with fail
          go_roundw
          case rel => exact ⟨k + 1, o.put k t, 1, by omega, rfl, by go_num, Or.inr rfl, OK1.out, R1.out, P1.out⟩
          case measure => simp [intOf]; omega
        · have hs2 : s = x - y := by omega
          have ht2 : t = s - C := by omega
          subst ht2
          subst hs2
          have HS := hidden hs
          have HT2 := hidden ht
          have R1 := hidden (NX.out 0 (x - y - C) (by omega))
          clear hs ht HS HT2
          go_upto_region 6 with fail
          go_region_held3 (fun w' => St w [(w.heap.size + 1 + 1 + 1, o), (w.heap.size + 1 + 1, zero4), (w.heap.size + 1, b), (w.heap.size, a)] [w.heap.size + 1 + 1 + 1, w.heap.size + 1 + 1] w' ∧ w'.cell? ⟨w.heap.size, k, none⟩ = some (.int .u64 x) ∧ w'.cell? ⟨w.heap.size + 1, k, none⟩ = some (.int .u64 y)) (with_reducible exact K0.out) (fail)
          go_upto_region 8 with fail
          go_region_held3 (fun w' => St w [(w.heap.size + 1 + 1 + 1, o), (w.heap.size + 1 + 1, zero4), (w.heap.size + 1, b), (w.heap.size, a)] [w.heap.size + 1 + 1 + 1, w.heap.size + 1 + 1] w' ∧ w'.cell? ⟨w.heap.size, k, none⟩ = some (.int .u64 x) ∧ w'.cell? ⟨w.heap.size + 1, k, none⟩ = some (.int .u64 y)) (with_reducible exact K1.out) (fail)
          generalize wr.drew.drew = wd at *
          have oc : wd.cell? ⟨w.heap.size + 1 + 1 + 1, k, none⟩ = some (.int .u64 (o.get k)) := (SD.out.live (w.heap.size + 1 + 1 + 1, o) (by simp)).get k hk4
          have of := (SD.out.wrt (w.heap.size + 1 + 1 + 1) (by simp)).1.get k hk4
          generalize o.get k = z at *
          have P1 := hidden (SD.out.put (b := w.heap.size + 1 + 1 + 1) (o := o) (M := [(w.heap.size + 1 + 1, zero4), (w.heap.size + 1, b), (w.heap.size, a)]) k hk4 (x - y - C) (by simp) (by omega) (by simp; omega))
          have OK1 := hidden (E4.put_ok (o := o) HOK.out k (v := (x - y - C)) ⟨htb.1, by omega⟩)
          clear K0 K1 SD NX HOK
          go_wp2_with fail
          go_roundw
          case rel => exact ⟨k + 1, o.put k (x - y - C), 0, by omega, rfl, by go_num, Or.inl rfl, OK1.out, R1.out, P1.out⟩
          case measure => simp [intOf]; omega
    · have hkk : k = 4 := by omega
      subst hkk
      obtain ⟨rfl, rfl⟩ := DONE.out o C hok hinv
      have o0 := (hst.live (w.heap.size + 1 + 1 + 1, limE (a.n - b.n)) (by simp)).c0
      have o1 := (hst.live (w.heap.size + 1 + 1 + 1, limE (a.n - b.n)) (by simp)).c1
      have o2 := (hst.live (w.heap.size + 1 + 1 + 1, limE (a.n - b.n)) (by simp)).c2
      have o3 := (hst.live (w.heap.size + 1 + 1 + 1, limE (a.n - b.n)) (by simp)).c3
      have d0 := (hst.live (w.heap.size + 1 + 1, zero4) (by simp)).c0
      have d1 := (hst.live (w.heap.size + 1 + 1, zero4) (by simp)).c1
      have d2 := (hst.live (w.heap.size + 1 + 1, zero4) (by simp)).c2
      have d3 := (hst.live (w.heap.size + 1 + 1, zero4) (by simp)).c3
      obtain ⟨g0, g1, g2, g3⟩ := (hst.wrt (w.heap.size + 1 + 1) (by simp)).1
      have BH := hidden hst.bel
      clear hst hinv hok hC DONE NEXT
      generalize hlE : limE (a.n - b.n) = r at *
      generalize hrE : -((a.n - b.n) / 115792089237316195423570985008687907853269984665640564039457584007913129639936) = q at *
      have HLE := hidden hlE
      have HRE := hidden hrE
      clear hlE hrE
      go_wp2_with fail
      refine bodyPost_ret (v := .tuple #[.agg #[.int .u64 r.x0, .int .u64 r.x1, .int .u64 r.x2, .int .u64 r.x3], .int .u64 q]) (by simp [results, Tryd.results46, go_sem, d0, d1, d2, d3]) rfl ⟨by rw [← HLE.out, ← HRE.out], ?_⟩
      exact bl_set4 _ _ _ _ BH.out (by omega)
theorem plus_next (a b o : E4) (k : Nat) (hk : k < 4) (C d t : Int) (hi : o.low k + 18446744073709551616 ^ k * C = a.low k + b.low k) (hs : t + 18446744073709551616 * d = a.get k + b.get k + C) : (o.put k t).low (k + 1) + 18446744073709551616 ^ (k + 1) * d = a.low (k + 1) + b.low (k + 1) := by
  simp only [E4.low]
  rw [E4.put_low o k t hk, E4.put_get, Int.pow_succ]
  generalize (18446744073709551616 : Int) ^ k = p at *
  generalize a.get k = x at *
  generalize b.get k = y at *
  have ht : t = x + y + C - 18446744073709551616 * d := by omega
  rw [ht]
  grind
theorem plus_done (a b o : E4) (C : Int) (ho : o.ok) (hi : o.low 4 + 18446744073709551616 ^ 4 * C = a.low 4 + b.low 4) : o = limE (a.n + b.n) ∧ C = (a.n + b.n) / 115792089237316195423570985008687907853269984665640564039457584007913129639936 := by
  rw [E4.low4, E4.low4, E4.low4, B_pow4] at hi
  have hb := ok_bd ho
  refine ⟨limE_of ho (c := C) (by omega), by omega⟩

set_option maxRecDepth 100000 in
set_option maxHeartbeats 8000000 in
theorem rplus_any (a b : E4) (w : World) (ha : a.ok) (hb : b.ok) :
    Calls Tryd.prog 59 #[a.v, b.v] w fun e w' => e = .returned (.tuple #[(limE (a.n + b.n)).v, .int .u64 ((a.n + b.n) / 115792089237316195423570985008687907853269984665640564039457584007913129639936)]) ∧ Below w.heap.size w w' := by
  have HA := hidden ha
  have HB := hidden hb
  have s0 := (((St.start w a 41).new b 41).room 41).room 41
  simp only [World.size_alloc] at s0
  have S0 := hidden s0
  clear s0 ha hb
  have DONE := hidden (fun o C ho hi => plus_done a b o C ho hi)
  have NEXT := hidden (fun o k hk C d t hi hs => plus_next a b o k hk C d t hi hs)
  simp only [E4.v]
  go_enter Tryd.func59, Tryd.ntmps59
  go_wp2_with fail
  go_loopw [7, 8] (fun c i w' => ∃ (k : Nat) (o : E4) (C : Int), k ≤ 4 ∧ c = .int .u64 C ∧ i = .int .i64 k ∧ (C = 0 ∨ C = 1) ∧ o.ok ∧ o.low k + 18446744073709551616 ^ k * C = a.low k + b.low k ∧ St w [(w.heap.size + 1 + 1 + 1, o), (w.heap.size + 1 + 1, zero4), (w.heap.size + 1, b), (w.heap.size, a)] [w.heap.size + 1 + 1 + 1, w.heap.size + 1 + 1] w') (fun _ i _ => 4 - (intOf i).toNat)
  case atStart => exact ⟨0, zero4, 0, by omega, rfl, rfl, Or.inl rfl, ⟨by unfold Sm.Wd zero4; simp, by unfold Sm.Wd zero4; simp, by unfold Sm.Wd zero4; simp, by unfold Sm.Wd zero4; simp⟩, by simp [E4.low], S0.out⟩
  case round =>
    obtain ⟨k, o, C, hk, rfl, rfl, hC, hok, hinv, hst⟩ := hrel
    clear S0
    by_cases hk4 : k < 4
    · have kk0 : (0 : Int) ≤ (k : Int) := by omega
      have kk1 : (k : Int) < 4 := by omega
      have xa := E4.get_wd HA.out k
      have xb := E4.get_wd HB.out k
      unfold Sm.Wd at xa xb
      have NX := hidden (fun d t hs => NEXT.out o k hk4 C d t hinv hs)
      have HOK := hidden hok
      have ca := (hst.live (w.heap.size, a) (by simp)).get k hk4
      have cb := (hst.live (w.heap.size + 1, b) (by simp)).get k hk4
      have KS : Hid (∀ w', St w [(w.heap.size + 1 + 1 + 1, o), (w.heap.size + 1 + 1, zero4), (w.heap.size + 1, b), (w.heap.size, a)] [w.heap.size + 1 + 1 + 1, w.heap.size + 1 + 1] w' → (fun w' => St w [(w.heap.size + 1 + 1 + 1, o), (w.heap.size + 1 + 1, zero4), (w.heap.size + 1, b), (w.heap.size, a)] [w.heap.size + 1 + 1 + 1, w.heap.size + 1 + 1] w' ∧ w'.cell? ⟨w.heap.size, k, none⟩ = some (.int .u64 (a.get k)) ∧ w'.cell? ⟨w.heap.size + 1, k, none⟩ = some (.int .u64 (b.get k))) w') := hidden (fun w' h => ⟨h, (h.live (w.heap.size, a) (by simp)).get k hk4, (h.live (w.heap.size + 1, b) (by simp)).get k hk4⟩)
      have K0 := hidden (KS.out _ hst.drew)
      have SD := hidden hst.drew
      have KX : Hid (∀ w', St w [(w.heap.size + 1 + 1 + 1, o), (w.heap.size + 1 + 1, zero4), (w.heap.size + 1, b), (w.heap.size, a)] [w.heap.size + 1 + 1 + 1, w.heap.size + 1 + 1] w' → w'.cell? ⟨w.heap.size, k, none⟩ = some (.int .u64 (a.get k)) ∧ True) := hidden (fun w' h => ⟨(h.live (w.heap.size, a) (by simp)).get k hk4, trivial⟩)
      clear hst ca cb KS hinv hok
      generalize a.get k = x at *
      generalize b.get k = y at *
      obtain ⟨s, hs⟩ : ∃ s, s = (x + y) % 18446744073709551616 := ⟨_, rfl⟩
      have hws : IntKind.u64.wrap (x + y) = s := by rw [IntKind.wrap_u64, hs]
      obtain ⟨t, ht⟩ : ∃ t, t = (s + C) % 18446744073709551616 := ⟨_, rfl⟩
      have hwt : IntKind.u64.wrap (s + C) = t := by rw [IntKind.wrap_u64, ht]
      have hsb : 0 ≤ s ∧ s ≤ 18446744073709551615 := by omega
      have htb : 0 ≤ t ∧ t ≤ 18446744073709551615 := by omega
      by_cases hc1 : s < x
      · have hc2 : ¬ t < s := by omega
        have ht2 : t = s + C := by omega
        subst ht2
        have HS := hidden hs
        have HT2 := hidden ht
        have R1 := hidden (NX.out 1 (s + C) (by omega))
        clear hs ht HS HT2
        go_upto_region 6 with fail
        go_region_held3 (fun w' => St w [(w.heap.size + 1 + 1 + 1, o), (w.heap.size + 1 + 1, zero4), (w.heap.size + 1, b), (w.heap.size, a)] [w.heap.size + 1 + 1 + 1, w.heap.size + 1 + 1] w' ∧ w'.cell? ⟨w.heap.size, k, none⟩ = some (.int .u64 x) ∧ w'.cell? ⟨w.heap.size + 1, k, none⟩ = some (.int .u64 y)) (with_reducible exact K0.out) (fail)
        generalize wr.drew = wd at *
        have oc : wd.cell? ⟨w.heap.size + 1 + 1 + 1, k, none⟩ = some (.int .u64 (o.get k)) := (SD.out.live (w.heap.size + 1 + 1 + 1, o) (by simp)).get k hk4
        have of := (SD.out.wrt (w.heap.size + 1 + 1 + 1) (by simp)).1.get k hk4
        have ac : wd.cell? ⟨w.heap.size, k, none⟩ = some (.int .u64 x) := (KX.out wd SD.out).1
        generalize o.get k = z at *
        have P1 := hidden (SD.out.put (b := w.heap.size + 1 + 1 + 1) (o := o) (M := [(w.heap.size + 1 + 1, zero4), (w.heap.size + 1, b), (w.heap.size, a)]) k hk4 (s + C) (by simp) (by omega) (by simp; omega))
        have OK1 := hidden (E4.put_ok (o := o) HOK.out k (v := (s + C)) ⟨htb.1, by omega⟩)
        clear K0 KX SD NX HOK
        go_wp2_with fail
        go_roundw
        case rel => exact ⟨k + 1, o.put k (s + C), 1, by omega, rfl, by go_num, Or.inr rfl, OK1.out, R1.out, P1.out⟩
        case measure => simp [intOf]; omega
      · by_cases hc2 : t < s
        · have hs2 : s = x + y := by omega
          subst hs2
          have HS := hidden hs
          have HT2 := hidden ht
          have R1 := hidden (NX.out 1 t (by omega))
          clear hs ht HS HT2
          go_upto_region 6 with fail
          go_region_held3 (fun w' => St w [(w.heap.size + 1 + 1 + 1, o), (w.heap.size + 1 + 1, zero4), (w.heap.size + 1, b), (w.heap.size, a)] [w.heap.size + 1 + 1 + 1, w.heap.size + 1 + 1] w' ∧ w'.cell? ⟨w.heap.size, k, none⟩ = some (.int .u64 x) ∧ w'.cell? ⟨w.heap.size + 1, k, none⟩ = some (.int .u64 y)) (with_reducible exact K0.out) (fail)
          generalize wr.drew = wd at *
          have oc : wd.cell? ⟨w.heap.size + 1 + 1 + 1, k, none⟩ = some (.int .u64 (o.get k)) := (SD.out.live (w.heap.size + 1 + 1 + 1, o) (by simp)).get k hk4
          have of := (SD.out.wrt (w.heap.size + 1 + 1 + 1) (by simp)).1.get k hk4
          have ac : wd.cell? ⟨w.heap.size, k, none⟩ = some (.int .u64 x) := (KX.out wd SD.out).1
          generalize o.get k = z at *
          have P1 := hidden (SD.out.put (b := w.heap.size + 1 + 1 + 1) (o := o) (M := [(w.heap.size + 1 + 1, zero4), (w.heap.size + 1, b), (w.heap.size, a)]) k hk4 t (by simp) (by omega) (by simp; omega))
          have OK1 := hidden (E4.put_ok (o := o) HOK.out k (v := t) ⟨htb.1, by omega⟩)
          clear K0 KX SD NX HOK
          go_wp2_with fail
          go_roundw
          case rel => exact ⟨k + 1, o.put k t, 1, by omega, rfl, by go_num, Or.inr rfl, OK1.out, R1.out, P1.out⟩
          case measure => simp [intOf]; omega
        · have hs2 : s = x + y := by omega
          have ht2 : t = s + C := by omega
          subst ht2
          subst hs2
          have HS := hidden hs
          have HT2 := hidden ht
          have R1 := hidden (NX.out 0 (x + y + C) (by omega))
          clear hs ht HS HT2
          go_upto_region 6 with fail
          go_region_held3 (fun w' => St w [(w.heap.size + 1 + 1 + 1, o), (w.heap.size + 1 + 1, zero4), (w.heap.size + 1, b), (w.heap.size, a)] [w.heap.size + 1 + 1 + 1, w.heap.size + 1 + 1] w' ∧ w'.cell? ⟨w.heap.size, k, none⟩ = some (.int .u64 x) ∧ w'.cell? ⟨w.heap.size + 1, k, none⟩ = some (.int .u64 y)) (with_reducible exact K0.out) (fail)
          generalize wr.drew = wd at *
          have oc : wd.cell? ⟨w.heap.size + 1 + 1 + 1, k, none⟩ = some (.int .u64 (o.get k)) := (SD.out.live (w.heap.size + 1 + 1 + 1, o) (by simp)).get k hk4
          have of := (SD.out.wrt (w.heap.size + 1 + 1 + 1) (by simp)).1.get k hk4
          have ac : wd.cell? ⟨w.heap.size, k, none⟩ = some (.int .u64 x) := (KX.out wd SD.out).1
          generalize o.get k = z at *
          have P1 := hidden (SD.out.put (b := w.heap.size + 1 + 1 + 1) (o := o) (M := [(w.heap.size + 1 + 1, zero4), (w.heap.size + 1, b), (w.heap.size, a)]) k hk4 (x + y + C) (by simp) (by omega) (by simp; omega))
          have OK1 := hidden (E4.put_ok (o := o) HOK.out k (v := (x + y + C)) ⟨htb.1, by omega⟩)
          clear K0 KX SD NX HOK
          go_wp2_with fail
          go_roundw
          case rel => exact ⟨k + 1, o.put k (x + y + C), 0, by omega, rfl, by go_num, Or.inl rfl, OK1.out, R1.out, P1.out⟩
          case measure => simp [intOf]; omega
    · have hkk : k = 4 := by omega
      subst hkk
      obtain ⟨rfl, rfl⟩ := DONE.out o C hok hinv
      have o0 := (hst.live (w.heap.size + 1 + 1 + 1, limE (a.n + b.n)) (by simp)).c0
      have o1 := (hst.live (w.heap.size + 1 + 1 + 1, limE (a.n + b.n)) (by simp)).c1
      have o2 := (hst.live (w.heap.size + 1 + 1 + 1, limE (a.n + b.n)) (by simp)).c2
      have o3 := (hst.live (w.heap.size + 1 + 1 + 1, limE (a.n + b.n)) (by simp)).c3
      have d0 := (hst.live (w.heap.size + 1 + 1, zero4) (by simp)).c0
      have d1 := (hst.live (w.heap.size + 1 + 1, zero4) (by simp)).c1
      have d2 := (hst.live (w.heap.size + 1 + 1, zero4) (by simp)).c2
      have d3 := (hst.live (w.heap.size + 1 + 1, zero4) (by simp)).c3
      obtain ⟨g0, g1, g2, g3⟩ := (hst.wrt (w.heap.size + 1 + 1) (by simp)).1
      have BH := hidden hst.bel
      clear hst hinv hok hC DONE NEXT
      generalize hlE : limE (a.n + b.n) = r at *
      generalize hrE : (a.n + b.n) / 115792089237316195423570985008687907853269984665640564039457584007913129639936 = q at *
      have HLE := hidden hlE
      have HRE := hidden hrE
      clear hlE hrE
      go_wp2_with fail
      refine bodyPost_ret (v := .tuple #[.agg #[.int .u64 r.x0, .int .u64 r.x1, .int .u64 r.x2, .int .u64 r.x3], .int .u64 q]) (by simp [results, Tryd.results59, go_sem, d0, d1, d2, d3]) rfl ⟨by rw [← HLE.out, ← HRE.out], ?_⟩
      exact bl_set4 _ _ _ _ BH.out (by omega)
end Go.Proofs.YtbmbopapmajaaaaDoor
