import Derived.Test.YtghcfcglakbkeaaGreatDoorCkqz
namespace Go.Proofs.YtghcfcglakbkeaaGreatDoor
set_option maxRecDepth 100000
set_option maxHeartbeats 8000000
open Go.RowKit
theorem limE_of {o : E4} {n c : Int} (h : o.ok) (e : o.n + 115792089237316195423570985008687907853269984665640564039457584007913129639936 * c = n) : o = limE n := by
 obtain ⟨h0, h1, h2, h3⟩ := h
 obtain ⟨e0, e1, e2, e3⟩ := Sm.lim_of n o.x0 o.x1 o.x2 o.x3 c h0 h1 h2 h3 e
 obtain ⟨x0, x1, x2, x3⟩ := o
 simp only at e0 e1 e2 e3
 unfold limE
 rw [← e0, ← e1, ← e2, ← e3]
theorem B_pow4 : (18446744073709551616 : Int) ^ 4 = 115792089237316195423570985008687907853269984665640564039457584007913129639936 := by decide
theorem ok_bd {o : E4} (h : o.ok) : 0 ≤ o.n ∧ o.n < 115792089237316195423570985008687907853269984665640564039457584007913129639936 := Sm.V_bd _ _ _ _ h.1 h.2.1 h.2.2.1 h.2.2.2
theorem minus_next (a b o : E4) (k : Nat) (hk : k < 4) (C d t : Int) (hi : o.low k - 18446744073709551616 ^ k * C = a.low k - b.low k) (hs : t - 18446744073709551616 * d = a.get k - b.get k - C) : (o.put k t).low (k + 1) - 18446744073709551616 ^ (k + 1) * d = a.low (k + 1) - b.low (k + 1) := by
 simp only [E4.low]
 rw [E4.put_low o k t hk, E4.put_get, Int.pow_succ]
 generalize (18446744073709551616 : Int) ^ k = p at *
 generalize a.get k = x at *
 generalize b.get k = y at *
 have ht : t = x - y - C + 18446744073709551616 * d := by omega
 rw [ht]
 grind
theorem minus_done (a b o : E4) (C : Int) (ho : o.ok) (hi : o.low 4 - 18446744073709551616 ^ 4 * C = a.low 4 - b.low 4) : o = limE (a.n - b.n) ∧ C = -((a.n - b.n) / 115792089237316195423570985008687907853269984665640564039457584007913129639936) := by
 rw [E4.low4, E4.low4, E4.low4, B_pow4] at hi
 have hb := ok_bd ho
 refine ⟨limE_of ho (c := -C) (by omega), by omega⟩
theorem rminus_any (a b : E4) (w : World) (ha : a.ok) (hb : b.ok) :
  Calls Tryz.prog 94 #[a.v, b.v] w fun e w' => e = .returned (.tuple #[(limE (a.n - b.n)).v, .int .u64 (-((a.n - b.n) / 115792089237316195423570985008687907853269984665640564039457584007913129639936))]) ∧ Below w.heap.size w w' := by
 have HA := Hn ha
 have HB := Hn hb
 have s0 := (((St.start w a 52).new b 52).room 52).room 52
 simp only [World.size_alloc] at s0
 have S0 := Hn s0
 clear s0 ha hb
 have DONE := Hn (fun o C ho hi => minus_done a b o C ho hi)
 have NEXT := Hn (fun o k hk C d t hi hs => minus_next a b o k hk C d t hi hs)
 simp only [E4.v]
 go_enter Tryz.func94, Tryz.ntmps94
 go_wp2_with fail
 go_loopw [7, 8] (fun c i w' => ∃ (k : Nat) (o : E4) (C : Int), k ≤ 4 ∧ c = .int .u64 C ∧ i = .int .i64 k ∧ (C = 0 ∨ C = 1) ∧ o.ok ∧ o.low k - 18446744073709551616 ^ k * C = a.low k - b.low k ∧ St w [(w.heap.size + 1 + 1 + 1, o), (w.heap.size + 1 + 1, zero4), (w.heap.size + 1, b), (w.heap.size, a)] [w.heap.size + 1 + 1 + 1, w.heap.size + 1 + 1] w') (fun _ i _ => 4 - (intOf i).toNat)
 case atStart => exact ⟨0, zero4, 0, by omega, rfl, rfl, Or.inl rfl, ⟨by unfold Sm.Wd zero4; simp, by unfold Sm.Wd zero4; simp, by unfold Sm.Wd zero4; simp, by unfold Sm.Wd zero4; simp⟩, by simp [E4.low], S0.out⟩
 case round =>
  obtain ⟨k, o, C, hk, rfl, rfl, hC, hok, hinv, hst⟩ := hrel
  clear S0
  by_cases hk4 : k < 4
  ·have kk0 : (0 : Int) ≤ (k : Int) := by omega
   have kk1 : (k : Int) < 4 := by omega
   have xa := E4.get_wd HA.out k
   have xb := E4.get_wd HB.out k
   unfold Sm.Wd at xa xb
   have NX := Hn (fun d t hs => NEXT.out o k hk4 C d t hinv hs)
   have HOK := Hn hok
   have ca := (hst.live (w.heap.size, a) (by simp)).get k hk4
   have cb := (hst.live (w.heap.size + 1, b) (by simp)).get k hk4
   have KS : Hid (∀ w', St w [(w.heap.size + 1 + 1 + 1, o), (w.heap.size + 1 + 1, zero4), (w.heap.size + 1, b), (w.heap.size, a)] [w.heap.size + 1 + 1 + 1, w.heap.size + 1 + 1] w' → (fun w' => St w [(w.heap.size + 1 + 1 + 1, o), (w.heap.size + 1 + 1, zero4), (w.heap.size + 1, b), (w.heap.size, a)] [w.heap.size + 1 + 1 + 1, w.heap.size + 1 + 1] w' ∧ w'.cell? ⟨w.heap.size, k, none⟩ = some (.int .u64 (a.get k)) ∧ w'.cell? ⟨w.heap.size + 1, k, none⟩ = some (.int .u64 (b.get k))) w') := Hn (fun w' h => ⟨h, (h.live (w.heap.size, a) (by simp)).get k hk4, (h.live (w.heap.size + 1, b) (by simp)).get k hk4⟩)
   have K0 := Hn (KS.out _ hst.drew)
   have K1 := Hn (KS.out _ hst.drew.drew)
   have SD := Hn hst.drew.drew
   clear hst ca cb KS hinv hok
   generalize a.get k = x at *
   generalize b.get k = y at *
   obtain ⟨s, hs⟩ : ∃ s, s = (x - y) % 18446744073709551616 := ⟨_, rfl⟩
   have hws : IntKind.u64.wrap (x - y) = s := by rw [IntKind.wrap_u64, hs]
   obtain ⟨t, ht⟩ : ∃ t, t = (s - C) % 18446744073709551616 := ⟨_, rfl⟩
   have hwt : IntKind.u64.wrap (s - C) = t := by rw [IntKind.wrap_u64, ht]
   have hsb : 0 ≤ s ∧ s ≤ 18446744073709551615 := by omega
   have htb : 0 ≤ t ∧ t ≤ 18446744073709551615 := by omega
   by_cases hc1 : x < y
   ·have hc2 : ¬ s < C := by omega
    have ht2 : t = s - C := by omega
    subst ht2
    have HS := Hn hs
    have HT2 := Hn ht
    have R1 := Hn (NX.out 1 (s - C) (by omega))
    clear hs ht HS HT2
    go_upto_region 6 with fail
    go_region_held3 (fun w' => St w [(w.heap.size + 1 + 1 + 1, o), (w.heap.size + 1 + 1, zero4), (w.heap.size + 1, b), (w.heap.size, a)] [w.heap.size + 1 + 1 + 1, w.heap.size + 1 + 1] w' ∧ w'.cell? ⟨w.heap.size, k, none⟩ = some (.int .u64 x) ∧ w'.cell? ⟨w.heap.size + 1, k, none⟩ = some (.int .u64 y)) (with_reducible exact K0.out) (fail)
    go_upto_region 8 with fail
    go_region_held3 (fun w' => St w [(w.heap.size + 1 + 1 + 1, o), (w.heap.size + 1 + 1, zero4), (w.heap.size + 1, b), (w.heap.size, a)] [w.heap.size + 1 + 1 + 1, w.heap.size + 1 + 1] w' ∧ w'.cell? ⟨w.heap.size, k, none⟩ = some (.int .u64 x) ∧ w'.cell? ⟨w.heap.size + 1, k, none⟩ = some (.int .u64 y)) (with_reducible exact K1.out) (fail)
    generalize wr.drew.drew = wd at *
    have oc : wd.cell? ⟨w.heap.size + 1 + 1 + 1, k, none⟩ = some (.int .u64 (o.get k)) := (SD.out.live (w.heap.size + 1 + 1 + 1, o) (by simp)).get k hk4
    have of := (SD.out.wrt (w.heap.size + 1 + 1 + 1) (by simp)).1.get k hk4
    generalize o.get k = z at *
    have P1 := Hn (SD.out.put (b := w.heap.size + 1 + 1 + 1) (o := o) (M := [(w.heap.size + 1 + 1, zero4), (w.heap.size + 1, b), (w.heap.size, a)]) k hk4 (s - C) (by simp) (by omega) (by simp; omega))
    have OK1 := Hn (E4.put_ok (o := o) HOK.out k (v := (s - C)) ⟨htb.1, by omega⟩)
    clear K0 K1 SD NX HOK
    go_wp2_with fail
    go_roundw
    case rel => exact ⟨k + 1, o.put k (s - C), 1, by omega, rfl, by go_num, Or.inr rfl, OK1.out, R1.out, P1.out⟩
    case measure => simp [intOf]; omega
   ·by_cases hc2 : s < C
    ·have hs2 : s = x - y := by omega
     subst hs2
     have HS := Hn hs
     have HT2 := Hn ht
     have R1 := Hn (NX.out 1 t (by omega))
     clear hs ht HS HT2
     go_upto_region 6 with fail
     go_region_held3 (fun w' => St w [(w.heap.size + 1 + 1 + 1, o), (w.heap.size + 1 + 1, zero4), (w.heap.size + 1, b), (w.heap.size, a)] [w.heap.size + 1 + 1 + 1, w.heap.size + 1 + 1] w' ∧ w'.cell? ⟨w.heap.size, k, none⟩ = some (.int .u64 x) ∧ w'.cell? ⟨w.heap.size + 1, k, none⟩ = some (.int .u64 y)) (with_reducible exact K0.out) (fail)
     go_upto_region 8 with fail
     go_region_held3 (fun w' => St w [(w.heap.size + 1 + 1 + 1, o), (w.heap.size + 1 + 1, zero4), (w.heap.size + 1, b), (w.heap.size, a)] [w.heap.size + 1 + 1 + 1, w.heap.size + 1 + 1] w' ∧ w'.cell? ⟨w.heap.size, k, none⟩ = some (.int .u64 x) ∧ w'.cell? ⟨w.heap.size + 1, k, none⟩ = some (.int .u64 y)) (with_reducible exact K1.out) (fail)
     generalize wr.drew.drew = wd at *
     have oc : wd.cell? ⟨w.heap.size + 1 + 1 + 1, k, none⟩ = some (.int .u64 (o.get k)) := (SD.out.live (w.heap.size + 1 + 1 + 1, o) (by simp)).get k hk4
     have of := (SD.out.wrt (w.heap.size + 1 + 1 + 1) (by simp)).1.get k hk4
     generalize o.get k = z at *
     have P1 := Hn (SD.out.put (b := w.heap.size + 1 + 1 + 1) (o := o) (M := [(w.heap.size + 1 + 1, zero4), (w.heap.size + 1, b), (w.heap.size, a)]) k hk4 t (by simp) (by omega) (by simp; omega))
     have OK1 := Hn (E4.put_ok (o := o) HOK.out k (v := t) ⟨htb.1, by omega⟩)
     clear K0 K1 SD NX HOK
     go_wp2_with fail
     go_roundw
     case rel => exact ⟨k + 1, o.put k t, 1, by omega, rfl, by go_num, Or.inr rfl, OK1.out, R1.out, P1.out⟩
     case measure => simp [intOf]; omega
    ·have hs2 : s = x - y := by omega
     have ht2 : t = s - C := by omega
     subst ht2
     subst hs2
     have HS := Hn hs
     have HT2 := Hn ht
     have R1 := Hn (NX.out 0 (x - y - C) (by omega))
     clear hs ht HS HT2
     go_upto_region 6 with fail
     go_region_held3 (fun w' => St w [(w.heap.size + 1 + 1 + 1, o), (w.heap.size + 1 + 1, zero4), (w.heap.size + 1, b), (w.heap.size, a)] [w.heap.size + 1 + 1 + 1, w.heap.size + 1 + 1] w' ∧ w'.cell? ⟨w.heap.size, k, none⟩ = some (.int .u64 x) ∧ w'.cell? ⟨w.heap.size + 1, k, none⟩ = some (.int .u64 y)) (with_reducible exact K0.out) (fail)
     go_upto_region 8 with fail
     go_region_held3 (fun w' => St w [(w.heap.size + 1 + 1 + 1, o), (w.heap.size + 1 + 1, zero4), (w.heap.size + 1, b), (w.heap.size, a)] [w.heap.size + 1 + 1 + 1, w.heap.size + 1 + 1] w' ∧ w'.cell? ⟨w.heap.size, k, none⟩ = some (.int .u64 x) ∧ w'.cell? ⟨w.heap.size + 1, k, none⟩ = some (.int .u64 y)) (with_reducible exact K1.out) (fail)
     generalize wr.drew.drew = wd at *
     have oc : wd.cell? ⟨w.heap.size + 1 + 1 + 1, k, none⟩ = some (.int .u64 (o.get k)) := (SD.out.live (w.heap.size + 1 + 1 + 1, o) (by simp)).get k hk4
     have of := (SD.out.wrt (w.heap.size + 1 + 1 + 1) (by simp)).1.get k hk4
     generalize o.get k = z at *
     have P1 := Hn (SD.out.put (b := w.heap.size + 1 + 1 + 1) (o := o) (M := [(w.heap.size + 1 + 1, zero4), (w.heap.size + 1, b), (w.heap.size, a)]) k hk4 (x - y - C) (by simp) (by omega) (by simp; omega))
     have OK1 := Hn (E4.put_ok (o := o) HOK.out k (v := (x - y - C)) ⟨htb.1, by omega⟩)
     clear K0 K1 SD NX HOK
     go_wp2_with fail
     go_roundw
     case rel => exact ⟨k + 1, o.put k (x - y - C), 0, by omega, rfl, by go_num, Or.inl rfl, OK1.out, R1.out, P1.out⟩
     case measure => simp [intOf]; omega
  ·have hkk : k = 4 := by omega
   subst hkk
   obtain ⟨rfl, rfl⟩ := DONE.out o C hok hinv
   have o0 := (hst.live (w.heap.size + 1 + 1 + 1, limE (a.n - b.n)) (by simp)).c0
   have o1 := (hst.live (w.heap.size + 1 + 1 + 1, limE (a.n - b.n)) (by simp)).c1
   have o2 := (hst.live (w.heap.size + 1 + 1 + 1, limE (a.n - b.n)) (by simp)).c2
   have o3 := (hst.live (w.heap.size + 1 + 1 + 1, limE (a.n - b.n)) (by simp)).c3
   have d0 := (hst.live (w.heap.size + 1 + 1, zero4) (by simp)).c0
   have d1 := (hst.live (w.heap.size + 1 + 1, zero4) (by simp)).c1
   have d2 := (hst.live (w.heap.size + 1 + 1, zero4) (by simp)).c2
   have d3 := (hst.live (w.heap.size + 1 + 1, zero4) (by simp)).c3
   obtain ⟨g0, g1, g2, g3⟩ := (hst.wrt (w.heap.size + 1 + 1) (by simp)).1
   have BH := Hn hst.bel
   clear hst hinv hok hC DONE NEXT
   generalize hlE : limE (a.n - b.n) = r at *
   generalize hrE : -((a.n - b.n) / 115792089237316195423570985008687907853269984665640564039457584007913129639936) = q at *
   have HLE := Hn hlE
   have HRE := Hn hrE
   clear hlE hrE
   go_wp2_with fail
   refine bodyPost_ret (v := .tuple #[.agg #[.int .u64 r.x0, .int .u64 r.x1, .int .u64 r.x2, .int .u64 r.x3], .int .u64 q]) (by simp [results, Tryz.results94, go_sem, d0, d1, d2, d3]) rfl ⟨by rw [← HLE.out, ← HRE.out], ?_⟩
   exact bl_set4 _ _ _ _ BH.out (by omega)
theorem plus_next (a b o : E4) (k : Nat) (hk : k < 4) (C d t : Int) (hi : o.low k + 18446744073709551616 ^ k * C = a.low k + b.low k) (hs : t + 18446744073709551616 * d = a.get k + b.get k + C) : (o.put k t).low (k + 1) + 18446744073709551616 ^ (k + 1) * d = a.low (k + 1) + b.low (k + 1) := by
 simp only [E4.low]
 rw [E4.put_low o k t hk, E4.put_get, Int.pow_succ]
 generalize (18446744073709551616 : Int) ^ k = p at *
 generalize a.get k = x at *
 generalize b.get k = y at *
 have ht : t = x + y + C - 18446744073709551616 * d := by omega
 rw [ht]
 grind
theorem plus_done (a b o : E4) (C : Int) (ho : o.ok) (hi : o.low 4 + 18446744073709551616 ^ 4 * C = a.low 4 + b.low 4) : o = limE (a.n + b.n) ∧ C = (a.n + b.n) / 115792089237316195423570985008687907853269984665640564039457584007913129639936 := by
 rw [E4.low4, E4.low4, E4.low4, B_pow4] at hi
 have hb := ok_bd ho
 refine ⟨limE_of ho (c := C) (by omega), by omega⟩
theorem rplus_any (a b : E4) (w : World) (ha : a.ok) (hb : b.ok) :
  Calls Tryz.prog 91 #[a.v, b.v] w fun e w' => e = .returned (.tuple #[(limE (a.n + b.n)).v, .int .u64 ((a.n + b.n) / 115792089237316195423570985008687907853269984665640564039457584007913129639936)]) ∧ Below w.heap.size w w' := by
 have HA := Hn ha
 have HB := Hn hb
 have s0 := (((St.start w a 52).new b 52).room 52).room 52
 simp only [World.size_alloc] at s0
 have S0 := Hn s0
 clear s0 ha hb
 have DONE := Hn (fun o C ho hi => plus_done a b o C ho hi)
 have NEXT := Hn (fun o k hk C d t hi hs => plus_next a b o k hk C d t hi hs)
 simp only [E4.v]
 go_enter Tryz.func91, Tryz.ntmps91
 go_wp2_with fail
 go_loopw [7, 8] (fun c i w' => ∃ (k : Nat) (o : E4) (C : Int), k ≤ 4 ∧ c = .int .u64 C ∧ i = .int .i64 k ∧ (C = 0 ∨ C = 1) ∧ o.ok ∧ o.low k + 18446744073709551616 ^ k * C = a.low k + b.low k ∧ St w [(w.heap.size + 1 + 1 + 1, o), (w.heap.size + 1 + 1, zero4), (w.heap.size + 1, b), (w.heap.size, a)] [w.heap.size + 1 + 1 + 1, w.heap.size + 1 + 1] w') (fun _ i _ => 4 - (intOf i).toNat)
 case atStart => exact ⟨0, zero4, 0, by omega, rfl, rfl, Or.inl rfl, ⟨by unfold Sm.Wd zero4; simp, by unfold Sm.Wd zero4; simp, by unfold Sm.Wd zero4; simp, by unfold Sm.Wd zero4; simp⟩, by simp [E4.low], S0.out⟩
 case round =>
  obtain ⟨k, o, C, hk, rfl, rfl, hC, hok, hinv, hst⟩ := hrel
  clear S0
  by_cases hk4 : k < 4
  ·have kk0 : (0 : Int) ≤ (k : Int) := by omega
   have kk1 : (k : Int) < 4 := by omega
   have xa := E4.get_wd HA.out k
   have xb := E4.get_wd HB.out k
   unfold Sm.Wd at xa xb
   have NX := Hn (fun d t hs => NEXT.out o k hk4 C d t hinv hs)
   have HOK := Hn hok
   have ca := (hst.live (w.heap.size, a) (by simp)).get k hk4
   have cb := (hst.live (w.heap.size + 1, b) (by simp)).get k hk4
   have KS : Hid (∀ w', St w [(w.heap.size + 1 + 1 + 1, o), (w.heap.size + 1 + 1, zero4), (w.heap.size + 1, b), (w.heap.size, a)] [w.heap.size + 1 + 1 + 1, w.heap.size + 1 + 1] w' → (fun w' => St w [(w.heap.size + 1 + 1 + 1, o), (w.heap.size + 1 + 1, zero4), (w.heap.size + 1, b), (w.heap.size, a)] [w.heap.size + 1 + 1 + 1, w.heap.size + 1 + 1] w' ∧ w'.cell? ⟨w.heap.size, k, none⟩ = some (.int .u64 (a.get k)) ∧ w'.cell? ⟨w.heap.size + 1, k, none⟩ = some (.int .u64 (b.get k))) w') := Hn (fun w' h => ⟨h, (h.live (w.heap.size, a) (by simp)).get k hk4, (h.live (w.heap.size + 1, b) (by simp)).get k hk4⟩)
   have K0 := Hn (KS.out _ hst.drew)
   have SD := Hn hst.drew
   have KX : Hid (∀ w', St w [(w.heap.size + 1 + 1 + 1, o), (w.heap.size + 1 + 1, zero4), (w.heap.size + 1, b), (w.heap.size, a)] [w.heap.size + 1 + 1 + 1, w.heap.size + 1 + 1] w' → w'.cell? ⟨w.heap.size, k, none⟩ = some (.int .u64 (a.get k)) ∧ True) := Hn (fun w' h => ⟨(h.live (w.heap.size, a) (by simp)).get k hk4, trivial⟩)
   clear hst ca cb KS hinv hok
   generalize a.get k = x at *
   generalize b.get k = y at *
   obtain ⟨s, hs⟩ : ∃ s, s = (x + y) % 18446744073709551616 := ⟨_, rfl⟩
   have hws : IntKind.u64.wrap (x + y) = s := by rw [IntKind.wrap_u64, hs]
   obtain ⟨t, ht⟩ : ∃ t, t = (s + C) % 18446744073709551616 := ⟨_, rfl⟩
   have hwt : IntKind.u64.wrap (s + C) = t := by rw [IntKind.wrap_u64, ht]
   have hsb : 0 ≤ s ∧ s ≤ 18446744073709551615 := by omega
   have htb : 0 ≤ t ∧ t ≤ 18446744073709551615 := by omega
   by_cases hc1 : s < x
   ·have hc2 : ¬ t < s := by omega
    have ht2 : t = s + C := by omega
    subst ht2
    have HS := Hn hs
    have HT2 := Hn ht
    have R1 := Hn (NX.out 1 (s + C) (by omega))
    clear hs ht HS HT2
    go_upto_region 6 with fail
    go_region_held3 (fun w' => St w [(w.heap.size + 1 + 1 + 1, o), (w.heap.size + 1 + 1, zero4), (w.heap.size + 1, b), (w.heap.size, a)] [w.heap.size + 1 + 1 + 1, w.heap.size + 1 + 1] w' ∧ w'.cell? ⟨w.heap.size, k, none⟩ = some (.int .u64 x) ∧ w'.cell? ⟨w.heap.size + 1, k, none⟩ = some (.int .u64 y)) (with_reducible exact K0.out) (fail)
    generalize wr.drew = wd at *
    have oc : wd.cell? ⟨w.heap.size + 1 + 1 + 1, k, none⟩ = some (.int .u64 (o.get k)) := (SD.out.live (w.heap.size + 1 + 1 + 1, o) (by simp)).get k hk4
    have of := (SD.out.wrt (w.heap.size + 1 + 1 + 1) (by simp)).1.get k hk4
    have ac : wd.cell? ⟨w.heap.size, k, none⟩ = some (.int .u64 x) := (KX.out wd SD.out).1
    generalize o.get k = z at *
    have P1 := Hn (SD.out.put (b := w.heap.size + 1 + 1 + 1) (o := o) (M := [(w.heap.size + 1 + 1, zero4), (w.heap.size + 1, b), (w.heap.size, a)]) k hk4 (s + C) (by simp) (by omega) (by simp; omega))
    have OK1 := Hn (E4.put_ok (o := o) HOK.out k (v := (s + C)) ⟨htb.1, by omega⟩)
    clear K0 KX SD NX HOK
    go_wp2_with fail
    go_roundw
    case rel => exact ⟨k + 1, o.put k (s + C), 1, by omega, rfl, by go_num, Or.inr rfl, OK1.out, R1.out, P1.out⟩
    case measure => simp [intOf]; omega
   ·by_cases hc2 : t < s
    ·have hs2 : s = x + y := by omega
     subst hs2
     have HS := Hn hs
     have HT2 := Hn ht
     have R1 := Hn (NX.out 1 t (by omega))
     clear hs ht HS HT2
     go_upto_region 6 with fail
     go_region_held3 (fun w' => St w [(w.heap.size + 1 + 1 + 1, o), (w.heap.size + 1 + 1, zero4), (w.heap.size + 1, b), (w.heap.size, a)] [w.heap.size + 1 + 1 + 1, w.heap.size + 1 + 1] w' ∧ w'.cell? ⟨w.heap.size, k, none⟩ = some (.int .u64 x) ∧ w'.cell? ⟨w.heap.size + 1, k, none⟩ = some (.int .u64 y)) (with_reducible exact K0.out) (fail)
     generalize wr.drew = wd at *
     have oc : wd.cell? ⟨w.heap.size + 1 + 1 + 1, k, none⟩ = some (.int .u64 (o.get k)) := (SD.out.live (w.heap.size + 1 + 1 + 1, o) (by simp)).get k hk4
     have of := (SD.out.wrt (w.heap.size + 1 + 1 + 1) (by simp)).1.get k hk4
     have ac : wd.cell? ⟨w.heap.size, k, none⟩ = some (.int .u64 x) := (KX.out wd SD.out).1
     generalize o.get k = z at *
     have P1 := Hn (SD.out.put (b := w.heap.size + 1 + 1 + 1) (o := o) (M := [(w.heap.size + 1 + 1, zero4), (w.heap.size + 1, b), (w.heap.size, a)]) k hk4 t (by simp) (by omega) (by simp; omega))
     have OK1 := Hn (E4.put_ok (o := o) HOK.out k (v := t) ⟨htb.1, by omega⟩)
     clear K0 KX SD NX HOK
     go_wp2_with fail
     go_roundw
     case rel => exact ⟨k + 1, o.put k t, 1, by omega, rfl, by go_num, Or.inr rfl, OK1.out, R1.out, P1.out⟩
     case measure => simp [intOf]; omega
    ·have hs2 : s = x + y := by omega
     have ht2 : t = s + C := by omega
     subst ht2
     subst hs2
     have HS := Hn hs
     have HT2 := Hn ht
     have R1 := Hn (NX.out 0 (x + y + C) (by omega))
     clear hs ht HS HT2
     go_upto_region 6 with fail
     go_region_held3 (fun w' => St w [(w.heap.size + 1 + 1 + 1, o), (w.heap.size + 1 + 1, zero4), (w.heap.size + 1, b), (w.heap.size, a)] [w.heap.size + 1 + 1 + 1, w.heap.size + 1 + 1] w' ∧ w'.cell? ⟨w.heap.size, k, none⟩ = some (.int .u64 x) ∧ w'.cell? ⟨w.heap.size + 1, k, none⟩ = some (.int .u64 y)) (with_reducible exact K0.out) (fail)
     generalize wr.drew = wd at *
     have oc : wd.cell? ⟨w.heap.size + 1 + 1 + 1, k, none⟩ = some (.int .u64 (o.get k)) := (SD.out.live (w.heap.size + 1 + 1 + 1, o) (by simp)).get k hk4
     have of := (SD.out.wrt (w.heap.size + 1 + 1 + 1) (by simp)).1.get k hk4
     have ac : wd.cell? ⟨w.heap.size, k, none⟩ = some (.int .u64 x) := (KX.out wd SD.out).1
     generalize o.get k = z at *
     have P1 := Hn (SD.out.put (b := w.heap.size + 1 + 1 + 1) (o := o) (M := [(w.heap.size + 1 + 1, zero4), (w.heap.size + 1, b), (w.heap.size, a)]) k hk4 (x + y + C) (by simp) (by omega) (by simp; omega))
     have OK1 := Hn (E4.put_ok (o := o) HOK.out k (v := (x + y + C)) ⟨htb.1, by omega⟩)
     clear K0 KX SD NX HOK
     go_wp2_with fail
     go_roundw
     case rel => exact ⟨k + 1, o.put k (x + y + C), 0, by omega, rfl, by go_num, Or.inl rfl, OK1.out, R1.out, P1.out⟩
     case measure => simp [intOf]; omega
  ·have hkk : k = 4 := by omega
   subst hkk
   obtain ⟨rfl, rfl⟩ := DONE.out o C hok hinv
   have o0 := (hst.live (w.heap.size + 1 + 1 + 1, limE (a.n + b.n)) (by simp)).c0
   have o1 := (hst.live (w.heap.size + 1 + 1 + 1, limE (a.n + b.n)) (by simp)).c1
   have o2 := (hst.live (w.heap.size + 1 + 1 + 1, limE (a.n + b.n)) (by simp)).c2
   have o3 := (hst.live (w.heap.size + 1 + 1 + 1, limE (a.n + b.n)) (by simp)).c3
   have d0 := (hst.live (w.heap.size + 1 + 1, zero4) (by simp)).c0
   have d1 := (hst.live (w.heap.size + 1 + 1, zero4) (by simp)).c1
   have d2 := (hst.live (w.heap.size + 1 + 1, zero4) (by simp)).c2
   have d3 := (hst.live (w.heap.size + 1 + 1, zero4) (by simp)).c3
   obtain ⟨g0, g1, g2, g3⟩ := (hst.wrt (w.heap.size + 1 + 1) (by simp)).1
   have BH := Hn hst.bel
   clear hst hinv hok hC DONE NEXT
   generalize hlE : limE (a.n + b.n) = r at *
   generalize hrE : (a.n + b.n) / 115792089237316195423570985008687907853269984665640564039457584007913129639936 = q at *
   have HLE := Hn hlE
   have HRE := Hn hrE
   clear hlE hrE
   go_wp2_with fail
   refine bodyPost_ret (v := .tuple #[.agg #[.int .u64 r.x0, .int .u64 r.x1, .int .u64 r.x2, .int .u64 r.x3], .int .u64 q]) (by simp [results, Tryz.results91, go_sem, d0, d1, d2, d3]) rfl ⟨by rw [← HLE.out, ← HRE.out], ?_⟩
   exact bl_set4 _ _ _ _ BH.out (by omega)
end Go.Proofs.YtghcfcglakbkeaaGreatDoor
namespace Go.Proofs.YtghcfcglakbkeaaGreatDoor
open Go.RowKit
theorem or_up (i : Nat) (h l : Int) (hl0 : 0 ≤ l) (hl : l < 2 ^ i) (hh0 : 0 ≤ h) (hh : h * 2 ^ i < 18446744073709551616) (hi : i ≤ 63) : bits .or .u64 (h * 2 ^ i) l = h * 2 ^ i + l := by
 have k := or_parts i h l hl0 hl hh0 hh hi
 obtain ⟨H, hH⟩ := Int.eq_ofNat_of_zero_le (Int.mul_nonneg hh0 (Int.le_of_lt (Int.pow_pos (by decide) : (0 : Int) < 2 ^ i)))
 obtain ⟨Q, rfl⟩ := Int.eq_ofNat_of_zero_le hl0
 rw [hH] at k hh ⊢
 have hQ : Q < 18446744073709551616 := by
  have : (2 : Int) ^ i ≤ 2 ^ 63 := by
   have h2 : ((2 ^ i : Nat) : Int) ≤ ((2 ^ 63 : Nat) : Int) := Int.ofNat_le.2 (Nat.pow_le_pow_right (by decide) hi)
   simpa using h2
  have h63 : (2 : Int) ^ 63 = 9223372036854775808 := by decide
  omega
 rw [u64_or_nat _ _ (by omega) hQ, Nat.or_comm, ← u64_or_nat _ _ hQ (by omega), k]
 omega
theorem low_math (r : E4) (x : Int) (hr : r.ok) (h0 : 0 ≤ x) (h1 : x < 65536) :
  bits .or .u64 (IntKind.u64.wrap (r.x0 * 65536)) x = Sm.lim 0 (65536 * r.n + x) ∧
  bits .or .u64 (IntKind.u64.wrap (r.x1 * 65536)) (r.x0 / 281474976710656) = Sm.lim 1 (65536 * r.n + x) ∧
  bits .or .u64 (IntKind.u64.wrap (r.x2 * 65536)) (r.x1 / 281474976710656) = Sm.lim 2 (65536 * r.n + x) ∧
  bits .or .u64 (IntKind.u64.wrap (r.x3 * 65536)) (r.x2 / 281474976710656) = Sm.lim 3 (65536 * r.n + x) := by
 obtain ⟨a0, a1, a2, a3⟩ := hr
 unfold Sm.Wd at *
 simp only [IntKind.wrap_u64]
 have e0 : r.x0 * 65536 % 18446744073709551616 = (r.x0 % 281474976710656) * 2 ^ 16 := by simp only [Int.reducePow]; omega
 have e1 : r.x1 * 65536 % 18446744073709551616 = (r.x1 % 281474976710656) * 2 ^ 16 := by simp only [Int.reducePow]; omega
 have e2 : r.x2 * 65536 % 18446744073709551616 = (r.x2 % 281474976710656) * 2 ^ 16 := by simp only [Int.reducePow]; omega
 have e3 : r.x3 * 65536 % 18446744073709551616 = (r.x3 % 281474976710656) * 2 ^ 16 := by simp only [Int.reducePow]; omega
 rw [e0, e1, e2, e3]
 rw [or_up 16 _ _ h0 (by simp only [Int.reducePow]; omega) (by omega) (by simp only [Int.reducePow]; omega) (by omega), or_up 16 _ _ (by omega) (by simp only [Int.reducePow]; omega) (by omega) (by simp only [Int.reducePow]; omega) (by omega), or_up 16 _ _ (by omega) (by simp only [Int.reducePow]; omega) (by omega) (by simp only [Int.reducePow]; omega) (by omega), or_up 16 _ _ (by omega) (by simp only [Int.reducePow]; omega) (by omega) (by simp only [Int.reducePow]; omega) (by omega)]
 simp only [Int.reducePow, E4.n, Sm.V]
 refine Sm.lim_of _ _ _ _ _ (r.x3 / 281474976710656) ?_ ?_ ?_ ?_ ?_
 ·unfold Sm.Wd; omega
 ·unfold Sm.Wd; omega
 ·unfold Sm.Wd; omega
 ·unfold Sm.Wd; omega
 ·unfold Sm.V; omega
def lowE (n : Int) : E4 := ⟨Sm.lim 0 n, Sm.lim 1 n, Sm.lim 2 n, Sm.lim 3 n % 1152921504606846976⟩
theorem lowE_ok (n : Int) : (lowE n).ok := ⟨Sm.lim_wd 0 _, Sm.lim_wd 1 _, Sm.lim_wd 2 _, by unfold Sm.Wd lowE; simp only; omega⟩
theorem lowE_n (n : Int) : (lowE n).n = n % 7237005577332262213973186563042994240829374041602535252466099000494570602496 := by
 unfold lowE E4.n Sm.V; simp only [Sm.lim]
 have f1 : n / 340282366920938463463374607431768211456 = n / 18446744073709551616 / 18446744073709551616 := by omega
 have f2 : n / 6277101735386680763835789423207666416102355444464034512896 = n / 340282366920938463463374607431768211456 / 18446744073709551616 := by omega
 generalize hx1 : n / 18446744073709551616 = x1 at *
 generalize hx2 : n / 340282366920938463463374607431768211456 = x2 at *
 generalize hx3 : n / 6277101735386680763835789423207666416102355444464034512896 = x3 at *
 omega
def qcE (p0 p1 p2 p3 c : Int) : E4 := ⟨p0 + p1 * 4294967296, p2 + p3 * 4294967296, c, 0⟩
theorem qc_math (q u0 u1 u2 u3 : Int) (h0 : 0 ≤ q) (h1 : q < 131072) (e0 : u0 = 1559614445 * q) (e1 : u1 = 1477600026 * q + u0 / 4294967296) (e2 : u2 = 2734136534 * q + u1 / 4294967296) (e3 : u3 = 350157278 * q + u2 / 4294967296) :
  (qcE (u0 % 4294967296) (u1 % 4294967296) (u2 % 4294967296) (u3 % 4294967296) (u3 / 4294967296)).n = q * 27742317777372353535851937790883648493 ∧ (qcE (u0 % 4294967296) (u1 % 4294967296) (u2 % 4294967296) (u3 % 4294967296) (u3 / 4294967296)).ok := by
 unfold qcE E4.n E4.ok Sm.V Sm.Wd
 simp only
 refine ⟨by omega, by omega, by omega, by omega, by omega⟩
theorem step_fin (r : E4) (x q d : Int) (hr : r.ok) (hL : r.n < Sm.L) (h0 : 0 ≤ x) (h1 : x < 65536) (hq : q = r.x3 / 17592186044416) (hd : d = (65536 * r.n + x) % 7237005577332262213973186563042994240829374041602535252466099000494570602496 - q * 27742317777372353535851937790883648493) :
  0 ≤ q ∧ q < 131072 ∧ (0 ≤ d → d < Sm.L ∧ limE d = lst (65536 * r.n + x)) ∧ (d < 0 → 0 ≤ d + Sm.L ∧ d + Sm.L < Sm.L ∧ limE (d + Sm.L) = lst (65536 * r.n + x)) ∧ (-d < 115792089237316195423570985008687907853269984665640564039457584007913129639936 ∧ d < 7237005577332262213973186563042994240829374041602535252466099000494570602496) := by
 obtain ⟨a0, a1, a2, a3⟩ := hr
 unfold Sm.Wd at *
 have hn : (65536 * r.n + x) / 7237005577332262213973186563042994240829374041602535252466099000494570602496 = q := by
  rw [hq]; unfold E4.n Sm.V; omega
 have hqb : 0 ≤ q ∧ q < 131072 := by
  unfold E4.n Sm.V Sm.L at hL; omega
 have hmod : (65536 * r.n + x) = q * Sm.L + d := by
  have := Int.emod_add_mul_ediv (65536 * r.n + x) 7237005577332262213973186563042994240829374041602535252466099000494570602496
  rw [hn] at this
  rw [hd]; unfold Sm.L; omega
 generalize 65536 * r.n + x = n at *
 have hm2 : n % Sm.L = d % Sm.L := by rw [hmod, Int.add_comm, Int.add_mul_emod_self_right]
 refine ⟨hqb.1, hqb.2, fun h => ⟨?_, ?_⟩, fun h => ⟨?_, ?_, ?_⟩, ?_, ?_⟩
 ·unfold Sm.L; omega
 ·have hdl : d < Sm.L := by unfold Sm.L; omega
  unfold limE lst
  rw [hm2, Int.emod_eq_of_lt h hdl]
 ·unfold Sm.L; omega
 ·omega
 ·have hd0 : 0 ≤ d + Sm.L := by unfold Sm.L; omega
  have e : (d + Sm.L) % Sm.L = d % Sm.L := Int.add_emod_right _ _
  unfold limE lst
  rw [hm2, ← e, Int.emod_eq_of_lt hd0 (by omega)]
 ·omega
 ·omega
theorem limE_shift (a b k : Int) (h : a = b + 115792089237316195423570985008687907853269984665640564039457584007913129639936 * k) : limE a = limE b := by
 have h0 := Sm.lim_of a (Sm.lim 0 b) (Sm.lim 1 b) (Sm.lim 2 b) (Sm.lim 3 b) ((a - b % 115792089237316195423570985008687907853269984665640564039457584007913129639936) / 115792089237316195423570985008687907853269984665640564039457584007913129639936) (Sm.lim_wd _ _) (Sm.lim_wd _ _) (Sm.lim_wd _ _) (Sm.lim_wd _ _) (by
  have hv := Sm.V_lim (b % 115792089237316195423570985008687907853269984665640564039457584007913129639936) (by omega) (by omega)
  have e0 : ∀ i, Sm.lim i (b % 115792089237316195423570985008687907853269984665640564039457584007913129639936) = Sm.lim i b := fun i => by unfold Sm.lim; split <;> omega
  rw [e0, e0, e0, e0] at hv
  rw [hv]; omega)
 unfold limE
 rw [h0.1, h0.2.1, h0.2.2.1, h0.2.2.2]
set_option maxHeartbeats 1000000 in
theorem rl_any (w : World) : Calls Tryz.prog 93 #[] w fun e w' => e = .returned lE.v ∧ Below w.heap.size w w' := by
 simp only [E4.v, lE]
 go_enter Tryz.func93, Tryz.ntmps93
 go_wp2
 refine bodyPost_ret (v := .agg #[.int .u64 6346243789798364141, .int .u64 1503914060200516822, .int .u64 0, .int .u64 1152921504606846976]) (by simp [results, Tryz.results93, go_sem]) rfl ⟨rfl, ?_⟩
 exact bl_alloc w _
theorem lE_ok : lE.ok := ⟨by unfold Sm.Wd lE; simp, by unfold Sm.Wd lE; simp, by unfold Sm.Wd lE; simp, by unfold Sm.Wd lE; simp⟩
theorem lE_n : lE.n = Sm.L := rfl
end Go.Proofs.YtghcfcglakbkeaaGreatDoor
