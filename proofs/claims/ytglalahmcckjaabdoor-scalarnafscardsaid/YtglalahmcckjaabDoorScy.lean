import Derived.Test.YtglalahmcckjaabDoorSnf
import Derived.Test.YtglalahmcckjaabDoorSrt
namespace Go.Proofs.YtglalahmcckjaabDoor
open Go.RowKit

set_option maxHeartbeats 1000000 in
theorem prime_any (w : World) : Calls Tryd.prog 36 #[] w fun e w' => e = .returned lE.v ∧ Below w.heap.size w w' := by
  simp only [lE, E4.v]
  go_enter Tryd.func36, Tryd.ntmps36
  go_wp2
  refine bodyPost_ret (v := .agg #[.int .u64 6346243789798364141, .int .u64 1503914060200516822, .int .u64 0, .int .u64 1152921504606846976]) (by simp [results, Tryd.results36, go_sem]) rfl ⟨rfl, ?_⟩
  exact bl_alloc w _
theorem limb_or (l h : Int) : bits .or .u64 (l % 4294967296) (IntKind.u64.wrap (h * 4294967296)) = l % 4294967296 + (h % 4294967296) * 4294967296 := by
  have e : IntKind.u64.wrap (h * 4294967296) = (h % 4294967296) * 2 ^ 32 := by rw [IntKind.wrap_u64]; simp only [Int.reducePow]; omega
  rw [e, or_parts 32 _ _ (by omega) (by simp only [Int.reducePow]; omega) (by omega) (by simp only [Int.reducePow]; omega) (by omega)]
  simp only [Int.reducePow]

set_option maxRecDepth 100000 in
set_option maxHeartbeats 8000000 in
theorem carried_any (a : E4) (w : World) (ha : a.ok) :
    Calls Tryd.prog 28 #[a.v] w fun e w' => e = .returned (.tuple #[(limE (a.n + Sm.L)).v, .bool (decide ((a.n + Sm.L) / 115792089237316195423570985008687907853269984665640564039457584007913129639936 = 0))]) ∧ Below w.heap.size w w' := by
  have HA := hidden ha
  have PR := hidden prime_any
  have DONE := hidden (fun o C ho hi => plus_done a lE o C ho hi)
  have NEXT := hidden (fun o k hk C d t hi hs => plus_next a lE o k hk C d t hi hs)
  rw [lE_n] at DONE
  have s0 := (St.start w a 24).room 24
  simp only [World.size_alloc] at s0
  have S0 := hidden s0
  clear s0 ha
  simp only [E4.v, lE] at PR ⊢
  go_enter Tryd.func28, Tryd.ntmps28
  go_upto_region 1 with fail
  generalize ((w.alloc (.cells #[.int .u64 a.x0, .int .u64 a.x1, .int .u64 a.x2, .int .u64 a.x3] 24)).alloc (.cells #[.int .u64 0, .int .u64 0, .int .u64 0, .int .u64 0] 24)) = wB at S0 ⊢
  go_cut [4] (fun vx wx => ∃ pp : Nat, vx = .pointer (some ⟨pp, 0, none⟩) ∧ w.heap.size + 1 < pp ∧ St w [(pp, lE), (w.heap.size + 1, zero4), (w.heap.size, a)] [w.heap.size + 1] wx)
  case first =>
    go_wp2_with fail
    refine (PR.out _).mono ?_
    rintro e w2 ⟨rfl, hb⟩
    have s1 := S0.out.keep hb
    have hl := (s1.live (w.heap.size + 1, zero4) (by simp)).lt
    have s2 := hidden (s1.new lE 24)
    clear hb s1
    go_wp2_with fail
    go_meet
    exact ⟨_, rfl, hl, s2.out⟩
  case rest =>
  obtain ⟨pp, rfl, hpp, s1⟩ := hcut
  have S1 := hidden s1
  clear s1 S0 PR
  go_upto_region 2 with fail
  go_cut [5] (fun vx wx => ∃ po : Nat, vx = .pointer (some ⟨po, 0, none⟩) ∧ pp < po ∧ St w [(po, zero4), (pp, lE), (w.heap.size + 1, zero4), (w.heap.size, a)] [po, w.heap.size + 1] wx)
  case first =>
    have hl := (S1.out.live (pp, lE) (by simp)).lt
    have s2 := hidden (S1.out.roomR zero4 24)
    go_wp2_with fail
    go_meet
    exact ⟨_, rfl, hl, s2.out⟩
  case rest =>
  obtain ⟨po, rfl, hpo, s1⟩ := hcut
  clear S1
  have S1 := hidden s1
  clear s1
  go_wp2_with fail
  go_loopw [6, 7] (fun cv iv w' => ∃ (k : Nat) (o : E4) (C : Int), k ≤ 4 ∧ cv = .int .u64 C ∧ iv = .int .i64 k ∧ (C = 0 ∨ C = 1) ∧ Hid (o.ok ∧ o.low k + 18446744073709551616 ^ k * C = a.low k + lE.low k) ∧ Hid (St w [(po, o), (pp, lE), (w.heap.size + 1, zero4), (w.heap.size, a)] [po, w.heap.size + 1] w')) (fun _ i _ => 4 - (intOf i).toNat)
  case atStart => exact ⟨0, zero4, 0, by omega, rfl, rfl, Or.inl rfl, hidden ⟨⟨by unfold Sm.Wd zero4; simp, by unfold Sm.Wd zero4; simp, by unfold Sm.Wd zero4; simp, by unfold Sm.Wd zero4; simp⟩, by simp [E4.low]⟩, S1⟩
  case round =>
    obtain ⟨k, o, C, hk, rfl, rfl, hC, hinv, hst⟩ := hrel
    clear S1
    by_cases hk4 : k < 4
    · have kk0 : (0 : Int) ≤ (k : Int) := by omega
      have kk1 : (k : Int) < 4 := by omega
      have xa := E4.get_wd HA.out k
      have xb := E4.get_wd lE_ok k
      unfold Sm.Wd at xa xb
      have NX := hidden (fun d t hs => NEXT.out o k hk4 C d t hinv.out.2 hs)
      have HOK := hidden hinv.out.1
      have SD := hidden hst.out.drew
      have SDD := hidden hst.out.drew.drew
      have ca : wr.drew.cell? ⟨w.heap.size, k, none⟩ = some (.int .u64 (a.get k)) := (SD.out.live (w.heap.size, a) (by simp)).get k hk4
      have cb : wr.drew.cell? ⟨pp, k, none⟩ = some (.int .u64 (lE.get k)) := (SD.out.live (pp, lE) (by simp)).get k hk4
      have da : wr.drew.drew.cell? ⟨w.heap.size, k, none⟩ = some (.int .u64 (a.get k)) := (SDD.out.live (w.heap.size, a) (by simp)).get k hk4
      have db : wr.drew.drew.cell? ⟨pp, k, none⟩ = some (.int .u64 (lE.get k)) := (SDD.out.live (pp, lE) (by simp)).get k hk4
      clear hst hinv SD
      generalize a.get k = x at *
      generalize lE.get k = y at *
      have A1 := and32 x xa.1 (by omega)
      have A2 := and32 y xb.1 (by omega)
      obtain ⟨lo, hlo⟩ : ∃ l, l = x % 4294967296 + y % 4294967296 + C := ⟨_, rfl⟩
      obtain ⟨hh, hhh⟩ : ∃ l, l = x / 4294967296 + y / 4294967296 + lo / 4294967296 := ⟨_, rfl⟩
      have lb : 0 ≤ lo ∧ lo ≤ 8589934591 := by omega
      have hb : 0 ≤ hh ∧ hh ≤ 8589934591 := by omega
      have w1 : IntKind.u64.wrap (x % 4294967296 + y % 4294967296) = x % 4294967296 + y % 4294967296 := by rw [IntKind.wrap_u64]; omega
      have w2 : IntKind.u64.wrap (x % 4294967296 + y % 4294967296 + C) = lo := by rw [IntKind.wrap_u64]; omega
      have w3 : IntKind.u64.wrap (x / 4294967296 + y / 4294967296) = x / 4294967296 + y / 4294967296 := by rw [IntKind.wrap_u64]; omega
      have w4 : IntKind.u64.wrap (x / 4294967296 + y / 4294967296 + lo / 4294967296) = hh := by rw [IntKind.wrap_u64]; omega
      have A3 := and32 lo lb.1 (by omega)
      have OR := limb_or lo hh
      obtain ⟨t, ht⟩ : ∃ t, lo % 4294967296 + (hh % 4294967296) * 4294967296 = t := ⟨_, rfl⟩
      rw [ht] at OR
      have tb : Sm.Wd t := by unfold Sm.Wd; omega
      have R1 := hidden (NX.out (hh / 4294967296) t (by omega))
      have c01 : hh / 4294967296 = 0 ∨ hh / 4294967296 = 1 := by omega
      have C01 := hidden c01
      have OK1 := hidden (E4.put_ok (o := o) HOK.out k (v := t) tb)
      clear hlo hhh ht NX HOK c01 tb
      go_upto_region 7 with fail
      go_cut [8] (fun vx wx => vx = .int .u64 lo ∧ wx = wr.drew)
      case first =>
        go_region_with fail
        all_goals
          go_wp2_with fail
          go_meet
          exact ⟨rfl, rfl⟩
      case rest =>
      obtain ⟨rfl, rfl⟩ := hcut
      clear ca cb w1 w2 A1 A2
      go_upto_region 8 with fail
      go_cut [9] (fun vx wx => vx = .int .u64 hh ∧ wx = wr.drew.drew)
      case first =>
        go_region_with fail
        all_goals
          go_wp2_with fail
          go_meet
          exact ⟨rfl, rfl⟩
      case rest =>
      obtain ⟨rfl, rfl⟩ := hcut
      clear da db w3 w4
      generalize wr.drew.drew = wd at *
      have oc : wd.cell? ⟨po, k, none⟩ = some (.int .u64 (o.get k)) := (SDD.out.live (po, o) (by simp)).get k hk4
      have of := (SDD.out.wrt po (by simp)).1.get k hk4
      have P1 := hidden (SDD.out.put (b := po) (o := o) (M := [(pp, lE), (w.heap.size + 1, zero4), (w.heap.size, a)]) k hk4 t (by simp) (by omega) (by simp; omega))
      clear SDD
      generalize o.get k = z at *
      go_wp2_with fail
      go_roundw
      case rel => exact ⟨k + 1, o.put k t, hh / 4294967296, by omega, rfl, by go_num, C01.out, hidden ⟨OK1.out, R1.out⟩, P1⟩
      case measure => simp [intOf]; omega
    · have hkk : k = 4 := by omega
      subst hkk
      obtain ⟨h1, h2⟩ := DONE.out o C hinv.out.1 hinv.out.2
      subst h1
      have H2 := hidden h2
      have c0 := (hst.out.live (po, limE (a.n + Sm.L)) (by simp)).c0
      have c1 := (hst.out.live (po, limE (a.n + Sm.L)) (by simp)).c1
      have c2 := (hst.out.live (po, limE (a.n + Sm.L)) (by simp)).c2
      have c3 := (hst.out.live (po, limE (a.n + Sm.L)) (by simp)).c3
      have d0 := (hst.out.live (w.heap.size + 1, zero4) (by simp)).c0
      have d1 := (hst.out.live (w.heap.size + 1, zero4) (by simp)).c1
      have d2 := (hst.out.live (w.heap.size + 1, zero4) (by simp)).c2
      have d3 := (hst.out.live (w.heap.size + 1, zero4) (by simp)).c3
      obtain ⟨f0, f1, f2, f3⟩ := (hst.out.wrt (w.heap.size + 1) (by simp)).1
      have BE := hidden hst.out.bel
      clear hst hinv DONE NEXT h2
      rw [show ((4 : Nat) : Int) = 4 from rfl]
      go_wp2_with fail
      refine bodyPost_ret (v := .tuple #[.agg #[.int .u64 (limE (a.n + Sm.L)).x0, .int .u64 (limE (a.n + Sm.L)).x1, .int .u64 (limE (a.n + Sm.L)).x2, .int .u64 (limE (a.n + Sm.L)).x3], .bool (C == 0)]) (by simp [results, Tryd.results28, go_sem, d0, d1, d2, d3]) rfl ⟨?_, ?_⟩
      · rw [← H2.out]
        congr
      · exact set4_below _ _ _ BE.out (by omega)
/-- a slice of ints -/
def Ls (w : World) (s : Value) (n : Nat) (f : Nat → Int) : Prop := ∃ p : Option Addr, s = .slice p n n ∧ (0 < n → ∃ b, p = some ⟨b, 0, none⟩ ∧ Rwi w b n f)
theorem Ls.keep {w1 w2 : World} {s : Value} {n : Nat} {f : Nat → Int} (h : Ls w1 s n f) (hb : Below w1.heap.size w1 w2) : Ls w2 s n f := by
  obtain ⟨p, e, k⟩ := h
  exact ⟨p, e, fun hn => by obtain ⟨b, e2, r⟩ := k hn; exact ⟨b, e2, r.keep hb⟩⟩
set_option maxRecDepth 100000 in
set_option maxHeartbeats 4000000 in
theorem ints_any (s t : Value) (n : Nat) (f : Nat → Int) (w : World) (hn : n < 1000000) (hs : Ls w s n f) (ht : Ls w t n f) :
    Calls Tryd.prog 13 #[s, t] w fun e w' => e = .returned (.bool true) ∧ Below w.heap.size w w' := by
  obtain ⟨p, rfl, hp⟩ := hs
  obtain ⟨q, rfl, hq⟩ := ht
  have HP := hidden hp
  have HQ := hidden hq
  clear hp hq
  have nn0 : (0 : Int) ≤ (n : Int) := by omega
  have nn1 : (n : Int) < 1000000 := by omega
  go_enter Tryd.func13, Tryd.ntmps13
  go_wp2_with fail
  go_loopw [5] (fun iv w' => ∃ k : Nat, k ≤ n ∧ iv = .int .i64 k ∧ Below w.heap.size w w') (fun i _ => n - (intOf i).toNat)
  case atStart => exact ⟨0, by omega, rfl, Below.refl _ _⟩
  case round =>
    obtain ⟨k, hk, rfl, hbl⟩ := hrel
    by_cases hkn : k < n
    · have kk0 : (0 : Int) ≤ (k : Int) := by omega
      have kk1 : (k : Int) < (n : Int) := by omega
      obtain ⟨b, rfl, rb⟩ := HP.out (by omega)
      obtain ⟨c, rfl, rc⟩ := HQ.out (by omega)
      have cb : wr.drew.cell? ⟨b, k, none⟩ = some (.int .i64 (f k)) := cell_keep (rb.c k hkn) hbl.drew
      have cc : wr.drew.cell? ⟨c, k, none⟩ = some (.int .i64 (f k)) := cell_keep (rc.c k hkn) hbl.drew
      have BD := hidden hbl.drew
      generalize f k = x at *
      clear rb rc hbl
      go_upto_region 6 with fail
      go_cut [25] (fun vx wx => vx = .bool false ∧ wx = wr.drew)
      case first =>
        go_region_with fail
        all_goals
          clear cb cc hk nn0 nn1 kk0 kk1 hn hkn
          go_wp2_with fail
          go_meet
          exact ⟨rfl, rfl⟩
      case rest =>
      obtain ⟨rfl, rfl⟩ := hcut
      clear cb cc
      generalize wr.drew = wd at *
      go_wp2_with fail
      go_roundw
      case rel => exact ⟨k + 1, by omega, by go_num, BD.out⟩
      case measure => simp [intOf]; omega
    · have hkk : k = n := by omega
      subst hkk
      have lq : ¬ (k : Int) < (k : Int) := by omega
      go_wp2_with fail
      go_ret
      exact ⟨rfl, hbl⟩
end Go.Proofs.YtglalahmcckjaabDoor
