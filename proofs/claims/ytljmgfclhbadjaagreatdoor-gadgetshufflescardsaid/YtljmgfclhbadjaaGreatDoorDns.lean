import Derived.Test.YtljmgfclhbadjaaGreatDoorTk
import Derived.Test.YtljmgfclhbadjaaGreatDoorDnr
namespace Go.Proofs.YtljmgfclhbadjaaGreatDoor
open Go.RowKit
set_option linter.unusedVariables false
set_option linter.unusedSimpArgs false
open Cm (Wr Tm co bf Ls lf ins Eqm)
namespace Ci
set_option maxRecDepth 100000
set_option maxHeartbeats 16000000
theorem ho_z0 : hoE (rG pz0.G 0) (rG pz0.G 1) (rG pz0.G 2) (rG pz0.G 3) 0 pz0.K pz0.Q = 0 := by kernel_rfl
def At9 (n : Nat) (ga gb : Nat → E4) (r : Int) : Prop := (Lp : Int) ∣ Sh.pr (Sh.la (fun j => (ga j).n) n) r - Sh.pr (Sh.la (fun j => (gb j).n) n) r
theorem shuffled_any (a b : Sl) (x : World) (ha : a.at x) (hb : b.at x) (hT : Tb x) (hn : a.n ≤ 40) (he : b.n = a.n) (r : E4) (hr : r.ok) : ∃ t : Bool, (t = true ↔ At9 a.n a.g b.g r.n) ∧
  Calls Tryz.prog 12 #[.slice a.p a.n a.c, .slice b.p b.n b.c, .agg #[.int .u64 r.x0, .int .u64 r.x1, .int .u64 r.x2, .int .u64 r.x3]] x fun e w' => ShfP t x e w' := by
 by_cases e : a.n = 0
 ·have hp : pShN a.n r a.g b.g = pz0 := if_pos e
  have c := shuffled_walk a b x ha hb hT hn he r hr 0 (by rw [hp]; exact ho_z0)
  refine ⟨true, ⟨fun _ => ?_, fun _ => rfl⟩, c⟩
  unfold At9
  rw [e]
  show (Lp : Int) ∣ 1 - 1
  exact ⟨0, by simp⟩
 ·have hp : pShN a.n r a.g b.g = pSh 0 pz0 (cnX (lst (-r.n))) (bh a.n (fun j => cnX (a.g j)) (fun j => cnX (b.g j))) a.n := if_neg e
  have hs := shN a.n (by omega) r a.g b.g
  by_cases hc : (Sh.pr ((List.range a.n).map fun j => (a.g j).n) r.n - Sh.pr ((List.range a.n).map fun j => (b.g j).n) r.n) % Sm.L = 0
  ·rw [if_pos hc] at hs
   exact ⟨true, ⟨fun _ => Int.dvd_of_emod_eq_zero hc, fun _ => rfl⟩, shuffled_walk a b x ha hb hT hn he r hr 0 (by rw [hp]; exact hs)⟩
  ·rw [if_neg hc] at hs
   exact ⟨false, ⟨fun h => (by cases h), fun h => absurd (Int.emod_eq_zero_of_dvd h) hc⟩, shuffled_walk a b x ha hb hT hn he r hr 203 (by rw [hp]; exact hs)⟩
theorem Sl.at.cut {P : Option Addr} {n c k : Nat} {g : Nat → E4} {w : World} (h : (⟨P, n, c, g⟩ : Sl).at w) (hk : k ≤ n) (c' : Nat) : (⟨P, k, c', g⟩ : Sl).at w := by
 obtain ⟨b, o, h1, h2⟩ := h.at'
 refine ⟨⟨b, o, fun h0 => h1 (show 0 < n by have : 0 < k := h0; omega), fun h0 => ?_⟩, fun j hj => h.ok j (by have : j < k := hj; show j < n; omega)⟩
 have r := h2 (show 0 < n by have : 0 < k := h0; omega)
 exact ⟨fun j hj => r.c0 j (by have : j < k := hj; show j < n; omega), fun j hj => r.c1 j (by have : j < k := hj; show j < n; omega), fun j hj => r.c2 j (by have : j < k := hj; show j < n; omega), fun j hj => r.c3 j (by have : j < k := hj; show j < n; omega)⟩
structure Sd (n : Nat) (ga gb gr : Nat → E4) (i : Nat) (R : List Int) : Prop where
 d : R.Pairwise (fun a b => ¬ (Lp : Int) ∣ a - b)
 z : ∀ a ∈ R, At9 n ga gb a
 s : ∀ a ∈ R, ∃ k, k < i ∧ a = (gr k).n
 l : R.length ≤ i
section
variable {n i : Nat} {ga gb gr : Nat → E4} {R : List Int}
theorem Sd.skip (h : Sd n ga gb gr i R) : Sd n ga gb gr (i + 1) R := ⟨h.d, h.z, fun a ha => by obtain ⟨k, h1, h2⟩ := h.s a ha; exact ⟨k, by omega, h2⟩, by have := h.l; omega⟩
theorem Sd.put (h : Sd n ga gb gr i R) (hz : At9 n ga gb (gr i).n) (hn : ¬ ∃ k, k < i ∧ (Lp : Int) ∣ (gr i).n - (gr k).n) : Sd n ga gb gr (i + 1) ((gr i).n :: R) := by
 refine ⟨List.pairwise_cons.2 ⟨fun b hb hd => ?_, h.d⟩, fun a ha => ?_, fun a ha => ?_, by have := h.l; simp; omega⟩
 ·obtain ⟨k, h1, rfl⟩ := h.s b hb
  exact hn ⟨k, h1, hd⟩
 ·rcases List.mem_cons.1 ha with rfl | ha
  ·exact hz
  ·exact h.z a ha
 ·rcases List.mem_cons.1 ha with rfl | ha
  ·exact ⟨i, by omega, rfl⟩
  ·obtain ⟨k, h1, h2⟩ := h.s a ha
   exact ⟨k, by omega, h2⟩
theorem Sd.few (h : Sd n ga gb gr i R) (hn : ¬ Sh.Agr Lp (Sh.la (fun j => (ga j).n) n) (Sh.la (fun j => (gb j).n) n)) : R.length < n := by
 by_cases e : R.length < n
 ·exact e
 ·exact absurd (Sh.Agr.of pLp (by rw [Sh.la_len, Sh.la_len]) R (by rw [Sh.la_len]; omega) h.d h.z) hn
end
def GsP (x : World) (e : Ending) (w' : World) : Prop := e = .returned (.bool true) ∧ Below x.heap.size x w'
theorem PeP.b {n : Nat} {X Y : Nat → Int} {x w' : World} {e : Ending} (h : PeP n X Y x e w') : ∃ pv : Bool, e = .returned (.bool pv) ∧ Below x.heap.size x w' ∧ (pv = true ↔ Sh.Agr Lp (Sh.la X n) (Sh.la Y n)) := by
 obtain ⟨h1, h2 | h2⟩ := h
 ·exact ⟨true, h2.1, h1, ⟨fun _ => h2.2, fun _ => rfl⟩⟩
 ·exact ⟨false, h2.1, h1, ⟨fun h => (by cases h), fun h => absurd h h2.2⟩⟩
theorem law_a (p0 : Addr) (P1 : Option Addr) (P2 : Option Addr) (L0 c0 L1 c1 L2 c2 : Nat) (ga gb gr : Nat → E4) (x : World) (hT : Tb x) (ha : (⟨(some p0), L0, c0, ga⟩ : Sl).at x) (hb : (⟨P1, L1, c1, gb⟩ : Sl).at x) (hr : (⟨P2, L2, c2, gr⟩ : Sl).at x) (h32 : L0 ≤ 32) (hy : L1 ≤ L0) (hc0 : L0 ≤ c0) (hc1 : L1 ≤ c1) (h2 : L2 ≤ 4398046511104) :
  Calls Tryz.prog 3 #[.slice (some p0) L0 c0, .slice P1 L1 c1, .slice P2 L2 c2] x fun e w' => GsP x e w' := by
 have HA := Hn (And.intro (ha.cut (show L1 ≤ L0 by omega) c0) (And.intro (hb.cut (show L1 ≤ L1 by omega) c1) hr))
 have HN := Hn (show L1 ≤ 40 by omega)
 have H2 := Hn h2
 have HT := Hn hT
 have C0 := Hn (live_any x hT)
 clear ha hb hr hT h2
 go_enter Tryz.func3, Tryz.ntmps3
 go_upto_region 8 with (go_at_call 9; refine C0.out.mono ?_; rintro e w1 ⟨rfl, hb⟩; have B1 := Hn hb; clear hb C0)
 have CP := Hn ((permuted_any ⟨(some p0), L1, c0, ga⟩ ⟨P1, L1, c1, gb⟩ w1 (HA.out.1.keep B1.out) (HA.out.2.1.keep B1.out) HN.out rfl).mono (fun e w' k => PeP.b k))
 go_upto_region 11 with (go_at_call 10; refine CP.out.mono ?_; rintro e w2 ⟨pv, rfl, hb, hpv⟩; have B2 := Hn (bl_trans B1.out hb); have PV := Hn hpv; clear hb hpv CP)
 go_loopw [8, 9] (fun sv iv w' => ∃ (i : Nat) (R : List Int), i ≤ L2 ∧ i ≤ 64 ∧ iv = .int .i64 (i : Int) ∧ sv = .int .i64 (R.length : Int) ∧ Hid (Below x.heap.size x w' ∧ Sd (L1) ga gb gr i R)) (fun _ iv _ => L2 - (intOf iv).toNat)
 case atStart => exact ⟨0, [], by omega, by omega, rfl, rfl, Hn ⟨B2.out, ⟨List.Pairwise.nil, fun a ha => (by cases ha), fun a ha => (by cases ha), by simp⟩⟩⟩
 case round =>
  clear B1 B2
  obtain ⟨i, R, hi, hi6, rfl, rfl, HV⟩ := hrel
  have RL := HV.out.2.l
  generalize hrl : R.length = rl at *
  have HRL := Hn hrl
  clear hrl
  by_cases hin : i < L2
  ·have i1 : (i : Int) < (L2 : Int) := by omega
   have i0 : (0 : Int) ≤ (i : Int) := by omega
   by_cases hi64 : i < 64
   ·have i6 : (i : Int) < 64 := by omega
    have w9 : IntKind.i64.wrap ((i : Int) + 1) = (i : Int) + 1 := IntWalk.i64_in _ (by omega)
    have w7 : IntKind.i64.wrap ((rl : Int) + 1) = (rl : Int) + 1 := IntWalk.i64_in _ (by omega)
    obtain ⟨rb, ro, hxp, RA⟩ := HA.out.2.2.row (show 0 < L2 by omega)
    simp only at hxp
    subst hxp
    have ZA := Hn RA
    have OK := Hn (fun j (hj : j < L2) => HA.out.2.2.ok j hj)
    clear RA
    go_upto_region 15 with fail
    all_goals (
     go_loopw [10, 11] (fun av jv w' => ∃ (j : Nat) (b : Bool), j ≤ i ∧ jv = .int .i64 (j : Int) ∧ av = .bool b ∧ Hid (Below x.heap.size x w' ∧ (b = true ↔ ∃ k, k < j ∧ (Lp : Int) ∣ (gr i).n - (gr k).n))) (fun _ jv _ => i - (intOf jv).toNat)
     case atStart => exact ⟨0, false, by omega, rfl, rfl, Hn ⟨HV.out.1, ⟨fun h => (by cases h), fun h => by obtain ⟨k, hk, _⟩ := h; omega⟩⟩⟩
     case round =>
      obtain ⟨j, b, hj, rfl, rfl, HI⟩ := hrel
      by_cases hji : j < i
      ·have j1 : (j : Int) < (i : Int) := by omega
       have j0 : (0 : Int) ≤ (j : Int) := by omega
       have j2 : (j : Int) < (L2 : Int) := by omega
       have w8 : IntKind.i64.wrap ((j : Int) + 1) = (j : Int) + 1 := IntWalk.i64_in _ (by omega)
       go_upto_region 17 with fail
       cases b with
       | true =>
        refine gs17a _ _ _ _ _ _ _ _ _ _ _ _ _ _ _ _ _ _ _ _ _ _ _ _ _ _ _ _ _ _ _ _ _ _ _ _ _ _ _ _ _ _ _ _ _ _ _ _ _ _ _ _ _ _ _ _ _ _ _ _ _ _ _ _ _ _ _ _ _ _ _ _ _ _ _ _ _ _ _ _ _ _ _ _ _ _ _ _ _ _ _ _ _ _ _ _ _ _ _ _ (Hn ?_)
        intro wz hbz
        have BZ := Hn hbz
        clear hbz
        go_wp2_with fail
        go_roundw
        case rel => exact ⟨j + 1, true, by omega, by go_num, rfl, Hn ⟨bl_trans HI.out.1 BZ.out, ⟨fun _ => by obtain ⟨k, h1, h2⟩ := HI.out.2.1 rfl; exact ⟨k, by omega, h2⟩, fun _ => rfl⟩⟩⟩
        case measure => simp [intOf]; omega
       | false =>
        obtain ⟨ev, hev⟩ : ∃ ev, (lst (gr j).n).same (lst (gr i).n) = ev := ⟨_, rfl⟩
        refine gs17b _ L2 j i rb ro c2 (gr j) (gr i) (lst (gr j).n) (lst (gr i).n) ev _ _ _ _ _ _ _ _ _ _ _ _ _ _ _ _ _ _ _ _ _ _ _ _ _ _ _ _ _ _ _ _ _ _ _ _ _ _ _ _ _ _ _ _ _ _ _ _ _ _ _ _ _ _ _ _ _ _ _ _ _ _ _ _ _ _ _ _ _ _ _ _ _ _ _ _ _ _ _ _ _ _ _ _ _ _ _ _ _ _ _ _ _ _ _ _ i0 i1 j0 j2 (bl_cellO HI.out.1 (ZA.out.c0 j (by omega))) (bl_cellO HI.out.1 (ZA.out.c1 j (by omega))) (bl_cellO HI.out.1 (ZA.out.c2 j (by omega))) (bl_cellO HI.out.1 (ZA.out.c3 j (by omega))) (bl_cellO HI.out.1 (ZA.out.c0 i hin)) (bl_cellO HI.out.1 (ZA.out.c1 i hin)) (bl_cellO HI.out.1 (ZA.out.c2 i hin)) (bl_cellO HI.out.1 (ZA.out.c3 i hin)) (Hn (fun y => by have h9 := requal (lst (gr j).n) (lst (gr i).n) y; rw [hev] at h9; exact h9)) (Hn (fun y => by have c := fix (R := lst (gr j).n) (rleast_any (gr j) y (OK.out j (by omega))) rfl; simp only [E4.v] at c; exact c)) (Hn (fun y => by have c := fix (R := lst (gr i).n) (rleast_any (gr i) y (OK.out i hin)) rfl; simp only [E4.v] at c; exact c)) (Hn ?_)
        intro wz hbz
        have BZ := Hn hbz
        have EV := Hn (same_lst (gr j).n (gr i).n)
        rw [hev] at EV
        clear hbz hev
        go_wp2_with fail
        go_roundw
        case rel => exact ⟨j + 1, ev, by omega, by go_num, rfl, Hn ⟨bl_trans HI.out.1 BZ.out, ⟨fun h => ⟨j, by omega, EV.out.1 h⟩, fun h => by
         obtain ⟨k, h1, h2⟩ := h
         by_cases e : k = j
         ·subst e; exact EV.out.2 h2
         ·have h9 := HI.out.2.2 ⟨k, by omega, h2⟩
          cases h9⟩⟩⟩
        case measure => simp [intOf]; omega
      ·obtain rfl : j = i := by omega
       have lq : ¬ (j : Int) < (j : Int) := by omega
       have a0 := bl_cellO HI.out.1 (ZA.out.c0 j hin)
       have a1 := bl_cellO HI.out.1 (ZA.out.c1 j hin)
       have a2 := bl_cellO HI.out.1 (ZA.out.c2 j hin)
       have a3 := bl_cellO HI.out.1 (ZA.out.c3 j hin)
       obtain ⟨t, ht, ct⟩ := shuffled_any ⟨(some p0), L1, c0, ga⟩ ⟨P1, L1, c1, gb⟩ _ (HA.out.1.keep HI.out.1) (HA.out.2.1.keep HI.out.1) (HT.out.keep HI.out.1) HN.out rfl (gr j) (OK.out j hin)
       simp only at ct ht
       have CT := Hn ct
       have TT := Hn ht
       have KEY : pv = true → t = true := fun h => ht.2 (PV.out.1 h _)
       clear ct ht
       cases pv with
       | true =>
        cases t with
        | false => exact absurd (KEY rfl) (by simp)
        | true =>
         cases b with
         | false =>
          go_wp2_with (go_at_call 12; refine CT.out.mono ?_; rintro e w5 ⟨rfl, hb⟩; have B5 := Hn hb; clear hb CT)
          go_roundw
          case rel => exact ⟨j + 1, (gr j).n :: R, by omega, by omega, by go_num, by rw [List.length_cons, HRL.out]; congr 1, Hn ⟨bl_trans HI.out.1 B5.out, HV.out.2.put (TT.out.1 (by simp)) (fun h => absurd (HI.out.2.2 h) (by simp))⟩⟩
          case measure => simp [intOf]; omega
         | true =>
          go_wp2_with (go_at_call 12; refine CT.out.mono ?_; rintro e w5 ⟨rfl, hb⟩; have B5 := Hn hb; clear hb CT)
          go_roundw
          case rel => exact ⟨j + 1, R, by omega, by omega, by go_num, by rw [HRL.out], Hn ⟨bl_trans HI.out.1 B5.out, HV.out.2.skip⟩⟩
          case measure => simp [intOf]; omega
       | false =>
        cases t with
        | false =>
         cases b with
         | false =>
          go_wp2_with (go_at_call 12; refine CT.out.mono ?_; rintro e w5 ⟨rfl, hb⟩; have B5 := Hn hb; clear hb CT)
          go_roundw
          case rel => exact ⟨j + 1, R, by omega, by omega, by go_num, by rw [HRL.out], Hn ⟨bl_trans HI.out.1 B5.out, HV.out.2.skip⟩⟩
          case measure => simp [intOf]; omega
         | true =>
          go_wp2_with (go_at_call 12; refine CT.out.mono ?_; rintro e w5 ⟨rfl, hb⟩; have B5 := Hn hb; clear hb CT)
          go_roundw
          case rel => exact ⟨j + 1, R, by omega, by omega, by go_num, by rw [HRL.out], Hn ⟨bl_trans HI.out.1 B5.out, HV.out.2.skip⟩⟩
          case measure => simp [intOf]; omega
        | true =>
         cases b with
         | false =>
          go_wp2_with (go_at_call 12; refine CT.out.mono ?_; rintro e w5 ⟨rfl, hb⟩; have B5 := Hn hb; clear hb CT)
          go_roundw
          case rel => exact ⟨j + 1, (gr j).n :: R, by omega, by omega, by go_num, by rw [List.length_cons, HRL.out]; congr 1, Hn ⟨bl_trans HI.out.1 B5.out, HV.out.2.put (TT.out.1 (by simp)) (fun h => absurd (HI.out.2.2 h) (by simp))⟩⟩
          case measure => simp [intOf]; omega
         | true =>
          go_wp2_with (go_at_call 12; refine CT.out.mono ?_; rintro e w5 ⟨rfl, hb⟩; have B5 := Hn hb; clear hb CT)
          go_roundw
          case rel => exact ⟨j + 1, R, by omega, by omega, by go_num, by rw [HRL.out], Hn ⟨bl_trans HI.out.1 B5.out, HV.out.2.skip⟩⟩
          case measure => simp [intOf]; omega
    )
   ·have i6 : ¬ (i : Int) < 64 := by omega
    cases pv with
    | true =>
     go_wp2_with fail
     exact bodyPost_ret (v := .bool true) (by simp [results, Tryz.results3, go_sem]) rfl ⟨rfl, HV.out.1⟩
    | false =>
     have few := HV.out.2.few (fun h => by have h9 := PV.out.2 h; cases h9)
     rw [HRL.out] at few
     have fz : (rl : Int) < ((L1 : Nat) : Int) := Int.ofNat_lt.2 few
     skip
     go_wp2_with fail
     exact bodyPost_ret (v := .bool true) (by simp [results, Tryz.results3, go_sem]) rfl ⟨rfl, HV.out.1⟩
  ·have i1 : ¬ (i : Int) < (L2 : Int) := by omega
   cases pv with
   | true =>
    go_wp2_with fail
    exact bodyPost_ret (v := .bool true) (by simp [results, Tryz.results3, go_sem]) rfl ⟨rfl, HV.out.1⟩
   | false =>
    have few := HV.out.2.few (fun h => by have h9 := PV.out.2 h; cases h9)
    rw [HRL.out] at few
    have fz : (rl : Int) < ((L1 : Nat) : Int) := Int.ofNat_lt.2 few
    skip
    go_wp2_with fail
    exact bodyPost_ret (v := .bool true) (by simp [results, Tryz.results3, go_sem]) rfl ⟨rfl, HV.out.1⟩
theorem law_b (p0 : Addr) (p1 : Addr) (P2 : Option Addr) (L0 c0 L1 c1 L2 c2 : Nat) (ga gb gr : Nat → E4) (x : World) (hT : Tb x) (ha : (⟨(some p0), L0, c0, ga⟩ : Sl).at x) (hb : (⟨(some p1), L1, c1, gb⟩ : Sl).at x) (hr : (⟨P2, L2, c2, gr⟩ : Sl).at x) (h32 : L0 ≤ 32) (hy : L0 < L1) (hc0 : L0 ≤ c0) (hc1 : L1 ≤ c1) (h2 : L2 ≤ 4398046511104) :
  Calls Tryz.prog 3 #[.slice (some p0) L0 c0, .slice (some p1) L1 c1, .slice P2 L2 c2] x fun e w' => GsP x e w' := by
 have HA := Hn (And.intro (ha.cut (show L0 ≤ L0 by omega) c0) (And.intro (hb.cut (show L0 ≤ L1 by omega) c1) hr))
 have HN := Hn (show L0 ≤ 40 by omega)
 have H2 := Hn h2
 have HT := Hn hT
 have C0 := Hn (live_any x hT)
 clear ha hb hr hT h2
 go_enter Tryz.func3, Tryz.ntmps3
 go_upto_region 8 with (go_at_call 9; refine C0.out.mono ?_; rintro e w1 ⟨rfl, hb⟩; have B1 := Hn hb; clear hb C0)
 have CP := Hn ((permuted_any ⟨(some p0), L0, c0, ga⟩ ⟨(some p1), L0, c1, gb⟩ w1 (HA.out.1.keep B1.out) (HA.out.2.1.keep B1.out) HN.out rfl).mono (fun e w' k => PeP.b k))
 go_upto_region 11 with (go_at_call 10; refine CP.out.mono ?_; rintro e w2 ⟨pv, rfl, hb, hpv⟩; have B2 := Hn (bl_trans B1.out hb); have PV := Hn hpv; clear hb hpv CP)
 go_loopw [8, 9] (fun sv iv w' => ∃ (i : Nat) (R : List Int), i ≤ L2 ∧ i ≤ 64 ∧ iv = .int .i64 (i : Int) ∧ sv = .int .i64 (R.length : Int) ∧ Hid (Below x.heap.size x w' ∧ Sd (L0) ga gb gr i R)) (fun _ iv _ => L2 - (intOf iv).toNat)
 case atStart => exact ⟨0, [], by omega, by omega, rfl, rfl, Hn ⟨B2.out, ⟨List.Pairwise.nil, fun a ha => (by cases ha), fun a ha => (by cases ha), by simp⟩⟩⟩
 case round =>
  clear B1 B2
  obtain ⟨i, R, hi, hi6, rfl, rfl, HV⟩ := hrel
  have RL := HV.out.2.l
  generalize hrl : R.length = rl at *
  have HRL := Hn hrl
  clear hrl
  by_cases hin : i < L2
  ·have i1 : (i : Int) < (L2 : Int) := by omega
   have i0 : (0 : Int) ≤ (i : Int) := by omega
   by_cases hi64 : i < 64
   ·have i6 : (i : Int) < 64 := by omega
    have w9 : IntKind.i64.wrap ((i : Int) + 1) = (i : Int) + 1 := IntWalk.i64_in _ (by omega)
    have w7 : IntKind.i64.wrap ((rl : Int) + 1) = (rl : Int) + 1 := IntWalk.i64_in _ (by omega)
    obtain ⟨rb, ro, hxp, RA⟩ := HA.out.2.2.row (show 0 < L2 by omega)
    simp only at hxp
    subst hxp
    have ZA := Hn RA
    have OK := Hn (fun j (hj : j < L2) => HA.out.2.2.ok j hj)
    clear RA
    go_upto_region 15 with fail
    all_goals (
     go_loopw [10, 11] (fun av jv w' => ∃ (j : Nat) (b : Bool), j ≤ i ∧ jv = .int .i64 (j : Int) ∧ av = .bool b ∧ Hid (Below x.heap.size x w' ∧ (b = true ↔ ∃ k, k < j ∧ (Lp : Int) ∣ (gr i).n - (gr k).n))) (fun _ jv _ => i - (intOf jv).toNat)
     case atStart => exact ⟨0, false, by omega, rfl, rfl, Hn ⟨HV.out.1, ⟨fun h => (by cases h), fun h => by obtain ⟨k, hk, _⟩ := h; omega⟩⟩⟩
     case round =>
      obtain ⟨j, b, hj, rfl, rfl, HI⟩ := hrel
      by_cases hji : j < i
      ·have j1 : (j : Int) < (i : Int) := by omega
       have j0 : (0 : Int) ≤ (j : Int) := by omega
       have j2 : (j : Int) < (L2 : Int) := by omega
       have w8 : IntKind.i64.wrap ((j : Int) + 1) = (j : Int) + 1 := IntWalk.i64_in _ (by omega)
       go_upto_region 17 with fail
       cases b with
       | true =>
        refine gs17a _ _ _ _ _ _ _ _ _ _ _ _ _ _ _ _ _ _ _ _ _ _ _ _ _ _ _ _ _ _ _ _ _ _ _ _ _ _ _ _ _ _ _ _ _ _ _ _ _ _ _ _ _ _ _ _ _ _ _ _ _ _ _ _ _ _ _ _ _ _ _ _ _ _ _ _ _ _ _ _ _ _ _ _ _ _ _ _ _ _ _ _ _ _ _ _ _ _ _ _ (Hn ?_)
        intro wz hbz
        have BZ := Hn hbz
        clear hbz
        go_wp2_with fail
        go_roundw
        case rel => exact ⟨j + 1, true, by omega, by go_num, rfl, Hn ⟨bl_trans HI.out.1 BZ.out, ⟨fun _ => by obtain ⟨k, h1, h2⟩ := HI.out.2.1 rfl; exact ⟨k, by omega, h2⟩, fun _ => rfl⟩⟩⟩
        case measure => simp [intOf]; omega
       | false =>
        obtain ⟨ev, hev⟩ : ∃ ev, (lst (gr j).n).same (lst (gr i).n) = ev := ⟨_, rfl⟩
        refine gs17b _ L2 j i rb ro c2 (gr j) (gr i) (lst (gr j).n) (lst (gr i).n) ev _ _ _ _ _ _ _ _ _ _ _ _ _ _ _ _ _ _ _ _ _ _ _ _ _ _ _ _ _ _ _ _ _ _ _ _ _ _ _ _ _ _ _ _ _ _ _ _ _ _ _ _ _ _ _ _ _ _ _ _ _ _ _ _ _ _ _ _ _ _ _ _ _ _ _ _ _ _ _ _ _ _ _ _ _ _ _ _ _ _ _ _ _ _ _ _ i0 i1 j0 j2 (bl_cellO HI.out.1 (ZA.out.c0 j (by omega))) (bl_cellO HI.out.1 (ZA.out.c1 j (by omega))) (bl_cellO HI.out.1 (ZA.out.c2 j (by omega))) (bl_cellO HI.out.1 (ZA.out.c3 j (by omega))) (bl_cellO HI.out.1 (ZA.out.c0 i hin)) (bl_cellO HI.out.1 (ZA.out.c1 i hin)) (bl_cellO HI.out.1 (ZA.out.c2 i hin)) (bl_cellO HI.out.1 (ZA.out.c3 i hin)) (Hn (fun y => by have h9 := requal (lst (gr j).n) (lst (gr i).n) y; rw [hev] at h9; exact h9)) (Hn (fun y => by have c := fix (R := lst (gr j).n) (rleast_any (gr j) y (OK.out j (by omega))) rfl; simp only [E4.v] at c; exact c)) (Hn (fun y => by have c := fix (R := lst (gr i).n) (rleast_any (gr i) y (OK.out i hin)) rfl; simp only [E4.v] at c; exact c)) (Hn ?_)
        intro wz hbz
        have BZ := Hn hbz
        have EV := Hn (same_lst (gr j).n (gr i).n)
        rw [hev] at EV
        clear hbz hev
        go_wp2_with fail
        go_roundw
        case rel => exact ⟨j + 1, ev, by omega, by go_num, rfl, Hn ⟨bl_trans HI.out.1 BZ.out, ⟨fun h => ⟨j, by omega, EV.out.1 h⟩, fun h => by
         obtain ⟨k, h1, h2⟩ := h
         by_cases e : k = j
         ·subst e; exact EV.out.2 h2
         ·have h9 := HI.out.2.2 ⟨k, by omega, h2⟩
          cases h9⟩⟩⟩
        case measure => simp [intOf]; omega
      ·obtain rfl : j = i := by omega
       have lq : ¬ (j : Int) < (j : Int) := by omega
       have a0 := bl_cellO HI.out.1 (ZA.out.c0 j hin)
       have a1 := bl_cellO HI.out.1 (ZA.out.c1 j hin)
       have a2 := bl_cellO HI.out.1 (ZA.out.c2 j hin)
       have a3 := bl_cellO HI.out.1 (ZA.out.c3 j hin)
       obtain ⟨t, ht, ct⟩ := shuffled_any ⟨(some p0), L0, c0, ga⟩ ⟨(some p1), L0, c1, gb⟩ _ (HA.out.1.keep HI.out.1) (HA.out.2.1.keep HI.out.1) (HT.out.keep HI.out.1) HN.out rfl (gr j) (OK.out j hin)
       simp only at ct ht
       have CT := Hn ct
       have TT := Hn ht
       have KEY : pv = true → t = true := fun h => ht.2 (PV.out.1 h _)
       clear ct ht
       cases pv with
       | true =>
        cases t with
        | false => exact absurd (KEY rfl) (by simp)
        | true =>
         cases b with
         | false =>
          go_wp2_with (go_at_call 12; refine CT.out.mono ?_; rintro e w5 ⟨rfl, hb⟩; have B5 := Hn hb; clear hb CT)
          go_roundw
          case rel => exact ⟨j + 1, (gr j).n :: R, by omega, by omega, by go_num, by rw [List.length_cons, HRL.out]; congr 1, Hn ⟨bl_trans HI.out.1 B5.out, HV.out.2.put (TT.out.1 (by simp)) (fun h => absurd (HI.out.2.2 h) (by simp))⟩⟩
          case measure => simp [intOf]; omega
         | true =>
          go_wp2_with (go_at_call 12; refine CT.out.mono ?_; rintro e w5 ⟨rfl, hb⟩; have B5 := Hn hb; clear hb CT)
          go_roundw
          case rel => exact ⟨j + 1, R, by omega, by omega, by go_num, by rw [HRL.out], Hn ⟨bl_trans HI.out.1 B5.out, HV.out.2.skip⟩⟩
          case measure => simp [intOf]; omega
       | false =>
        cases t with
        | false =>
         cases b with
         | false =>
          go_wp2_with (go_at_call 12; refine CT.out.mono ?_; rintro e w5 ⟨rfl, hb⟩; have B5 := Hn hb; clear hb CT)
          go_roundw
          case rel => exact ⟨j + 1, R, by omega, by omega, by go_num, by rw [HRL.out], Hn ⟨bl_trans HI.out.1 B5.out, HV.out.2.skip⟩⟩
          case measure => simp [intOf]; omega
         | true =>
          go_wp2_with (go_at_call 12; refine CT.out.mono ?_; rintro e w5 ⟨rfl, hb⟩; have B5 := Hn hb; clear hb CT)
          go_roundw
          case rel => exact ⟨j + 1, R, by omega, by omega, by go_num, by rw [HRL.out], Hn ⟨bl_trans HI.out.1 B5.out, HV.out.2.skip⟩⟩
          case measure => simp [intOf]; omega
        | true =>
         cases b with
         | false =>
          go_wp2_with (go_at_call 12; refine CT.out.mono ?_; rintro e w5 ⟨rfl, hb⟩; have B5 := Hn hb; clear hb CT)
          go_roundw
          case rel => exact ⟨j + 1, (gr j).n :: R, by omega, by omega, by go_num, by rw [List.length_cons, HRL.out]; congr 1, Hn ⟨bl_trans HI.out.1 B5.out, HV.out.2.put (TT.out.1 (by simp)) (fun h => absurd (HI.out.2.2 h) (by simp))⟩⟩
          case measure => simp [intOf]; omega
         | true =>
          go_wp2_with (go_at_call 12; refine CT.out.mono ?_; rintro e w5 ⟨rfl, hb⟩; have B5 := Hn hb; clear hb CT)
          go_roundw
          case rel => exact ⟨j + 1, R, by omega, by omega, by go_num, by rw [HRL.out], Hn ⟨bl_trans HI.out.1 B5.out, HV.out.2.skip⟩⟩
          case measure => simp [intOf]; omega
    )
   ·have i6 : ¬ (i : Int) < 64 := by omega
    cases pv with
    | true =>
     go_wp2_with fail
     exact bodyPost_ret (v := .bool true) (by simp [results, Tryz.results3, go_sem]) rfl ⟨rfl, HV.out.1⟩
    | false =>
     have few := HV.out.2.few (fun h => by have h9 := PV.out.2 h; cases h9)
     rw [HRL.out] at few
     have fz : (rl : Int) < ((L0 : Nat) : Int) := Int.ofNat_lt.2 few
     skip
     go_wp2_with fail
     exact bodyPost_ret (v := .bool true) (by simp [results, Tryz.results3, go_sem]) rfl ⟨rfl, HV.out.1⟩
  ·have i1 : ¬ (i : Int) < (L2 : Int) := by omega
   cases pv with
   | true =>
    go_wp2_with fail
    exact bodyPost_ret (v := .bool true) (by simp [results, Tryz.results3, go_sem]) rfl ⟨rfl, HV.out.1⟩
   | false =>
    have few := HV.out.2.few (fun h => by have h9 := PV.out.2 h; cases h9)
    rw [HRL.out] at few
    have fz : (rl : Int) < ((L0 : Nat) : Int) := Int.ofNat_lt.2 few
    skip
    go_wp2_with fail
    exact bodyPost_ret (v := .bool true) (by simp [results, Tryz.results3, go_sem]) rfl ⟨rfl, HV.out.1⟩
theorem law_c (p0 : Addr) (P1 : Option Addr) (P2 : Option Addr) (L0 c0 L1 c1 L2 c2 : Nat) (ga gb gr : Nat → E4) (x : World) (hT : Tb x) (ha : (⟨(some p0), L0, c0, ga⟩ : Sl).at x) (hb : (⟨P1, L1, c1, gb⟩ : Sl).at x) (hr : (⟨P2, L2, c2, gr⟩ : Sl).at x) (h32 : 32 < L0) (hy : L1 ≤ 32) (hc0 : L0 ≤ c0) (hc1 : L1 ≤ c1) (h2 : L2 ≤ 4398046511104) :
  Calls Tryz.prog 3 #[.slice (some p0) L0 c0, .slice P1 L1 c1, .slice P2 L2 c2] x fun e w' => GsP x e w' := by
 have HA := Hn (And.intro (ha.cut (show L1 ≤ L0 by omega) c0) (And.intro (hb.cut (show L1 ≤ L1 by omega) c1) hr))
 have HN := Hn (show L1 ≤ 40 by omega)
 have H2 := Hn h2
 have HT := Hn hT
 have C0 := Hn (live_any x hT)
 clear ha hb hr hT h2
 go_enter Tryz.func3, Tryz.ntmps3
 go_upto_region 8 with (go_at_call 9; refine C0.out.mono ?_; rintro e w1 ⟨rfl, hb⟩; have B1 := Hn hb; clear hb C0)
 have CP := Hn ((permuted_any ⟨(some p0), L1, c0, ga⟩ ⟨P1, L1, c1, gb⟩ w1 (HA.out.1.keep B1.out) (HA.out.2.1.keep B1.out) HN.out rfl).mono (fun e w' k => PeP.b k))
 go_upto_region 11 with (go_at_call 10; refine CP.out.mono ?_; rintro e w2 ⟨pv, rfl, hb, hpv⟩; have B2 := Hn (bl_trans B1.out hb); have PV := Hn hpv; clear hb hpv CP)
 go_loopw [8, 9] (fun sv iv w' => ∃ (i : Nat) (R : List Int), i ≤ L2 ∧ i ≤ 64 ∧ iv = .int .i64 (i : Int) ∧ sv = .int .i64 (R.length : Int) ∧ Hid (Below x.heap.size x w' ∧ Sd (L1) ga gb gr i R)) (fun _ iv _ => L2 - (intOf iv).toNat)
 case atStart => exact ⟨0, [], by omega, by omega, rfl, rfl, Hn ⟨B2.out, ⟨List.Pairwise.nil, fun a ha => (by cases ha), fun a ha => (by cases ha), by simp⟩⟩⟩
 case round =>
  clear B1 B2
  obtain ⟨i, R, hi, hi6, rfl, rfl, HV⟩ := hrel
  have RL := HV.out.2.l
  generalize hrl : R.length = rl at *
  have HRL := Hn hrl
  clear hrl
  by_cases hin : i < L2
  ·have i1 : (i : Int) < (L2 : Int) := by omega
   have i0 : (0 : Int) ≤ (i : Int) := by omega
   by_cases hi64 : i < 64
   ·have i6 : (i : Int) < 64 := by omega
    have w9 : IntKind.i64.wrap ((i : Int) + 1) = (i : Int) + 1 := IntWalk.i64_in _ (by omega)
    have w7 : IntKind.i64.wrap ((rl : Int) + 1) = (rl : Int) + 1 := IntWalk.i64_in _ (by omega)
    obtain ⟨rb, ro, hxp, RA⟩ := HA.out.2.2.row (show 0 < L2 by omega)
    simp only at hxp
    subst hxp
    have ZA := Hn RA
    have OK := Hn (fun j (hj : j < L2) => HA.out.2.2.ok j hj)
    clear RA
    go_upto_region 15 with fail
    all_goals (
     go_loopw [10, 11] (fun av jv w' => ∃ (j : Nat) (b : Bool), j ≤ i ∧ jv = .int .i64 (j : Int) ∧ av = .bool b ∧ Hid (Below x.heap.size x w' ∧ (b = true ↔ ∃ k, k < j ∧ (Lp : Int) ∣ (gr i).n - (gr k).n))) (fun _ jv _ => i - (intOf jv).toNat)
     case atStart => exact ⟨0, false, by omega, rfl, rfl, Hn ⟨HV.out.1, ⟨fun h => (by cases h), fun h => by obtain ⟨k, hk, _⟩ := h; omega⟩⟩⟩
     case round =>
      obtain ⟨j, b, hj, rfl, rfl, HI⟩ := hrel
      by_cases hji : j < i
      ·have j1 : (j : Int) < (i : Int) := by omega
       have j0 : (0 : Int) ≤ (j : Int) := by omega
       have j2 : (j : Int) < (L2 : Int) := by omega
       have w8 : IntKind.i64.wrap ((j : Int) + 1) = (j : Int) + 1 := IntWalk.i64_in _ (by omega)
       go_upto_region 17 with fail
       cases b with
       | true =>
        refine gs17a _ _ _ _ _ _ _ _ _ _ _ _ _ _ _ _ _ _ _ _ _ _ _ _ _ _ _ _ _ _ _ _ _ _ _ _ _ _ _ _ _ _ _ _ _ _ _ _ _ _ _ _ _ _ _ _ _ _ _ _ _ _ _ _ _ _ _ _ _ _ _ _ _ _ _ _ _ _ _ _ _ _ _ _ _ _ _ _ _ _ _ _ _ _ _ _ _ _ _ _ (Hn ?_)
        intro wz hbz
        have BZ := Hn hbz
        clear hbz
        go_wp2_with fail
        go_roundw
        case rel => exact ⟨j + 1, true, by omega, by go_num, rfl, Hn ⟨bl_trans HI.out.1 BZ.out, ⟨fun _ => by obtain ⟨k, h1, h2⟩ := HI.out.2.1 rfl; exact ⟨k, by omega, h2⟩, fun _ => rfl⟩⟩⟩
        case measure => simp [intOf]; omega
       | false =>
        obtain ⟨ev, hev⟩ : ∃ ev, (lst (gr j).n).same (lst (gr i).n) = ev := ⟨_, rfl⟩
        refine gs17b _ L2 j i rb ro c2 (gr j) (gr i) (lst (gr j).n) (lst (gr i).n) ev _ _ _ _ _ _ _ _ _ _ _ _ _ _ _ _ _ _ _ _ _ _ _ _ _ _ _ _ _ _ _ _ _ _ _ _ _ _ _ _ _ _ _ _ _ _ _ _ _ _ _ _ _ _ _ _ _ _ _ _ _ _ _ _ _ _ _ _ _ _ _ _ _ _ _ _ _ _ _ _ _ _ _ _ _ _ _ _ _ _ _ _ _ _ _ _ i0 i1 j0 j2 (bl_cellO HI.out.1 (ZA.out.c0 j (by omega))) (bl_cellO HI.out.1 (ZA.out.c1 j (by omega))) (bl_cellO HI.out.1 (ZA.out.c2 j (by omega))) (bl_cellO HI.out.1 (ZA.out.c3 j (by omega))) (bl_cellO HI.out.1 (ZA.out.c0 i hin)) (bl_cellO HI.out.1 (ZA.out.c1 i hin)) (bl_cellO HI.out.1 (ZA.out.c2 i hin)) (bl_cellO HI.out.1 (ZA.out.c3 i hin)) (Hn (fun y => by have h9 := requal (lst (gr j).n) (lst (gr i).n) y; rw [hev] at h9; exact h9)) (Hn (fun y => by have c := fix (R := lst (gr j).n) (rleast_any (gr j) y (OK.out j (by omega))) rfl; simp only [E4.v] at c; exact c)) (Hn (fun y => by have c := fix (R := lst (gr i).n) (rleast_any (gr i) y (OK.out i hin)) rfl; simp only [E4.v] at c; exact c)) (Hn ?_)
        intro wz hbz
        have BZ := Hn hbz
        have EV := Hn (same_lst (gr j).n (gr i).n)
        rw [hev] at EV
        clear hbz hev
        go_wp2_with fail
        go_roundw
        case rel => exact ⟨j + 1, ev, by omega, by go_num, rfl, Hn ⟨bl_trans HI.out.1 BZ.out, ⟨fun h => ⟨j, by omega, EV.out.1 h⟩, fun h => by
         obtain ⟨k, h1, h2⟩ := h
         by_cases e : k = j
         ·subst e; exact EV.out.2 h2
         ·have h9 := HI.out.2.2 ⟨k, by omega, h2⟩
          cases h9⟩⟩⟩
        case measure => simp [intOf]; omega
      ·obtain rfl : j = i := by omega
       have lq : ¬ (j : Int) < (j : Int) := by omega
       have a0 := bl_cellO HI.out.1 (ZA.out.c0 j hin)
       have a1 := bl_cellO HI.out.1 (ZA.out.c1 j hin)
       have a2 := bl_cellO HI.out.1 (ZA.out.c2 j hin)
       have a3 := bl_cellO HI.out.1 (ZA.out.c3 j hin)
       obtain ⟨t, ht, ct⟩ := shuffled_any ⟨(some p0), L1, c0, ga⟩ ⟨P1, L1, c1, gb⟩ _ (HA.out.1.keep HI.out.1) (HA.out.2.1.keep HI.out.1) (HT.out.keep HI.out.1) HN.out rfl (gr j) (OK.out j hin)
       simp only at ct ht
       have CT := Hn ct
       have TT := Hn ht
       have KEY : pv = true → t = true := fun h => ht.2 (PV.out.1 h _)
       clear ct ht
       cases pv with
       | true =>
        cases t with
        | false => exact absurd (KEY rfl) (by simp)
        | true =>
         cases b with
         | false =>
          go_wp2_with (go_at_call 12; refine CT.out.mono ?_; rintro e w5 ⟨rfl, hb⟩; have B5 := Hn hb; clear hb CT)
          go_roundw
          case rel => exact ⟨j + 1, (gr j).n :: R, by omega, by omega, by go_num, by rw [List.length_cons, HRL.out]; congr 1, Hn ⟨bl_trans HI.out.1 B5.out, HV.out.2.put (TT.out.1 (by simp)) (fun h => absurd (HI.out.2.2 h) (by simp))⟩⟩
          case measure => simp [intOf]; omega
         | true =>
          go_wp2_with (go_at_call 12; refine CT.out.mono ?_; rintro e w5 ⟨rfl, hb⟩; have B5 := Hn hb; clear hb CT)
          go_roundw
          case rel => exact ⟨j + 1, R, by omega, by omega, by go_num, by rw [HRL.out], Hn ⟨bl_trans HI.out.1 B5.out, HV.out.2.skip⟩⟩
          case measure => simp [intOf]; omega
       | false =>
        cases t with
        | false =>
         cases b with
         | false =>
          go_wp2_with (go_at_call 12; refine CT.out.mono ?_; rintro e w5 ⟨rfl, hb⟩; have B5 := Hn hb; clear hb CT)
          go_roundw
          case rel => exact ⟨j + 1, R, by omega, by omega, by go_num, by rw [HRL.out], Hn ⟨bl_trans HI.out.1 B5.out, HV.out.2.skip⟩⟩
          case measure => simp [intOf]; omega
         | true =>
          go_wp2_with (go_at_call 12; refine CT.out.mono ?_; rintro e w5 ⟨rfl, hb⟩; have B5 := Hn hb; clear hb CT)
          go_roundw
          case rel => exact ⟨j + 1, R, by omega, by omega, by go_num, by rw [HRL.out], Hn ⟨bl_trans HI.out.1 B5.out, HV.out.2.skip⟩⟩
          case measure => simp [intOf]; omega
        | true =>
         cases b with
         | false =>
          go_wp2_with (go_at_call 12; refine CT.out.mono ?_; rintro e w5 ⟨rfl, hb⟩; have B5 := Hn hb; clear hb CT)
          go_roundw
          case rel => exact ⟨j + 1, (gr j).n :: R, by omega, by omega, by go_num, by rw [List.length_cons, HRL.out]; congr 1, Hn ⟨bl_trans HI.out.1 B5.out, HV.out.2.put (TT.out.1 (by simp)) (fun h => absurd (HI.out.2.2 h) (by simp))⟩⟩
          case measure => simp [intOf]; omega
         | true =>
          go_wp2_with (go_at_call 12; refine CT.out.mono ?_; rintro e w5 ⟨rfl, hb⟩; have B5 := Hn hb; clear hb CT)
          go_roundw
          case rel => exact ⟨j + 1, R, by omega, by omega, by go_num, by rw [HRL.out], Hn ⟨bl_trans HI.out.1 B5.out, HV.out.2.skip⟩⟩
          case measure => simp [intOf]; omega
    )
   ·have i6 : ¬ (i : Int) < 64 := by omega
    cases pv with
    | true =>
     go_wp2_with fail
     exact bodyPost_ret (v := .bool true) (by simp [results, Tryz.results3, go_sem]) rfl ⟨rfl, HV.out.1⟩
    | false =>
     have few := HV.out.2.few (fun h => by have h9 := PV.out.2 h; cases h9)
     rw [HRL.out] at few
     have fz : (rl : Int) < ((L1 : Nat) : Int) := Int.ofNat_lt.2 few
     skip
     go_wp2_with fail
     exact bodyPost_ret (v := .bool true) (by simp [results, Tryz.results3, go_sem]) rfl ⟨rfl, HV.out.1⟩
  ·have i1 : ¬ (i : Int) < (L2 : Int) := by omega
   cases pv with
   | true =>
    go_wp2_with fail
    exact bodyPost_ret (v := .bool true) (by simp [results, Tryz.results3, go_sem]) rfl ⟨rfl, HV.out.1⟩
   | false =>
    have few := HV.out.2.few (fun h => by have h9 := PV.out.2 h; cases h9)
    rw [HRL.out] at few
    have fz : (rl : Int) < ((L1 : Nat) : Int) := Int.ofNat_lt.2 few
    skip
    go_wp2_with fail
    exact bodyPost_ret (v := .bool true) (by simp [results, Tryz.results3, go_sem]) rfl ⟨rfl, HV.out.1⟩
theorem law_d (p0 : Addr) (p1 : Addr) (P2 : Option Addr) (L0 c0 L1 c1 L2 c2 : Nat) (ga gb gr : Nat → E4) (x : World) (hT : Tb x) (ha : (⟨(some p0), L0, c0, ga⟩ : Sl).at x) (hb : (⟨(some p1), L1, c1, gb⟩ : Sl).at x) (hr : (⟨P2, L2, c2, gr⟩ : Sl).at x) (h32 : 32 < L0) (hy : 32 < L1) (hc0 : L0 ≤ c0) (hc1 : L1 ≤ c1) (h2 : L2 ≤ 4398046511104) :
  Calls Tryz.prog 3 #[.slice (some p0) L0 c0, .slice (some p1) L1 c1, .slice P2 L2 c2] x fun e w' => GsP x e w' := by
 have HA := Hn (And.intro (ha.cut (show 32 ≤ L0 by omega) c0) (And.intro (hb.cut (show 32 ≤ L1 by omega) c1) hr))
 have HN := Hn (show 32 ≤ 40 by omega)
 have H2 := Hn h2
 have HT := Hn hT
 have C0 := Hn (live_any x hT)
 clear ha hb hr hT h2
 go_enter Tryz.func3, Tryz.ntmps3
 go_upto_region 8 with (go_at_call 9; refine C0.out.mono ?_; rintro e w1 ⟨rfl, hb⟩; have B1 := Hn hb; clear hb C0)
 have CP := Hn ((permuted_any ⟨(some p0), 32, c0, ga⟩ ⟨(some p1), 32, c1, gb⟩ w1 (HA.out.1.keep B1.out) (HA.out.2.1.keep B1.out) HN.out rfl).mono (fun e w' k => PeP.b k))
 go_upto_region 11 with (go_at_call 10; refine CP.out.mono ?_; rintro e w2 ⟨pv, rfl, hb, hpv⟩; have B2 := Hn (bl_trans B1.out hb); have PV := Hn hpv; clear hb hpv CP)
 go_loopw [8, 9] (fun sv iv w' => ∃ (i : Nat) (R : List Int), i ≤ L2 ∧ i ≤ 64 ∧ iv = .int .i64 (i : Int) ∧ sv = .int .i64 (R.length : Int) ∧ Hid (Below x.heap.size x w' ∧ Sd (32) ga gb gr i R)) (fun _ iv _ => L2 - (intOf iv).toNat)
 case atStart => exact ⟨0, [], by omega, by omega, rfl, rfl, Hn ⟨B2.out, ⟨List.Pairwise.nil, fun a ha => (by cases ha), fun a ha => (by cases ha), by simp⟩⟩⟩
 case round =>
  clear B1 B2
  obtain ⟨i, R, hi, hi6, rfl, rfl, HV⟩ := hrel
  have RL := HV.out.2.l
  generalize hrl : R.length = rl at *
  have HRL := Hn hrl
  clear hrl
  by_cases hin : i < L2
  ·have i1 : (i : Int) < (L2 : Int) := by omega
   have i0 : (0 : Int) ≤ (i : Int) := by omega
   by_cases hi64 : i < 64
   ·have i6 : (i : Int) < 64 := by omega
    have w9 : IntKind.i64.wrap ((i : Int) + 1) = (i : Int) + 1 := IntWalk.i64_in _ (by omega)
    have w7 : IntKind.i64.wrap ((rl : Int) + 1) = (rl : Int) + 1 := IntWalk.i64_in _ (by omega)
    obtain ⟨rb, ro, hxp, RA⟩ := HA.out.2.2.row (show 0 < L2 by omega)
    simp only at hxp
    subst hxp
    have ZA := Hn RA
    have OK := Hn (fun j (hj : j < L2) => HA.out.2.2.ok j hj)
    clear RA
    go_upto_region 15 with fail
    all_goals (
     go_loopw [10, 11] (fun av jv w' => ∃ (j : Nat) (b : Bool), j ≤ i ∧ jv = .int .i64 (j : Int) ∧ av = .bool b ∧ Hid (Below x.heap.size x w' ∧ (b = true ↔ ∃ k, k < j ∧ (Lp : Int) ∣ (gr i).n - (gr k).n))) (fun _ jv _ => i - (intOf jv).toNat)
     case atStart => exact ⟨0, false, by omega, rfl, rfl, Hn ⟨HV.out.1, ⟨fun h => (by cases h), fun h => by obtain ⟨k, hk, _⟩ := h; omega⟩⟩⟩
     case round =>
      obtain ⟨j, b, hj, rfl, rfl, HI⟩ := hrel
      by_cases hji : j < i
      ·have j1 : (j : Int) < (i : Int) := by omega
       have j0 : (0 : Int) ≤ (j : Int) := by omega
       have j2 : (j : Int) < (L2 : Int) := by omega
       have w8 : IntKind.i64.wrap ((j : Int) + 1) = (j : Int) + 1 := IntWalk.i64_in _ (by omega)
       go_upto_region 17 with fail
       cases b with
       | true =>
        refine gs17a _ _ _ _ _ _ _ _ _ _ _ _ _ _ _ _ _ _ _ _ _ _ _ _ _ _ _ _ _ _ _ _ _ _ _ _ _ _ _ _ _ _ _ _ _ _ _ _ _ _ _ _ _ _ _ _ _ _ _ _ _ _ _ _ _ _ _ _ _ _ _ _ _ _ _ _ _ _ _ _ _ _ _ _ _ _ _ _ _ _ _ _ _ _ _ _ _ _ _ _ (Hn ?_)
        intro wz hbz
        have BZ := Hn hbz
        clear hbz
        go_wp2_with fail
        go_roundw
        case rel => exact ⟨j + 1, true, by omega, by go_num, rfl, Hn ⟨bl_trans HI.out.1 BZ.out, ⟨fun _ => by obtain ⟨k, h1, h2⟩ := HI.out.2.1 rfl; exact ⟨k, by omega, h2⟩, fun _ => rfl⟩⟩⟩
        case measure => simp [intOf]; omega
       | false =>
        obtain ⟨ev, hev⟩ : ∃ ev, (lst (gr j).n).same (lst (gr i).n) = ev := ⟨_, rfl⟩
        refine gs17b _ L2 j i rb ro c2 (gr j) (gr i) (lst (gr j).n) (lst (gr i).n) ev _ _ _ _ _ _ _ _ _ _ _ _ _ _ _ _ _ _ _ _ _ _ _ _ _ _ _ _ _ _ _ _ _ _ _ _ _ _ _ _ _ _ _ _ _ _ _ _ _ _ _ _ _ _ _ _ _ _ _ _ _ _ _ _ _ _ _ _ _ _ _ _ _ _ _ _ _ _ _ _ _ _ _ _ _ _ _ _ _ _ _ _ _ _ _ _ i0 i1 j0 j2 (bl_cellO HI.out.1 (ZA.out.c0 j (by omega))) (bl_cellO HI.out.1 (ZA.out.c1 j (by omega))) (bl_cellO HI.out.1 (ZA.out.c2 j (by omega))) (bl_cellO HI.out.1 (ZA.out.c3 j (by omega))) (bl_cellO HI.out.1 (ZA.out.c0 i hin)) (bl_cellO HI.out.1 (ZA.out.c1 i hin)) (bl_cellO HI.out.1 (ZA.out.c2 i hin)) (bl_cellO HI.out.1 (ZA.out.c3 i hin)) (Hn (fun y => by have h9 := requal (lst (gr j).n) (lst (gr i).n) y; rw [hev] at h9; exact h9)) (Hn (fun y => by have c := fix (R := lst (gr j).n) (rleast_any (gr j) y (OK.out j (by omega))) rfl; simp only [E4.v] at c; exact c)) (Hn (fun y => by have c := fix (R := lst (gr i).n) (rleast_any (gr i) y (OK.out i hin)) rfl; simp only [E4.v] at c; exact c)) (Hn ?_)
        intro wz hbz
        have BZ := Hn hbz
        have EV := Hn (same_lst (gr j).n (gr i).n)
        rw [hev] at EV
        clear hbz hev
        go_wp2_with fail
        go_roundw
        case rel => exact ⟨j + 1, ev, by omega, by go_num, rfl, Hn ⟨bl_trans HI.out.1 BZ.out, ⟨fun h => ⟨j, by omega, EV.out.1 h⟩, fun h => by
         obtain ⟨k, h1, h2⟩ := h
         by_cases e : k = j
         ·subst e; exact EV.out.2 h2
         ·have h9 := HI.out.2.2 ⟨k, by omega, h2⟩
          cases h9⟩⟩⟩
        case measure => simp [intOf]; omega
      ·obtain rfl : j = i := by omega
       have lq : ¬ (j : Int) < (j : Int) := by omega
       have a0 := bl_cellO HI.out.1 (ZA.out.c0 j hin)
       have a1 := bl_cellO HI.out.1 (ZA.out.c1 j hin)
       have a2 := bl_cellO HI.out.1 (ZA.out.c2 j hin)
       have a3 := bl_cellO HI.out.1 (ZA.out.c3 j hin)
       obtain ⟨t, ht, ct⟩ := shuffled_any ⟨(some p0), 32, c0, ga⟩ ⟨(some p1), 32, c1, gb⟩ _ (HA.out.1.keep HI.out.1) (HA.out.2.1.keep HI.out.1) (HT.out.keep HI.out.1) HN.out rfl (gr j) (OK.out j hin)
       simp only at ct ht
       have CT := Hn ct
       have TT := Hn ht
       have KEY : pv = true → t = true := fun h => ht.2 (PV.out.1 h _)
       clear ct ht
       cases pv with
       | true =>
        cases t with
        | false => exact absurd (KEY rfl) (by simp)
        | true =>
         cases b with
         | false =>
          go_wp2_with (go_at_call 12; refine CT.out.mono ?_; rintro e w5 ⟨rfl, hb⟩; have B5 := Hn hb; clear hb CT)
          go_roundw
          case rel => exact ⟨j + 1, (gr j).n :: R, by omega, by omega, by go_num, by rw [List.length_cons, HRL.out]; congr 1, Hn ⟨bl_trans HI.out.1 B5.out, HV.out.2.put (TT.out.1 (by simp)) (fun h => absurd (HI.out.2.2 h) (by simp))⟩⟩
          case measure => simp [intOf]; omega
         | true =>
          go_wp2_with (go_at_call 12; refine CT.out.mono ?_; rintro e w5 ⟨rfl, hb⟩; have B5 := Hn hb; clear hb CT)
          go_roundw
          case rel => exact ⟨j + 1, R, by omega, by omega, by go_num, by rw [HRL.out], Hn ⟨bl_trans HI.out.1 B5.out, HV.out.2.skip⟩⟩
          case measure => simp [intOf]; omega
       | false =>
        cases t with
        | false =>
         cases b with
         | false =>
          go_wp2_with (go_at_call 12; refine CT.out.mono ?_; rintro e w5 ⟨rfl, hb⟩; have B5 := Hn hb; clear hb CT)
          go_roundw
          case rel => exact ⟨j + 1, R, by omega, by omega, by go_num, by rw [HRL.out], Hn ⟨bl_trans HI.out.1 B5.out, HV.out.2.skip⟩⟩
          case measure => simp [intOf]; omega
         | true =>
          go_wp2_with (go_at_call 12; refine CT.out.mono ?_; rintro e w5 ⟨rfl, hb⟩; have B5 := Hn hb; clear hb CT)
          go_roundw
          case rel => exact ⟨j + 1, R, by omega, by omega, by go_num, by rw [HRL.out], Hn ⟨bl_trans HI.out.1 B5.out, HV.out.2.skip⟩⟩
          case measure => simp [intOf]; omega
        | true =>
         cases b with
         | false =>
          go_wp2_with (go_at_call 12; refine CT.out.mono ?_; rintro e w5 ⟨rfl, hb⟩; have B5 := Hn hb; clear hb CT)
          go_roundw
          case rel => exact ⟨j + 1, (gr j).n :: R, by omega, by omega, by go_num, by rw [List.length_cons, HRL.out]; congr 1, Hn ⟨bl_trans HI.out.1 B5.out, HV.out.2.put (TT.out.1 (by simp)) (fun h => absurd (HI.out.2.2 h) (by simp))⟩⟩
          case measure => simp [intOf]; omega
         | true =>
          go_wp2_with (go_at_call 12; refine CT.out.mono ?_; rintro e w5 ⟨rfl, hb⟩; have B5 := Hn hb; clear hb CT)
          go_roundw
          case rel => exact ⟨j + 1, R, by omega, by omega, by go_num, by rw [HRL.out], Hn ⟨bl_trans HI.out.1 B5.out, HV.out.2.skip⟩⟩
          case measure => simp [intOf]; omega
    )
   ·have i6 : ¬ (i : Int) < 64 := by omega
    cases pv with
    | true =>
     go_wp2_with fail
     exact bodyPost_ret (v := .bool true) (by simp [results, Tryz.results3, go_sem]) rfl ⟨rfl, HV.out.1⟩
    | false =>
     have few := HV.out.2.few (fun h => by have h9 := PV.out.2 h; cases h9)
     rw [HRL.out] at few
     have fz : (rl : Int) < ((32 : Nat) : Int) := Int.ofNat_lt.2 few
     have fz2 : (rl : Int) < 32 := by omega
     go_wp2_with fail
     exact bodyPost_ret (v := .bool true) (by simp [results, Tryz.results3, go_sem]) rfl ⟨rfl, HV.out.1⟩
  ·have i1 : ¬ (i : Int) < (L2 : Int) := by omega
   cases pv with
   | true =>
    go_wp2_with fail
    exact bodyPost_ret (v := .bool true) (by simp [results, Tryz.results3, go_sem]) rfl ⟨rfl, HV.out.1⟩
   | false =>
    have few := HV.out.2.few (fun h => by have h9 := PV.out.2 h; cases h9)
    rw [HRL.out] at few
    have fz : (rl : Int) < ((32 : Nat) : Int) := Int.ofNat_lt.2 few
    have fz2 : (rl : Int) < 32 := by omega
    go_wp2_with fail
    exact bodyPost_ret (v := .bool true) (by simp [results, Tryz.results3, go_sem]) rfl ⟨rfl, HV.out.1⟩
theorem law_e  (P1 : Option Addr) (P2 : Option Addr) ( c1 L2 c2 : Nat) (ga gb gr : Nat → E4) (x : World) (hT : Tb x) (ha : (⟨none, 0, 0, ga⟩ : Sl).at x) (hb : (⟨P1, 0, c1, gb⟩ : Sl).at x) (hr : (⟨P2, L2, c2, gr⟩ : Sl).at x)  (h2 : L2 ≤ 4398046511104) :
  Calls Tryz.prog 3 #[.slice none 0 0, .slice P1 0 c1, .slice P2 L2 c2] x fun e w' => GsP x e w' := by
 have HA := Hn (And.intro (ha.cut (show 0 ≤ 0 by omega) 0) (And.intro (hb.cut (show 0 ≤ 0 by omega) c1) hr))
 have HN := Hn (show 0 ≤ 40 by omega)
 have H2 := Hn h2
 have HT := Hn hT
 have C0 := Hn (live_any x hT)
 clear ha hb hr hT h2
 go_enter Tryz.func3, Tryz.ntmps3
 go_upto_region 8 with (go_at_call 9; refine C0.out.mono ?_; rintro e w1 ⟨rfl, hb⟩; have B1 := Hn hb; clear hb C0)
 have CP := Hn ((permuted_any ⟨none, 0, 0, ga⟩ ⟨P1, 0, c1, gb⟩ w1 (HA.out.1.keep B1.out) (HA.out.2.1.keep B1.out) HN.out rfl).mono (fun e w' k => PeP.b k))
 go_upto_region 11 with (go_at_call 10; refine CP.out.mono ?_; rintro e w2 ⟨pv, rfl, hb, hpv⟩; have B2 := Hn (bl_trans B1.out hb); have PV := Hn hpv; clear hb hpv CP)
 go_loopw [8, 9] (fun sv iv w' => ∃ (i : Nat) (R : List Int), i ≤ L2 ∧ i ≤ 64 ∧ iv = .int .i64 (i : Int) ∧ sv = .int .i64 (R.length : Int) ∧ Hid (Below x.heap.size x w' ∧ Sd (0) ga gb gr i R)) (fun _ iv _ => L2 - (intOf iv).toNat)
 case atStart => exact ⟨0, [], by omega, by omega, rfl, rfl, Hn ⟨B2.out, ⟨List.Pairwise.nil, fun a ha => (by cases ha), fun a ha => (by cases ha), by simp⟩⟩⟩
 case round =>
  clear B1 B2
  obtain ⟨i, R, hi, hi6, rfl, rfl, HV⟩ := hrel
  have RL := HV.out.2.l
  generalize hrl : R.length = rl at *
  have HRL := Hn hrl
  clear hrl
  by_cases hin : i < L2
  ·have i1 : (i : Int) < (L2 : Int) := by omega
   have i0 : (0 : Int) ≤ (i : Int) := by omega
   by_cases hi64 : i < 64
   ·have i6 : (i : Int) < 64 := by omega
    have w9 : IntKind.i64.wrap ((i : Int) + 1) = (i : Int) + 1 := IntWalk.i64_in _ (by omega)
    have w7 : IntKind.i64.wrap ((rl : Int) + 1) = (rl : Int) + 1 := IntWalk.i64_in _ (by omega)
    obtain ⟨rb, ro, hxp, RA⟩ := HA.out.2.2.row (show 0 < L2 by omega)
    simp only at hxp
    subst hxp
    have ZA := Hn RA
    have OK := Hn (fun j (hj : j < L2) => HA.out.2.2.ok j hj)
    clear RA
    go_upto_region 15 with fail
    all_goals (
     go_loopw [10, 11] (fun av jv w' => ∃ (j : Nat) (b : Bool), j ≤ i ∧ jv = .int .i64 (j : Int) ∧ av = .bool b ∧ Hid (Below x.heap.size x w' ∧ (b = true ↔ ∃ k, k < j ∧ (Lp : Int) ∣ (gr i).n - (gr k).n))) (fun _ jv _ => i - (intOf jv).toNat)
     case atStart => exact ⟨0, false, by omega, rfl, rfl, Hn ⟨HV.out.1, ⟨fun h => (by cases h), fun h => by obtain ⟨k, hk, _⟩ := h; omega⟩⟩⟩
     case round =>
      obtain ⟨j, b, hj, rfl, rfl, HI⟩ := hrel
      by_cases hji : j < i
      ·have j1 : (j : Int) < (i : Int) := by omega
       have j0 : (0 : Int) ≤ (j : Int) := by omega
       have j2 : (j : Int) < (L2 : Int) := by omega
       have w8 : IntKind.i64.wrap ((j : Int) + 1) = (j : Int) + 1 := IntWalk.i64_in _ (by omega)
       go_upto_region 17 with fail
       cases b with
       | true =>
        refine gs17a _ _ _ _ _ _ _ _ _ _ _ _ _ _ _ _ _ _ _ _ _ _ _ _ _ _ _ _ _ _ _ _ _ _ _ _ _ _ _ _ _ _ _ _ _ _ _ _ _ _ _ _ _ _ _ _ _ _ _ _ _ _ _ _ _ _ _ _ _ _ _ _ _ _ _ _ _ _ _ _ _ _ _ _ _ _ _ _ _ _ _ _ _ _ _ _ _ _ _ _ (Hn ?_)
        intro wz hbz
        have BZ := Hn hbz
        clear hbz
        go_wp2_with fail
        go_roundw
        case rel => exact ⟨j + 1, true, by omega, by go_num, rfl, Hn ⟨bl_trans HI.out.1 BZ.out, ⟨fun _ => by obtain ⟨k, h1, h2⟩ := HI.out.2.1 rfl; exact ⟨k, by omega, h2⟩, fun _ => rfl⟩⟩⟩
        case measure => simp [intOf]; omega
       | false =>
        obtain ⟨ev, hev⟩ : ∃ ev, (lst (gr j).n).same (lst (gr i).n) = ev := ⟨_, rfl⟩
        refine gs17b _ L2 j i rb ro c2 (gr j) (gr i) (lst (gr j).n) (lst (gr i).n) ev _ _ _ _ _ _ _ _ _ _ _ _ _ _ _ _ _ _ _ _ _ _ _ _ _ _ _ _ _ _ _ _ _ _ _ _ _ _ _ _ _ _ _ _ _ _ _ _ _ _ _ _ _ _ _ _ _ _ _ _ _ _ _ _ _ _ _ _ _ _ _ _ _ _ _ _ _ _ _ _ _ _ _ _ _ _ _ _ _ _ _ _ _ _ _ _ i0 i1 j0 j2 (bl_cellO HI.out.1 (ZA.out.c0 j (by omega))) (bl_cellO HI.out.1 (ZA.out.c1 j (by omega))) (bl_cellO HI.out.1 (ZA.out.c2 j (by omega))) (bl_cellO HI.out.1 (ZA.out.c3 j (by omega))) (bl_cellO HI.out.1 (ZA.out.c0 i hin)) (bl_cellO HI.out.1 (ZA.out.c1 i hin)) (bl_cellO HI.out.1 (ZA.out.c2 i hin)) (bl_cellO HI.out.1 (ZA.out.c3 i hin)) (Hn (fun y => by have h9 := requal (lst (gr j).n) (lst (gr i).n) y; rw [hev] at h9; exact h9)) (Hn (fun y => by have c := fix (R := lst (gr j).n) (rleast_any (gr j) y (OK.out j (by omega))) rfl; simp only [E4.v] at c; exact c)) (Hn (fun y => by have c := fix (R := lst (gr i).n) (rleast_any (gr i) y (OK.out i hin)) rfl; simp only [E4.v] at c; exact c)) (Hn ?_)
        intro wz hbz
        have BZ := Hn hbz
        have EV := Hn (same_lst (gr j).n (gr i).n)
        rw [hev] at EV
        clear hbz hev
        go_wp2_with fail
        go_roundw
        case rel => exact ⟨j + 1, ev, by omega, by go_num, rfl, Hn ⟨bl_trans HI.out.1 BZ.out, ⟨fun h => ⟨j, by omega, EV.out.1 h⟩, fun h => by
         obtain ⟨k, h1, h2⟩ := h
         by_cases e : k = j
         ·subst e; exact EV.out.2 h2
         ·have h9 := HI.out.2.2 ⟨k, by omega, h2⟩
          cases h9⟩⟩⟩
        case measure => simp [intOf]; omega
      ·obtain rfl : j = i := by omega
       have lq : ¬ (j : Int) < (j : Int) := by omega
       have a0 := bl_cellO HI.out.1 (ZA.out.c0 j hin)
       have a1 := bl_cellO HI.out.1 (ZA.out.c1 j hin)
       have a2 := bl_cellO HI.out.1 (ZA.out.c2 j hin)
       have a3 := bl_cellO HI.out.1 (ZA.out.c3 j hin)
       obtain ⟨t, ht, ct⟩ := shuffled_any ⟨none, 0, 0, ga⟩ ⟨P1, 0, c1, gb⟩ _ (HA.out.1.keep HI.out.1) (HA.out.2.1.keep HI.out.1) (HT.out.keep HI.out.1) HN.out rfl (gr j) (OK.out j hin)
       simp only at ct ht
       have CT := Hn ct
       have TT := Hn ht
       have KEY : pv = true → t = true := fun h => ht.2 (PV.out.1 h _)
       clear ct ht
       cases pv with
       | true =>
        cases t with
        | false => exact absurd (KEY rfl) (by simp)
        | true =>
         cases b with
         | false =>
          go_wp2_with (go_at_call 12; refine CT.out.mono ?_; rintro e w5 ⟨rfl, hb⟩; have B5 := Hn hb; clear hb CT)
          go_roundw
          case rel => exact ⟨j + 1, (gr j).n :: R, by omega, by omega, by go_num, by rw [List.length_cons, HRL.out]; congr 1, Hn ⟨bl_trans HI.out.1 B5.out, HV.out.2.put (TT.out.1 (by simp)) (fun h => absurd (HI.out.2.2 h) (by simp))⟩⟩
          case measure => simp [intOf]; omega
         | true =>
          go_wp2_with (go_at_call 12; refine CT.out.mono ?_; rintro e w5 ⟨rfl, hb⟩; have B5 := Hn hb; clear hb CT)
          go_roundw
          case rel => exact ⟨j + 1, R, by omega, by omega, by go_num, by rw [HRL.out], Hn ⟨bl_trans HI.out.1 B5.out, HV.out.2.skip⟩⟩
          case measure => simp [intOf]; omega
       | false =>
        cases t with
        | false =>
         cases b with
         | false =>
          go_wp2_with (go_at_call 12; refine CT.out.mono ?_; rintro e w5 ⟨rfl, hb⟩; have B5 := Hn hb; clear hb CT)
          go_roundw
          case rel => exact ⟨j + 1, R, by omega, by omega, by go_num, by rw [HRL.out], Hn ⟨bl_trans HI.out.1 B5.out, HV.out.2.skip⟩⟩
          case measure => simp [intOf]; omega
         | true =>
          go_wp2_with (go_at_call 12; refine CT.out.mono ?_; rintro e w5 ⟨rfl, hb⟩; have B5 := Hn hb; clear hb CT)
          go_roundw
          case rel => exact ⟨j + 1, R, by omega, by omega, by go_num, by rw [HRL.out], Hn ⟨bl_trans HI.out.1 B5.out, HV.out.2.skip⟩⟩
          case measure => simp [intOf]; omega
        | true =>
         cases b with
         | false =>
          go_wp2_with (go_at_call 12; refine CT.out.mono ?_; rintro e w5 ⟨rfl, hb⟩; have B5 := Hn hb; clear hb CT)
          go_roundw
          case rel => exact ⟨j + 1, (gr j).n :: R, by omega, by omega, by go_num, by rw [List.length_cons, HRL.out]; congr 1, Hn ⟨bl_trans HI.out.1 B5.out, HV.out.2.put (TT.out.1 (by simp)) (fun h => absurd (HI.out.2.2 h) (by simp))⟩⟩
          case measure => simp [intOf]; omega
         | true =>
          go_wp2_with (go_at_call 12; refine CT.out.mono ?_; rintro e w5 ⟨rfl, hb⟩; have B5 := Hn hb; clear hb CT)
          go_roundw
          case rel => exact ⟨j + 1, R, by omega, by omega, by go_num, by rw [HRL.out], Hn ⟨bl_trans HI.out.1 B5.out, HV.out.2.skip⟩⟩
          case measure => simp [intOf]; omega
    )
   ·have i6 : ¬ (i : Int) < 64 := by omega
    cases pv with
    | true =>
     go_wp2_with fail
     exact bodyPost_ret (v := .bool true) (by simp [results, Tryz.results3, go_sem]) rfl ⟨rfl, HV.out.1⟩
    | false =>
     have few := HV.out.2.few (fun h => by have h9 := PV.out.2 h; cases h9)
     rw [HRL.out] at few
     have fz : (rl : Int) < ((0 : Nat) : Int) := Int.ofNat_lt.2 few
     have fz2 : (rl : Int) < 0 := by omega
     go_wp2_with fail
     exact bodyPost_ret (v := .bool true) (by simp [results, Tryz.results3, go_sem]) rfl ⟨rfl, HV.out.1⟩
  ·have i1 : ¬ (i : Int) < (L2 : Int) := by omega
   cases pv with
   | true =>
    go_wp2_with fail
    exact bodyPost_ret (v := .bool true) (by simp [results, Tryz.results3, go_sem]) rfl ⟨rfl, HV.out.1⟩
   | false =>
    have few := HV.out.2.few (fun h => by have h9 := PV.out.2 h; cases h9)
    rw [HRL.out] at few
    have fz : (rl : Int) < ((0 : Nat) : Int) := Int.ofNat_lt.2 few
    have fz2 : (rl : Int) < 0 := by omega
    go_wp2_with fail
    exact bodyPost_ret (v := .bool true) (by simp [results, Tryz.results3, go_sem]) rfl ⟨rfl, HV.out.1⟩
theorem law_f  (p1 : Addr) (P2 : Option Addr) ( L1 c1 L2 c2 : Nat) (ga gb gr : Nat → E4) (x : World) (hT : Tb x) (ha : (⟨none, 0, 0, ga⟩ : Sl).at x) (hb : (⟨(some p1), L1, c1, gb⟩ : Sl).at x) (hr : (⟨P2, L2, c2, gr⟩ : Sl).at x) (hy : 0 < L1) (hc1 : L1 ≤ c1) (h2 : L2 ≤ 4398046511104) :
  Calls Tryz.prog 3 #[.slice none 0 0, .slice (some p1) L1 c1, .slice P2 L2 c2] x fun e w' => GsP x e w' := by
 have HA := Hn (And.intro (ha.cut (show 0 ≤ 0 by omega) 0) (And.intro (hb.cut (show 0 ≤ L1 by omega) c1) hr))
 have HN := Hn (show 0 ≤ 40 by omega)
 have H2 := Hn h2
 have HT := Hn hT
 have C0 := Hn (live_any x hT)
 clear ha hb hr hT h2
 go_enter Tryz.func3, Tryz.ntmps3
 go_upto_region 8 with (go_at_call 9; refine C0.out.mono ?_; rintro e w1 ⟨rfl, hb⟩; have B1 := Hn hb; clear hb C0)
 have CP := Hn ((permuted_any ⟨none, 0, 0, ga⟩ ⟨(some p1), 0, c1, gb⟩ w1 (HA.out.1.keep B1.out) (HA.out.2.1.keep B1.out) HN.out rfl).mono (fun e w' k => PeP.b k))
 go_upto_region 11 with (go_at_call 10; refine CP.out.mono ?_; rintro e w2 ⟨pv, rfl, hb, hpv⟩; have B2 := Hn (bl_trans B1.out hb); have PV := Hn hpv; clear hb hpv CP)
 go_loopw [8, 9] (fun sv iv w' => ∃ (i : Nat) (R : List Int), i ≤ L2 ∧ i ≤ 64 ∧ iv = .int .i64 (i : Int) ∧ sv = .int .i64 (R.length : Int) ∧ Hid (Below x.heap.size x w' ∧ Sd (0) ga gb gr i R)) (fun _ iv _ => L2 - (intOf iv).toNat)
 case atStart => exact ⟨0, [], by omega, by omega, rfl, rfl, Hn ⟨B2.out, ⟨List.Pairwise.nil, fun a ha => (by cases ha), fun a ha => (by cases ha), by simp⟩⟩⟩
 case round =>
  clear B1 B2
  obtain ⟨i, R, hi, hi6, rfl, rfl, HV⟩ := hrel
  have RL := HV.out.2.l
  generalize hrl : R.length = rl at *
  have HRL := Hn hrl
  clear hrl
  by_cases hin : i < L2
  ·have i1 : (i : Int) < (L2 : Int) := by omega
   have i0 : (0 : Int) ≤ (i : Int) := by omega
   by_cases hi64 : i < 64
   ·have i6 : (i : Int) < 64 := by omega
    have w9 : IntKind.i64.wrap ((i : Int) + 1) = (i : Int) + 1 := IntWalk.i64_in _ (by omega)
    have w7 : IntKind.i64.wrap ((rl : Int) + 1) = (rl : Int) + 1 := IntWalk.i64_in _ (by omega)
    obtain ⟨rb, ro, hxp, RA⟩ := HA.out.2.2.row (show 0 < L2 by omega)
    simp only at hxp
    subst hxp
    have ZA := Hn RA
    have OK := Hn (fun j (hj : j < L2) => HA.out.2.2.ok j hj)
    clear RA
    go_upto_region 15 with fail
    all_goals (
     go_loopw [10, 11] (fun av jv w' => ∃ (j : Nat) (b : Bool), j ≤ i ∧ jv = .int .i64 (j : Int) ∧ av = .bool b ∧ Hid (Below x.heap.size x w' ∧ (b = true ↔ ∃ k, k < j ∧ (Lp : Int) ∣ (gr i).n - (gr k).n))) (fun _ jv _ => i - (intOf jv).toNat)
     case atStart => exact ⟨0, false, by omega, rfl, rfl, Hn ⟨HV.out.1, ⟨fun h => (by cases h), fun h => by obtain ⟨k, hk, _⟩ := h; omega⟩⟩⟩
     case round =>
      obtain ⟨j, b, hj, rfl, rfl, HI⟩ := hrel
      by_cases hji : j < i
      ·have j1 : (j : Int) < (i : Int) := by omega
       have j0 : (0 : Int) ≤ (j : Int) := by omega
       have j2 : (j : Int) < (L2 : Int) := by omega
       have w8 : IntKind.i64.wrap ((j : Int) + 1) = (j : Int) + 1 := IntWalk.i64_in _ (by omega)
       go_upto_region 17 with fail
       cases b with
       | true =>
        refine gs17a _ _ _ _ _ _ _ _ _ _ _ _ _ _ _ _ _ _ _ _ _ _ _ _ _ _ _ _ _ _ _ _ _ _ _ _ _ _ _ _ _ _ _ _ _ _ _ _ _ _ _ _ _ _ _ _ _ _ _ _ _ _ _ _ _ _ _ _ _ _ _ _ _ _ _ _ _ _ _ _ _ _ _ _ _ _ _ _ _ _ _ _ _ _ _ _ _ _ _ _ (Hn ?_)
        intro wz hbz
        have BZ := Hn hbz
        clear hbz
        go_wp2_with fail
        go_roundw
        case rel => exact ⟨j + 1, true, by omega, by go_num, rfl, Hn ⟨bl_trans HI.out.1 BZ.out, ⟨fun _ => by obtain ⟨k, h1, h2⟩ := HI.out.2.1 rfl; exact ⟨k, by omega, h2⟩, fun _ => rfl⟩⟩⟩
        case measure => simp [intOf]; omega
       | false =>
        obtain ⟨ev, hev⟩ : ∃ ev, (lst (gr j).n).same (lst (gr i).n) = ev := ⟨_, rfl⟩
        refine gs17b _ L2 j i rb ro c2 (gr j) (gr i) (lst (gr j).n) (lst (gr i).n) ev _ _ _ _ _ _ _ _ _ _ _ _ _ _ _ _ _ _ _ _ _ _ _ _ _ _ _ _ _ _ _ _ _ _ _ _ _ _ _ _ _ _ _ _ _ _ _ _ _ _ _ _ _ _ _ _ _ _ _ _ _ _ _ _ _ _ _ _ _ _ _ _ _ _ _ _ _ _ _ _ _ _ _ _ _ _ _ _ _ _ _ _ _ _ _ _ i0 i1 j0 j2 (bl_cellO HI.out.1 (ZA.out.c0 j (by omega))) (bl_cellO HI.out.1 (ZA.out.c1 j (by omega))) (bl_cellO HI.out.1 (ZA.out.c2 j (by omega))) (bl_cellO HI.out.1 (ZA.out.c3 j (by omega))) (bl_cellO HI.out.1 (ZA.out.c0 i hin)) (bl_cellO HI.out.1 (ZA.out.c1 i hin)) (bl_cellO HI.out.1 (ZA.out.c2 i hin)) (bl_cellO HI.out.1 (ZA.out.c3 i hin)) (Hn (fun y => by have h9 := requal (lst (gr j).n) (lst (gr i).n) y; rw [hev] at h9; exact h9)) (Hn (fun y => by have c := fix (R := lst (gr j).n) (rleast_any (gr j) y (OK.out j (by omega))) rfl; simp only [E4.v] at c; exact c)) (Hn (fun y => by have c := fix (R := lst (gr i).n) (rleast_any (gr i) y (OK.out i hin)) rfl; simp only [E4.v] at c; exact c)) (Hn ?_)
        intro wz hbz
        have BZ := Hn hbz
        have EV := Hn (same_lst (gr j).n (gr i).n)
        rw [hev] at EV
        clear hbz hev
        go_wp2_with fail
        go_roundw
        case rel => exact ⟨j + 1, ev, by omega, by go_num, rfl, Hn ⟨bl_trans HI.out.1 BZ.out, ⟨fun h => ⟨j, by omega, EV.out.1 h⟩, fun h => by
         obtain ⟨k, h1, h2⟩ := h
         by_cases e : k = j
         ·subst e; exact EV.out.2 h2
         ·have h9 := HI.out.2.2 ⟨k, by omega, h2⟩
          cases h9⟩⟩⟩
        case measure => simp [intOf]; omega
      ·obtain rfl : j = i := by omega
       have lq : ¬ (j : Int) < (j : Int) := by omega
       have a0 := bl_cellO HI.out.1 (ZA.out.c0 j hin)
       have a1 := bl_cellO HI.out.1 (ZA.out.c1 j hin)
       have a2 := bl_cellO HI.out.1 (ZA.out.c2 j hin)
       have a3 := bl_cellO HI.out.1 (ZA.out.c3 j hin)
       obtain ⟨t, ht, ct⟩ := shuffled_any ⟨none, 0, 0, ga⟩ ⟨(some p1), 0, c1, gb⟩ _ (HA.out.1.keep HI.out.1) (HA.out.2.1.keep HI.out.1) (HT.out.keep HI.out.1) HN.out rfl (gr j) (OK.out j hin)
       simp only at ct ht
       have CT := Hn ct
       have TT := Hn ht
       have KEY : pv = true → t = true := fun h => ht.2 (PV.out.1 h _)
       clear ct ht
       cases pv with
       | true =>
        cases t with
        | false => exact absurd (KEY rfl) (by simp)
        | true =>
         cases b with
         | false =>
          go_wp2_with (go_at_call 12; refine CT.out.mono ?_; rintro e w5 ⟨rfl, hb⟩; have B5 := Hn hb; clear hb CT)
          go_roundw
          case rel => exact ⟨j + 1, (gr j).n :: R, by omega, by omega, by go_num, by rw [List.length_cons, HRL.out]; congr 1, Hn ⟨bl_trans HI.out.1 B5.out, HV.out.2.put (TT.out.1 (by simp)) (fun h => absurd (HI.out.2.2 h) (by simp))⟩⟩
          case measure => simp [intOf]; omega
         | true =>
          go_wp2_with (go_at_call 12; refine CT.out.mono ?_; rintro e w5 ⟨rfl, hb⟩; have B5 := Hn hb; clear hb CT)
          go_roundw
          case rel => exact ⟨j + 1, R, by omega, by omega, by go_num, by rw [HRL.out], Hn ⟨bl_trans HI.out.1 B5.out, HV.out.2.skip⟩⟩
          case measure => simp [intOf]; omega
       | false =>
        cases t with
        | false =>
         cases b with
         | false =>
          go_wp2_with (go_at_call 12; refine CT.out.mono ?_; rintro e w5 ⟨rfl, hb⟩; have B5 := Hn hb; clear hb CT)
          go_roundw
          case rel => exact ⟨j + 1, R, by omega, by omega, by go_num, by rw [HRL.out], Hn ⟨bl_trans HI.out.1 B5.out, HV.out.2.skip⟩⟩
          case measure => simp [intOf]; omega
         | true =>
          go_wp2_with (go_at_call 12; refine CT.out.mono ?_; rintro e w5 ⟨rfl, hb⟩; have B5 := Hn hb; clear hb CT)
          go_roundw
          case rel => exact ⟨j + 1, R, by omega, by omega, by go_num, by rw [HRL.out], Hn ⟨bl_trans HI.out.1 B5.out, HV.out.2.skip⟩⟩
          case measure => simp [intOf]; omega
        | true =>
         cases b with
         | false =>
          go_wp2_with (go_at_call 12; refine CT.out.mono ?_; rintro e w5 ⟨rfl, hb⟩; have B5 := Hn hb; clear hb CT)
          go_roundw
          case rel => exact ⟨j + 1, (gr j).n :: R, by omega, by omega, by go_num, by rw [List.length_cons, HRL.out]; congr 1, Hn ⟨bl_trans HI.out.1 B5.out, HV.out.2.put (TT.out.1 (by simp)) (fun h => absurd (HI.out.2.2 h) (by simp))⟩⟩
          case measure => simp [intOf]; omega
         | true =>
          go_wp2_with (go_at_call 12; refine CT.out.mono ?_; rintro e w5 ⟨rfl, hb⟩; have B5 := Hn hb; clear hb CT)
          go_roundw
          case rel => exact ⟨j + 1, R, by omega, by omega, by go_num, by rw [HRL.out], Hn ⟨bl_trans HI.out.1 B5.out, HV.out.2.skip⟩⟩
          case measure => simp [intOf]; omega
    )
   ·have i6 : ¬ (i : Int) < 64 := by omega
    cases pv with
    | true =>
     go_wp2_with fail
     exact bodyPost_ret (v := .bool true) (by simp [results, Tryz.results3, go_sem]) rfl ⟨rfl, HV.out.1⟩
    | false =>
     have few := HV.out.2.few (fun h => by have h9 := PV.out.2 h; cases h9)
     rw [HRL.out] at few
     have fz : (rl : Int) < ((0 : Nat) : Int) := Int.ofNat_lt.2 few
     have fz2 : (rl : Int) < 0 := by omega
     go_wp2_with fail
     exact bodyPost_ret (v := .bool true) (by simp [results, Tryz.results3, go_sem]) rfl ⟨rfl, HV.out.1⟩
  ·have i1 : ¬ (i : Int) < (L2 : Int) := by omega
   cases pv with
   | true =>
    go_wp2_with fail
    exact bodyPost_ret (v := .bool true) (by simp [results, Tryz.results3, go_sem]) rfl ⟨rfl, HV.out.1⟩
   | false =>
    have few := HV.out.2.few (fun h => by have h9 := PV.out.2 h; cases h9)
    rw [HRL.out] at few
    have fz : (rl : Int) < ((0 : Nat) : Int) := Int.ofNat_lt.2 few
    have fz2 : (rl : Int) < 0 := by omega
    go_wp2_with fail
    exact bodyPost_ret (v := .bool true) (by simp [results, Tryz.results3, go_sem]) rfl ⟨rfl, HV.out.1⟩
end Ci
end Go.Proofs.YtljmgfclhbadjaaGreatDoor
