import Derived.Test.YtnbcfchbhappeaaDoorSiz
import Derived.Test.YtnbcfchbhappeaaDoorFiz
import Derived.Test.YtnbcfchbhappeaaDoorAsd
import Derived.Test.YtnbcfchbhappeaaDoorAev
import Derived.Maps.AppendAt
import Derived.Laws.AppendOwn
import Derived.Deep.RegionHeld3
import Derived.Deep.DeepCutAuto
import Derived.Deep.DeepMust
namespace Go.Proofs.YtnbcfchbhappeaaDoor
open Go.RowKit
/-- elements that lie in a block -/
def C4 (w : World) (b n : Nat) (g : Nat → E4) : Prop := ∀ k, k < n → w.cell? ⟨b, k * 4, none⟩ = some (.int .u64 (g k).x0) ∧ w.cell? ⟨b, k * 4 + 1, none⟩ = some (.int .u64 (g k).x1) ∧ w.cell? ⟨b, k * 4 + 2, none⟩ = some (.int .u64 (g k).x2) ∧ w.cell? ⟨b, k * 4 + 3, none⟩ = some (.int .u64 (g k).x3)
theorem C4.keep {w w' : World} {b n : Nat} {g : Nat → E4} (h : C4 w b n g) (hb : Below w.heap.size w w') : C4 w' b n g := fun k hk => ⟨Al.cell_keep (h k hk).1 hb, Al.cell_keep (h k hk).2.1 hb, Al.cell_keep (h k hk).2.2.1 hb, Al.cell_keep (h k hk).2.2.2 hb⟩
theorem C4.of {w : World} {b n m : Nat} {g q : Nat → E4} (h : Rq w b m q) (hm : n ≤ m) (e : ∀ k, k < n → q k = g k) : C4 w b n g := fun k hk => by
  rw [← e k hk]
  exact ⟨h.c0 k (by omega), h.c1 k (by omega), h.c2 k (by omega), h.c3 k (by omega)⟩
/-- elements that lie in a block -/
def C5 (w : World) (b n : Nat) (g : Nat → Fe.E5) : Prop := ∀ k, k < n → w.cell? ⟨b, k * 5, none⟩ = some (.int .u64 (g k).x0) ∧ w.cell? ⟨b, k * 5 + 1, none⟩ = some (.int .u64 (g k).x1) ∧ w.cell? ⟨b, k * 5 + 2, none⟩ = some (.int .u64 (g k).x2) ∧ w.cell? ⟨b, k * 5 + 3, none⟩ = some (.int .u64 (g k).x3) ∧ w.cell? ⟨b, k * 5 + 4, none⟩ = some (.int .u64 (g k).x4)
theorem C5.keep {w w' : World} {b n : Nat} {g : Nat → Fe.E5} (h : C5 w b n g) (hb : Below w.heap.size w w') : C5 w' b n g := fun k hk => ⟨Al.cell_keep (h k hk).1 hb, Al.cell_keep (h k hk).2.1 hb, Al.cell_keep (h k hk).2.2.1 hb, Al.cell_keep (h k hk).2.2.2.1 hb, Al.cell_keep (h k hk).2.2.2.2 hb⟩
theorem C5.of {w : World} {b n m : Nat} {g q : Nat → Fe.E5} (h : Fe.Rq w b m q) (hm : n ≤ m) (e : ∀ k, k < n → q k = g k) : C5 w b n g := fun k hk => by
  rw [← e k hk]
  exact ⟨h.c0 k (by omega), h.c1 k (by omega), h.c2 k (by omega), h.c3 k (by omega), h.c4 k (by omega)⟩
/-- the cells of field elements, one behind the other -/
def evl (g : Nat → Fe.E5) (n : Nat) : List Value := (List.range n).flatMap fun k => [.int .u64 (g k).x0, .int .u64 (g k).x1, .int .u64 (g k).x2, .int .u64 (g k).x3, .int .u64 (g k).x4]
theorem evl_succ (g : Nat → Fe.E5) (n : Nat) : evl g (n + 1) = evl g n ++ [.int .u64 (g n).x0, .int .u64 (g n).x1, .int .u64 (g n).x2, .int .u64 (g n).x3, .int .u64 (g n).x4] := by simp [evl, List.range_succ]
theorem evl_len (g : Nat → Fe.E5) (n : Nat) : (evl g n).length = n * 5 := by
  induction n with
  | zero => rfl
  | succ n ih => rw [evl_succ, List.length_append, ih]; simp; omega
theorem evl_congr {g h : Nat → Fe.E5} {n : Nat} (e : ∀ k, k < n → g k = h k) : evl g n = evl h n := by
  induction n with
  | zero => rfl
  | succ n ih => rw [evl_succ, evl_succ, ih (fun k hk => e k (by omega)), e n (by omega)]
theorem evl_at (g : Nat → Fe.E5) : ∀ (n k : Nat), k < n → (evl g n)[k * 5]? = some (.int .u64 (g k).x0) ∧ (evl g n)[k * 5 + 1]? = some (.int .u64 (g k).x1) ∧ (evl g n)[k * 5 + 2]? = some (.int .u64 (g k).x2) ∧ (evl g n)[k * 5 + 3]? = some (.int .u64 (g k).x3) ∧ (evl g n)[k * 5 + 4]? = some (.int .u64 (g k).x4) := by
  intro n
  induction n with
  | zero => intro k hk; omega
  | succ n ih =>
    intro k hk
    rw [evl_succ]
    by_cases hkn : k < n
    · rw [List.getElem?_append_left (by rw [evl_len]; omega), List.getElem?_append_left (by rw [evl_len]; omega), List.getElem?_append_left (by rw [evl_len]; omega), List.getElem?_append_left (by rw [evl_len]; omega), List.getElem?_append_left (by rw [evl_len]; omega)]
      exact ih k hkn
    · obtain rfl : k = n := by omega
      rw [List.getElem?_append_right (by rw [evl_len]; omega), List.getElem?_append_right (by rw [evl_len]; omega), List.getElem?_append_right (by rw [evl_len]; omega), List.getElem?_append_right (by rw [evl_len]; omega), List.getElem?_append_right (by rw [evl_len]; omega), evl_len]
      simp
theorem own5 {w : World} {base : Nat} {e : TypeId} {v : Value} {n : Nat} {g : Nat → Fe.E5} (how : w.ownsRow base e 5 v n (evl g n)) : ∃ (P : Option Addr) (G c : Nat), v = .slice P n c ∧ n ≤ c ∧ (0 < n → P = some ⟨G, 0, none⟩) ∧ C5 w G n g := by
  rcases how.2 with ⟨rfl, h0⟩ | ⟨b, cap, cur, rfl, hg, _, hnc, _, _, _⟩
  · exact ⟨none, 0, 0, by rw [h0], by omega, fun h => by omega, fun k hk => by omega⟩
  · refine ⟨_, b, cap, rfl, hnc, fun _ => rfl, fun k hk => ?_⟩
    rw [how.cellAt (k * 5) (by omega), how.cellAt (k * 5 + 1) (by omega), how.cellAt (k * 5 + 2) (by omega), how.cellAt (k * 5 + 3) (by omega), how.cellAt (k * 5 + 4) (by omega)]
    exact evl_at g n k hk
theorem own5_keep {w w' : World} {base : Nat} {e : TypeId} {v : Value} {n : Nat} {xs : List Value} (h : w.ownsRow base e 5 v n xs) (hb : Below w.heap.size w w') : w'.ownsRow base e 5 v n xs := by
  refine ⟨h.1, ?_⟩
  rcases h.2 with hn | ⟨g, cap, cur, hv, h0, hg, rest⟩
  · exact .inl hn
  · have hl : g < w.heap.size := (h.lt g (by rw [hv]; rfl)).2
    exact .inr ⟨g, cap, cur, hv, h0, by rw [hb.block g hl]; exact hg, rest⟩
theorem eleminfo : (Tryd.prog.info? 31).map (fun i => (i.zero, i.size, i.bytes)) = some (some (.agg #[.int .u64 0, .int .u64 0, .int .u64 0, .int .u64 0, .int .u64 0]), 5, 40) := by kernel_rfl
/-- limbs that lie from an address on -/
def L5 (w : World) (P : Option Addr) (n : Nat) (g : Nat → Fe.E5) : Prop := ∃ sb so : Nat, (0 < n → P = some ⟨sb, so, none⟩) ∧ ∀ k, k < n → w.cell? ⟨sb, so + k * 5, none⟩ = some (.int .u64 (g k).x0) ∧ w.cell? ⟨sb, so + k * 5 + 1, none⟩ = some (.int .u64 (g k).x1) ∧ w.cell? ⟨sb, so + k * 5 + 2, none⟩ = some (.int .u64 (g k).x2) ∧ w.cell? ⟨sb, so + k * 5 + 3, none⟩ = some (.int .u64 (g k).x3) ∧ w.cell? ⟨sb, so + k * 5 + 4, none⟩ = some (.int .u64 (g k).x4)
theorem L5.keep {w w' : World} {P : Option Addr} {n : Nat} {g : Nat → Fe.E5} (h : L5 w P n g) (hb : Below w.heap.size w w') : L5 w' P n g := by
  obtain ⟨sb, so, h1, h2⟩ := h
  exact ⟨sb, so, h1, fun k hk => ⟨Al.cell_keep (h2 k hk).1 hb, Al.cell_keep (h2 k hk).2.1 hb, Al.cell_keep (h2 k hk).2.2.1 hb, Al.cell_keep (h2 k hk).2.2.2.1 hb, Al.cell_keep (h2 k hk).2.2.2.2 hb⟩⟩
/-- the one inverse -/
theorem one_inv {m y r v : Int} (hz : Al.Mx.C m y 0 → Al.Mx.C m r 0) (hn : ¬ Al.Mx.C m y 0 → Al.Mx.C m (y * r) 1) (vz : Al.Mx.C m y 0 → Al.Mx.C m v 0) (vn : ¬ Al.Mx.C m y 0 → Al.Mx.C m (y * v) 1) : Al.Mx.C m r v := by
  by_cases h : Al.Mx.C m y 0
  · exact (hz h).trans (vz h).symm
  · have a := (Al.Mx.C.rfl (x := r)).mul (vn h)
    have b := (hn h).mul (Al.Mx.C.rfl (x := v))
    exact (Al.Mx.C.of_eq (Int.mul_one r).symm).trans (a.symm.trans ((Al.Mx.C.of_eq (by rw [← Int.mul_assoc, Int.mul_comm r y])).trans (b.trans (Al.Mx.C.of_eq (Int.one_mul v)))))
theorem s_iff {m y r : Int} (pm : Al.Mx.Pm m) (hz : Al.Mx.C m y 0 → Al.Mx.C m r 0) (hn : ¬ Al.Mx.C m y 0 → Al.Mx.C m (y * r) 1) : (r % m = 0) = (y % m = 0) := by
  rw [← Al.c_zero, ← Al.c_zero]
  apply propext
  constructor
  · intro h
    by_cases g : Al.Mx.C m y 0
    · exact g
    · exact absurd ((hn g).symm.trans h.mulz) pm.one
  · exact hz
/-- what the law asks of one scalar -/
theorem sc_one (y : E4) (w : World) (T : Tb w) (yo : y.ok) : Calls Tryd.prog 10 #[.agg #[.int .u64 y.x0, .int .u64 y.x1, .int .u64 y.x2, .int .u64 y.x3]] w fun e w' => e = .returned (.agg #[.int .u64 (lst (y.n ^ 7237005577332262213973186563042994240857116359379907606001950938285454250987)).x0, .int .u64 (lst (y.n ^ 7237005577332262213973186563042994240857116359379907606001950938285454250987)).x1, .int .u64 (lst (y.n ^ 7237005577332262213973186563042994240857116359379907606001950938285454250987)).x2, .int .u64 (lst (y.n ^ 7237005577332262213973186563042994240857116359379907606001950938285454250987)).x3]) ∧ Below w.heap.size w w' := fix (Invert_any y w T yo) rfl
theorem sc_same {y r : E4} (hz : Al.Mx.C Sm.L y.n 0 → Al.Mx.C Sm.L r.n 0) (hn : ¬ Al.Mx.C Sm.L y.n 0 → Al.Mx.C Sm.L (y.n * r.n) 1) : (lst r.n).same (lst (lst (y.n ^ 7237005577332262213973186563042994240857116359379907606001950938285454250987)).n) = true := by
  rw [E4.same_iff, lst_n']
  refine lst_congr (one_inv hz hn (fun h => ?_) (fun h => ?_)).mod
  · have := congrArg E4.n (zero_pow_L y.n (Al.c_zero.1 h))
    rw [lst_n, lst_n] at this
    exact Al.Mx.C.of_mod this
  · exact Al.Mx.C.of_mod (by rw [inv_mul y.n (fun e => h (Al.c_zero.2 e))]; decide)
theorem sc_mul {y r : E4} (h : Al.Mx.C Sm.L (y.n * r.n) 1) : (lst (lst (r.n * y.n)).n).same (lst (lst 1).n) = true := by
  rw [E4.same_iff, lst_n', lst_n']
  exact lst_congr (by rw [Int.mul_comm]; exact h.mod)
theorem fe_same {y r : Fe.E5} (hz : Al.Mx.C Fm.P y.n 0 → Al.Mx.C Fm.P r.n 0) (hn : ¬ Al.Mx.C Fm.P y.n 0 → Al.Mx.C Fm.P (y.n * r.n) 1) : decide (r.n % Fm.P = (Fe.lst (y.n ^ 57896044618658097711785492504343953926634992332820282019728792003956564819947)).n % Fm.P) = true := by
  rw [decide_eq_true_iff, Fe.lst_n]
  refine ((one_inv hz hn (fun h => ?_) (fun h => ?_)).mod).trans (Int.emod_emod_of_dvd _ (Int.dvd_refl _)).symm
  · have := congrArg Fe.E5.n (Fe.zero_pow_P y.n (Al.c_zero.1 h))
    rw [Fe.lst_n, Fe.lst_n] at this
    exact Al.Mx.C.of_mod this
  · exact Al.Mx.C.of_mod (by rw [Fe.inv_mul y.n (fun e => h (Al.c_zero.2 e))]; decide)
theorem fe_mul {y r : Fe.E5} (h : Al.Mx.C Fm.P (y.n * r.n) 1) : decide ((Fe.lst (r.n * y.n)).n % Fm.P = (Fe.lst 1).n % Fm.P) = true := by
  rw [decide_eq_true_iff, Fe.lst_n, Fe.lst_n, Int.emod_emod_of_dvd _ (Int.dvd_refl _), Int.emod_emod_of_dvd _ (Int.dvd_refl _), Int.mul_comm]
  exact h.mod
end Go.Proofs.YtnbcfchbhappeaaDoor
namespace Go.Proofs.YtnbcfchbhappeaaDoor
open Go.RowKit
theorem L4.cut {w : World} {P : Option Addr} {n m : Nat} {g : Nat → E4} (h : L4 w P n g) (hm : m ≤ n) : L4 w P m g := by
  obtain ⟨sb, so, h1, h2⟩ := h
  exact ⟨sb, so, fun q => h1 (by omega), fun k hk => h2 k (by omega)⟩
/-- a list and its negatives -/
def al (g : Nat → Fe.E5) (t : Nat) : Fe.E5 := if t % 2 = 0 then g (t / 2) else Fe.lst (-(g (t / 2)).n)
theorem al_even (g : Nat → Fe.E5) (j : Nat) : al g (j * 2) = g j := by unfold al; rw [if_pos (by omega), show j * 2 / 2 = j by omega]
theorem al_odd (g : Nat → Fe.E5) (j : Nat) : al g (j * 2 + 1) = Fe.lst (-(g j).n) := by unfold al; rw [if_neg (by omega), show (j * 2 + 1) / 2 = j by omega]
theorem al_ok {g : Nat → Fe.E5} {k : Nat} (h : ∀ j, j < k → (g j).ok) : ∀ t, t < k * 2 → (al g t).ok := fun t ht => by
  unfold al
  split
  · exact h _ (by omega)
  · exact Fe.lst_ok _
theorem al_sum (g : Nat → Fe.E5) : ∀ k, Al.Mx.C Fm.P (Al.Mx.sm (k * 2) (fun t => (al g t).n)) 0
  | 0 => Al.Mx.C.rfl
  | k + 1 => by
    have e : Al.Mx.sm ((k + 1) * 2) (fun t => (al g t).n) = Al.Mx.sm (k * 2) (fun t => (al g t).n) + (al g (k * 2)).n + (al g (k * 2 + 1)).n := by
      rw [show (k + 1) * 2 = k * 2 + 1 + 1 by omega]; rfl
    rw [e, al_even, al_odd, Fe.lst_n]
    have q := ((al_sum g k).add (Al.Mx.C.rfl (x := (g k).n))).add (Al.Mx.C.emod Fm.P (-(g k).n))
    exact q.trans (Al.Mx.C.of_eq (by omega))
theorem al_evl (g : Nat → Fe.E5) (j : Nat) : evl (al g) (j * 2) ++ [.int .u64 (g j).x0, .int .u64 (g j).x1, .int .u64 (g j).x2, .int .u64 (g j).x3, .int .u64 (g j).x4, .int .u64 (Fe.lst (-(g j).n)).x0, .int .u64 (Fe.lst (-(g j).n)).x1, .int .u64 (Fe.lst (-(g j).n)).x2, .int .u64 (Fe.lst (-(g j).n)).x3, .int .u64 (Fe.lst (-(g j).n)).x4] = evl (al g) ((j + 1) * 2) := by
  rw [show (j + 1) * 2 = j * 2 + 1 + 1 by omega, evl_succ, evl_succ, al_even, al_odd, List.append_assoc]
  rfl
set_option maxRecDepth 100000 in
set_option maxHeartbeats 16000000 in
theorem both_any (P1 P2 : Option Addr) (L1 c1 L2 c2 : Nat) (g1 : Nat → E4) (g2 : Nat → Fe.E5) (w : World) (hT : Tb w) (hL1 : L1 ≤ c1) (h1 : L4 w P1 L1 g1) (o1 : ∀ k, k < L1 → (g1 k).ok) (h2 : L5 w P2 L2 g2) (o2 : ∀ k, k < L2 → (g2 k).ok) :
    Calls Tryd.prog 3 #[.slice P1 L1 c1, .slice P2 L2 c2] w fun e w' => e = .returned (.bool true) ∧ Below w.heap.size w w' := by
  have TBL := hidden (fun (w' : World) (hb : Below w.heap.size w w') => hT.keep hb)
  have AL := hidden (fun w => Al.alive_any Al.solve_seven Al.ev_seven w)
  have CU := hidden (fun w => cut_any P1 L1 c1 w hL1)
  have OW := hidden (fun w' (hb : Below w.heap.size w w') => own_any P1 (min L1 40) c1 g1 w' (by omega) ((h1.keep hb).cut (by omega)))
  have H2 := hidden h2
  have O1 : Hid (∀ k, k < min L1 40 → (g1 k).ok) := hidden (fun k hk => o1 k (by omega))
  have O2 := hidden o2
  obtain ⟨i0, hi, hz0, hz1, hz2⟩ := info_parts eleminfo
  have HI := hidden hi
  have HZ0 := hidden hz0
  have HZ1 := hidden hz1
  have HZ2 := hidden hz2
  have HU : Hid (Tryd.prog.underlying 28 = some (.slice 31)) := hidden (by kernel_rfl)
  clear hT hL1 h1 o1 h2 o2 hi hz0 hz1 hz2
  go_enter Tryd.func3, Tryd.ntmps3
  go_upto_region 1 with fail
  go_cut [14] (fun v wx => v = .bool false ∧ Below w.heap.size w wx)
  case first =>
    go_wp2_with fail
    refine (AL.out _).mono ?_
    rintro e w1 ⟨rfl, hb⟩
    have B1 := hidden hb
    clear hb
    go_wp2_with fail
    go_meet
    exact ⟨rfl, B1.out⟩
  case rest =>
  obtain ⟨rfl, hb⟩ := hcut
  have B0 := hidden hb
  clear hb AL
  generalize wc = wa at *
  go_upto_region 3 with fail
  go_cut [5] (fun v wx => ∃ bp : Nat, v = .slice (some ⟨bp, 0, none⟩) (min L1 40) (min L1 40 + 2) ∧ C4 wx bp (min L1 40) g1 ∧ Below w.heap.size w wx)
  case first =>
    go_wp2_with (first | (go_at_call 6; refine (CU.out _).mono ?_; rintro e w1 ⟨rfl, hb⟩; have B1 := hidden (Al.bl_trans B0.out hb); clear hb) | (go_at_call 5; refine (OW.out _ B1.out).mono ?_; rintro e w2 ⟨b, rfl, hb0, ⟨q, hR, hq⟩, hb⟩; have HC := hidden (C4.of hR (by omega) hq); have B2 := hidden (Al.bl_trans B1.out hb); clear hb0 hR hq hb))
    go_meet
    exact ⟨b, rfl, HC.out, B2.out⟩
  case rest =>
  obtain ⟨bp, rfl, hc, hb⟩ := hcut
  have HC := hidden hc
  have B1 := hidden hb
  have hn40 : min L1 40 ≤ 40 := by omega
  clear hc hb OW CU B0
  generalize min L1 40 = n at *
  have N40 := hidden hn40
  have nn0 : (0 : Int) ≤ (n : Int) := by omega
  clear hn40
  generalize wc = wb at *
  go_wp2_with fail
  go_loopw [6, 7] (fun v iv w' => ∃ i : Nat, i ≤ min L2 40 ∧ iv = .int .i64 (i : Int) ∧ Hid (w'.ownsRow wb.heap.size 31 5 v i (evl g2 i)) ∧ Hid (Below wb.heap.size wb w')) (fun _ i _ => 40 - (intOf i).toNat)
  case atStart => exact ⟨0, by omega, rfl, hidden (World.ownsRow_nil _ _ _ _), hidden (Below.refl _ _)⟩
  case round =>
    obtain ⟨i, hi, rfl, how, hbl⟩ := hrel
    by_cases hin : i < min L2 40
    · obtain ⟨sb, so, hs1, hs2⟩ := H2.out
      obtain rfl := hs1 (by omega)
      obtain ⟨x0, x1, x2, x3, x4⟩ := hs2 i (by omega)
      replace x0 := Al.cell_keep (Al.cell_keep x0 B1.out) hbl.out; replace x1 := Al.cell_keep (Al.cell_keep x1 B1.out) hbl.out; replace x2 := Al.cell_keep (Al.cell_keep x2 B1.out) hbl.out; replace x3 := Al.cell_keep (Al.cell_keep x3 B1.out) hbl.out; replace x4 := Al.cell_keep (Al.cell_keep x4 B1.out) hbl.out
      have ii0 : (0 : Int) ≤ (i : Int) := by omega
      have ii1 : (i : Int) < (L2 : Int) := by omega
      have ii2 : (i : Int) < 40 := by omega
      have w9 : IntKind.i64.wrap ((i : Int) + 1) = (i : Int) + 1 := IntWalk.i64_in _ (by omega)
      have ES := hidden (evl_succ g2 i)
      generalize g2 i = z at x0 x1 x2 x3 x4 ES
      have hsz := hbl.out.size
      have a1 := hidden (how.out.alloc (.cells #[.int .u64 z.x0, .int .u64 z.x1, .int .u64 z.x2, .int .u64 z.x3, .int .u64 z.x4] 31))
      have a2 := hidden (Al.cells_new wr [.int .u64 z.x0, .int .u64 z.x1, .int .u64 z.x2, .int .u64 z.x3, .int .u64 z.x4] 31)
      have a3 : Hid (∀ u ∈ [Value.int .u64 z.x0, Value.int .u64 z.x1, Value.int .u64 z.x2, Value.int .u64 z.x3, Value.int .u64 z.x4], u.oneCell' = true) := hidden (by simp [Value.oneCell'])
      have a4 : Hid (i + 1 ≤ maxLen) := hidden (by unfold maxLen; omega)
      have a5 : Hid ((i + 1) * 40 ≤ 140737488355328) := hidden (by omega)
      have a6 : Hid (wb.heap.size ≤ (wr.alloc (.cells #[.int .u64 z.x0, .int .u64 z.x1, .int .u64 z.x2, .int .u64 z.x3, .int .u64 z.x4] 31)).heap.size) := hidden (by simp; omega)
      have b6 := hidden (Al.bl_trans hbl.out (Al.bl_alloc wr (.cells #[.int .u64 z.x0, .int .u64 z.x1, .int .u64 z.x2, .int .u64 z.x3, .int .u64 z.x4] 31)))
      clear hs1 hs2 hsz how hbl
      go_wp2_with (first | (at_builtin; refine wpList_append_own_at _ rfl _ _ 28 rfl wb.heap.size 31 i0 (.agg #[.int .u64 0, .int .u64 0, .int .u64 0, .int .u64 0, .int .u64 0]) 5 40 HU.out HI.out HZ0.out HZ1.out HZ2.out rfl (by decide) _ _ _ rfl a1.out ⟨wr.heap.size, 0, none⟩ 1 1 [.int .u64 z.x0, .int .u64 z.x1, .int .u64 z.x2, .int .u64 z.x3, .int .u64 z.x4] rfl rfl a2.out a3.out a4.out a5.out a6.out ?_; intro v' w3 hown hgr hnil hat; have HO := hidden hown; have HB := hidden (Al.below_trans b6.out (Al.below_grown hgr a6.out (fun k hk => (a1.out.lt k hk).1))); clear hown hgr hnil hat))
      go_roundw
      case rel => exact ⟨i + 1, by omega, by go_num, hidden (by rw [ES.out]; exact HO.out), HB⟩
      case measure => simp [intOf]; omega
    · have hii : i = min L2 40 := by omega
      have OK2 : Hid (∀ k, k < i → (g2 k).ok) := hidden (fun k hk => O2.out k (by omega))
      have I40 : Hid (i ≤ 40) := hidden (by omega)
      have ii0 : (0 : Int) ≤ (i : Int) := by omega
      go_upto_region 6 with fail
      go_cut [25] (fun v wx => v = .bool false ∧ wr = wx)
      case first =>
        by_cases hL : (i : Int) < (L2 : Int)
        · have lq : ¬ (i : Int) < 40 := by omega
          clear hii hin hi
          go_wp2_with fail
          go_meet
          exact ⟨rfl, rfl⟩
        · clear hii hin hi
          go_wp2_with fail
          go_meet
          exact ⟨rfl, rfl⟩
      case rest =>
      obtain ⟨rfl, rfl⟩ := hcut
      clear hii hin hi H2 O2
      obtain ⟨Q, G, cq, rfl, hcq, hQ, hC5⟩ := own5 how.out
      have HQ := hidden hQ
      have H5 := hidden hC5
      have B2 := hidden (Al.bl_trans B1.out hbl.out)
      have HC2 := hidden (HC.out.keep hbl.out)
      clear hQ hC5 how hbl hcq HC
      rename World => wd

      go_upto_region 9 with fail
      go_cut [8] (fun v wx => ∃ (I : Nat) (r : Nat → E4), v = .slice (some ⟨I, 0, none⟩) n n ∧ C4 wx I n r ∧ (∀ k, k < n → (r k).ok ∧ (Al.Mx.C Sm.L (g1 k).n 0 → Al.Mx.C Sm.L (r k).n 0) ∧ (¬ Al.Mx.C Sm.L (g1 k).n 0 → Al.Mx.C Sm.L ((g1 k).n * (r k).n) 1)) ∧ Below wd.heap.size wd wx)
      case first =>
        have INV := hidden (invAll_any (some ⟨bp, 0, none⟩) bp n (n + 2) g1 wd (TBL.out _ B2.out) N40.out (fun _ => rfl) HC2.out O1.out)
        go_wp2_with (first | (go_at_call 7; refine (INV.out).mono ?_; rintro e we ⟨I, r, rfl, -, hR, hr, hb⟩; have HR := hidden (C4.of hR (Nat.le_refl _) (fun _ _ => rfl)); have HRR := hidden hr; have HB := hidden hb; clear hR hr hb))
        go_meet
        exact ⟨I, r, rfl, HR.out, HRR.out, HB.out⟩
      case rest =>
      obtain ⟨I, r, rfl, hr1, hr2, hb⟩ := hcut
      have HL3 := hidden hr1
      have HRR := hidden hr2
      have B3 := hidden (Al.bl_trans B2.out hb)
      have HC3 := hidden (HC2.out.keep hb)
      have H53 := hidden (H5.out.keep hb)
      clear hr1 hr2 hb B2 HC2 H5 B1
      generalize wc = w3 at *
      go_upto_region 10 with fail
      go_cut [9] (fun v wx => ∃ (J : Nat) (t : Nat → Fe.E5), v = .slice (some ⟨J, 0, none⟩) i i ∧ C5 wx J i t ∧ (∀ k, k < i → (t k).ok ∧ (Al.Mx.C Fm.P (g2 k).n 0 → Al.Mx.C Fm.P (t k).n 0) ∧ (¬ Al.Mx.C Fm.P (g2 k).n 0 → Al.Mx.C Fm.P ((g2 k).n * (t k).n) 1)) ∧ Below w3.heap.size w3 wx)
      case first =>
        have INV := hidden (Fe.invAll_any Q G i cq g2 w3 I40.out HQ.out H53.out OK2.out)
        go_wp2_with (first | (go_at_call 8; refine (INV.out).mono ?_; rintro e we ⟨J, t, rfl, -, hR, hr, hb⟩; have HR := hidden (C5.of hR (Nat.le_refl _) (fun _ _ => rfl)); have HTT := hidden hr; have HB := hidden hb; clear hR hr hb))
        go_meet
        exact ⟨J, t, rfl, HR.out, HTT.out, HB.out⟩
      case rest =>
      obtain ⟨J, t, rfl, hr1, hr2, hb⟩ := hcut
      have HM5 := hidden hr1
      have HTT := hidden hr2
      have B5 := hidden (Al.bl_trans B3.out hb)
      have HC5 := hidden (HC3.out.keep hb)
      have HL5 := hidden (HL3.out.keep hb)
      have H55 := hidden (H53.out.keep hb)
      clear hr1 hr2 hb B3 HC3 HL3 H53
      generalize wc = w5 at *
      have TB5 := hidden (fun (w' : World) (hb : Below w5.heap.size w5 w') => TBL.out w' (Al.bl_trans B5.out hb))
      go_wp2_with fail
      go_loopw [11] (fun jv w' => ∃ j : Nat, j ≤ n ∧ jv = .int .i64 (j : Int) ∧ Hid (Below w5.heap.size w5 w')) (fun j _ => n - (intOf j).toNat)
      case atStart => exact ⟨0, by omega, rfl, hidden (Below.refl _ _)⟩
      case round =>
        obtain ⟨j, hj, rfl, hbl⟩ := hrel
        by_cases hjn : j < n
        · have j0 : (0 : Int) ≤ (j : Int) := by omega
          have j1 : (j : Int) < (n : Int) := by omega
          have w9 : IntKind.i64.wrap ((j : Int) + 1) = (j : Int) + 1 := IntWalk.i64_in _ (by have := N40.out; omega)
          have yo := O1.out j hjn
          obtain ⟨xo, xz, xn⟩ := HRR.out j hjn
          have CY := hidden (fun w' (hb : Below w5.heap.size w5 w') => (HC5.out.keep hb) j hjn)
          have CX := hidden (fun w' (hb : Below w5.heap.size w5 w') => (HL5.out.keep hb) j hjn)
          generalize g1 j = y at yo xz xn CY
          generalize r j = x at xo xz xn CX
          have e1 := sc_same xz xn
          have e2 := s_iff qpm xz xn
          have e3 := fun h => sc_mul (xn h)
          have e4 := fun h => xn h
          obtain ⟨V, hV⟩ : ∃ V, lst (y.n ^ 7237005577332262213973186563042994240857116359379907606001950938285454250987) = V := ⟨_, rfl⟩
          obtain ⟨U, hU⟩ : ∃ U, lst (x.n * y.n) = U := ⟨_, rfl⟩
          obtain ⟨O, hO⟩ : ∃ O, lst 1 = O := ⟨_, rfl⟩
          have vo : V.ok := by rw [← hV]; exact lst_ok _
          have uo : U.ok := by rw [← hU]; exact lst_ok _
          have oo : O.ok := by rw [← hO]; exact lst_ok _
          rw [hV] at e1
          simp only [hU, hO] at e3
          have IV : Hid (∀ w, Tb w → Calls Tryd.prog 10 #[.agg #[.int .u64 y.x0, .int .u64 y.x1, .int .u64 y.x2, .int .u64 y.x3]] w fun e w' => e = .returned (.agg #[.int .u64 V.x0, .int .u64 V.x1, .int .u64 V.x2, .int .u64 V.x3]) ∧ Below w.heap.size w w') := hidden (fun w T => fix (Invert_any y w T yo) hV)
          have MU : Hid (∀ w, Tb w → Calls Tryd.prog 12 #[.agg #[.int .u64 x.x0, .int .u64 x.x1, .int .u64 x.x2, .int .u64 x.x3], .agg #[.int .u64 y.x0, .int .u64 y.x1, .int .u64 y.x2, .int .u64 y.x3]] w fun e w' => e = .returned (.agg #[.int .u64 U.x0, .int .u64 U.x1, .int .u64 U.x2, .int .u64 U.x3]) ∧ Below w.heap.size w w') := hidden (fun w T => fix (Mul_any x y w T xo yo) hU)
          have ON : Hid (∀ w, Calls Tryd.prog 13 #[.int .u64 1] w fun e w' => e = .returned (.agg #[.int .u64 O.x0, .int .u64 O.x1, .int .u64 O.x2, .int .u64 O.x3]) ∧ Below w.heap.size w w') := hidden (fun w => fix (Int_any 1 w (by unfold Sm.Wd; omega)) hO)
          have SM1 : Hid (∀ w, Tb w → Calls Tryd.prog 9 #[.agg #[.int .u64 x.x0, .int .u64 x.x1, .int .u64 x.x2, .int .u64 x.x3], .agg #[.int .u64 V.x0, .int .u64 V.x1, .int .u64 V.x2, .int .u64 V.x3]] w fun e w' => e = .returned (.bool true) ∧ Below w.heap.size w w') := hidden (fun w T => by rw [← e1]; exact Same_any x V w T xo vo)
          have SM2 : Hid (¬ Al.Mx.C Sm.L y.n 0 → ∀ w, Tb w → Calls Tryd.prog 9 #[.agg #[.int .u64 U.x0, .int .u64 U.x1, .int .u64 U.x2, .int .u64 U.x3], .agg #[.int .u64 O.x0, .int .u64 O.x1, .int .u64 O.x2, .int .u64 O.x3]] w fun e w' => e = .returned (.bool true) ∧ Below w.heap.size w w') := hidden (fun h w T => by rw [← e3 h]; exact Same_any U O w T uo oo)
          have IZy : Hid (∀ w, Tb w → Calls Tryd.prog 11 #[.agg #[.int .u64 y.x0, .int .u64 y.x1, .int .u64 y.x2, .int .u64 y.x3]] w fun e w' => e = .returned (.bool (decide (y.n % Sm.L = 0))) ∧ Below w.heap.size w w') := hidden (fun w T => IsZero_any y w T yo)
          have IZx : Hid (∀ w, Tb w → Calls Tryd.prog 11 #[.agg #[.int .u64 x.x0, .int .u64 x.x1, .int .u64 x.x2, .int .u64 x.x3]] w fun e w' => e = .returned (.bool (decide (y.n % Sm.L = 0))) ∧ Below w.heap.size w w') := hidden (fun w T => by have := IsZero_any x w T xo; simp only [e2] at this; exact this)
          have KSt : Hid (∀ w', Below w5.heap.size w5 w' → (fun w' => Below w5.heap.size w5 w' ∧ w'.cell? ⟨I, j * 4, none⟩ = some (.int .u64 x.x0) ∧ w'.cell? ⟨I, j * 4 + 1, none⟩ = some (.int .u64 x.x1) ∧ w'.cell? ⟨I, j * 4 + 2, none⟩ = some (.int .u64 x.x2) ∧ w'.cell? ⟨I, j * 4 + 3, none⟩ = some (.int .u64 x.x3) ∧ w'.cell? ⟨bp, j * 4, none⟩ = some (.int .u64 y.x0) ∧ w'.cell? ⟨bp, j * 4 + 1, none⟩ = some (.int .u64 y.x1) ∧ w'.cell? ⟨bp, j * 4 + 2, none⟩ = some (.int .u64 y.x2) ∧ w'.cell? ⟨bp, j * 4 + 3, none⟩ = some (.int .u64 y.x3)) w') := hidden (fun w' hb => ⟨hb, (CX.out w' hb).1, (CX.out w' hb).2.1, (CX.out w' hb).2.2.1, (CX.out w' hb).2.2.2, CY.out w' hb⟩)
          have K0 := hidden (KSt.out _ (Al.bl_trans hbl.out (Al.bl_drew wr)))
          clear e1 e2 e3 e4 xz xn hV hU hO vo uo oo xo yo CX CY
          go_upto_region 17 with fail
          go_cut [102] (fun v wx => v = .bool false ∧ Below w5.heap.size w5 wx)
          case first =>
            by_cases hz : y.n % Sm.L = 0
            · simp only [hz, decide_true] at IZy IZx
              clear hz SM2 MU ON
              as_aux_lemma =>
                refine wp_region_noPanic ?_
                refine wp_region_held_drew (S := fun w' => Below w5.heap.size w5 w' ∧ w'.cell? ⟨I, j * 4, none⟩ = some (.int .u64 x.x0) ∧ w'.cell? ⟨I, j * 4 + 1, none⟩ = some (.int .u64 x.x1) ∧ w'.cell? ⟨I, j * 4 + 2, none⟩ = some (.int .u64 x.x2) ∧ w'.cell? ⟨I, j * 4 + 3, none⟩ = some (.int .u64 x.x3) ∧ w'.cell? ⟨bp, j * 4, none⟩ = some (.int .u64 y.x0) ∧ w'.cell? ⟨bp, j * 4 + 1, none⟩ = some (.int .u64 y.x1) ∧ w'.cell? ⟨bp, j * 4 + 2, none⟩ = some (.int .u64 y.x2) ∧ w'.cell? ⟨bp, j * 4 + 3, none⟩ = some (.int .u64 y.x3)) (by kernel_rfl) K0.out (fun hHeld => ?_)
                refine wpAnyH_take (i := 0) (oi := { dst := some 57, op := Op.move (Operand.tmp 8), type := 25, pos := "outright.go:226", after := #[], guard := none }) (v := ?_) rfl (by kernel_rfl) (by kernel_rfl) (by kernel_rfl) (fun _ _ _ h => h) (Or.inl ⟨by rfl, ?_⟩) hHeld ?_
                rotate_left 1
                · (intro w0 hSw; (try dsimp only at hSw); go_simp; try with_reducible rfl)
                simp only [Act.put, List.setIfInBounds_toArray, List.set_cons_zero, List.set_cons_succ]
                refine wpAnyH_take (i := 1) (oi := { dst := some 58, op := Op.move (Operand.tmp 11), type := 3, pos := "outright.go:226", after := #[], guard := none }) (v := ?_) rfl (by kernel_rfl) (by kernel_rfl) (by kernel_rfl) (fun _ _ _ h => h) (Or.inl ⟨by rfl, ?_⟩) hHeld ?_
                rotate_left 1
                · (intro w0 hSw; (try dsimp only at hSw); go_simp; try with_reducible rfl)
                simp only [Act.put, List.setIfInBounds_toArray, List.set_cons_zero, List.set_cons_succ]
                refine wpAnyH_take (i := 2) (oi := { dst := some 59, op := Op.indexAddr 25 (Operand.tmp 57) (Operand.tmp 58), type := 0, pos := "outright.go:226", after := #[{ on := 0, ground := Ground.data }, { on := 1, ground := Ground.data }], guard := none }) (v := ?_) rfl (by kernel_rfl) (by kernel_rfl) (by kernel_rfl) (fun _ _ _ h => h) (Or.inl ⟨by rfl, ?_⟩) hHeld ?_
                rotate_left 1
                · (intro w0 hSw; (try dsimp only at hSw); go_simp; try with_reducible rfl)
                simp only [Act.put, List.setIfInBounds_toArray, List.set_cons_zero, List.set_cons_succ]
                refine wpAnyH_take (i := 3) (oi := { dst := some 60, op := Op.load 34 (Operand.tmp 59), type := 34, pos := "outright.go:226", after := #[{ on := 2, ground := Ground.data }], guard := none }) (v := ?_) rfl (by kernel_rfl) (by kernel_rfl) (by kernel_rfl) (fun _ _ _ h => h) (Or.inl ⟨by rfl, ?_⟩) hHeld ?_
                rotate_left 1
                · (intro w0 hSw; (try dsimp only at hSw); go_simp; try with_reducible rfl)
                simp only [Act.put, List.setIfInBounds_toArray, List.set_cons_zero, List.set_cons_succ]
                refine wpAnyH_take (i := 4) (oi := { dst := some 61, op := Op.move (Operand.tmp 5), type := 25, pos := "outright.go:226", after := #[], guard := none }) (v := ?_) rfl (by kernel_rfl) (by kernel_rfl) (by kernel_rfl) (fun _ _ _ h => h) (Or.inl ⟨by rfl, ?_⟩) hHeld ?_
                rotate_left 1
                · (intro w0 hSw; (try dsimp only at hSw); go_simp; try with_reducible rfl)
                simp only [Act.put, List.setIfInBounds_toArray, List.set_cons_zero, List.set_cons_succ]
                refine wpAnyH_take (i := 5) (oi := { dst := some 62, op := Op.move (Operand.tmp 11), type := 3, pos := "outright.go:226", after := #[], guard := none }) (v := ?_) rfl (by kernel_rfl) (by kernel_rfl) (by kernel_rfl) (fun _ _ _ h => h) (Or.inl ⟨by rfl, ?_⟩) hHeld ?_
                rotate_left 1
                · (intro w0 hSw; (try dsimp only at hSw); go_simp; try with_reducible rfl)
                simp only [Act.put, List.setIfInBounds_toArray, List.set_cons_zero, List.set_cons_succ]
                refine wpAnyH_take (i := 6) (oi := { dst := some 63, op := Op.indexAddr 25 (Operand.tmp 61) (Operand.tmp 62), type := 0, pos := "outright.go:226", after := #[{ on := 4, ground := Ground.data }, { on := 5, ground := Ground.data }], guard := none }) (v := ?_) rfl (by kernel_rfl) (by kernel_rfl) (by kernel_rfl) (fun _ _ _ h => h) (Or.inl ⟨by rfl, ?_⟩) hHeld ?_
                rotate_left 1
                · (intro w0 hSw; (try dsimp only at hSw); go_simp; try with_reducible rfl)
                simp only [Act.put, List.setIfInBounds_toArray, List.set_cons_zero, List.set_cons_succ]
                refine wpAnyH_take (i := 7) (oi := { dst := some 64, op := Op.load 34 (Operand.tmp 63), type := 34, pos := "outright.go:226", after := #[{ on := 6, ground := Ground.data }], guard := none }) (v := ?_) rfl (by kernel_rfl) (by kernel_rfl) (by kernel_rfl) (fun _ _ _ h => h) (Or.inl ⟨by rfl, ?_⟩) hHeld ?_
                rotate_left 1
                · (intro w0 hSw; (try dsimp only at hSw); go_simp; try with_reducible rfl)
                simp only [Act.put, List.setIfInBounds_toArray, List.set_cons_zero, List.set_cons_succ]
                refine wpAnyH_ready (rs := [8]) (by kernel_rfl) (by simp) ?_
                refine AllReadyH.cons (o := { dst := some 65, op := Op.call { callee := Callee.value (Operand.func 10), args := #[Operand.tmp 64], argTypes := #[34] }, type := 34, pos := "outright.go:226", after := #[{ on := 7, ground := Ground.data }], guard := none }) rfl (fun K hK => ?_) AllReadyH.nil
                go_simp
                refine (IV.out _ (TB5.out _ hHeld.1)).mono ?_
                rintro e wn ⟨rfl, hb⟩
                have hk := hidden (KSt.out _ (Al.bl_trans hHeld.1 hb))
                go_wp2_with fail
                refine hK.out _ _ hk.out (fun hHeld2 => ?_)
                clear hK K hHeld hb hk
                have hHeld := hHeld2
                clear hHeld2
                refine wpAnyH_ready (rs := [9]) (by kernel_rfl) (by simp) ?_
                refine AllReadyH.cons (o := { dst := some 66, op := Op.call { callee := Callee.value (Operand.func 9), args := #[Operand.tmp 60, Operand.tmp 65], argTypes := #[34, 34] }, type := 4, pos := "outright.go:226", after := #[{ on := 3, ground := Ground.data }, { on := 8, ground := Ground.data }, { on := 8, ground := Ground.chain }], guard := none }) rfl (fun K hK => ?_) AllReadyH.nil
                go_simp
                refine (SM1.out _ (TB5.out _ hHeld.1)).mono ?_
                rintro e wn ⟨rfl, hb⟩
                have hk := hidden (KSt.out _ (Al.bl_trans hHeld.1 hb))
                go_wp2_with fail
                refine hK.out _ _ hk.out (fun hHeld2 => ?_)
                clear hK K hHeld hb hk
                have hHeld := hHeld2
                clear hHeld2
                refine wpAnyH_take (i := 10) (oi := { dst := some 67, op := Op.unOp UnOp.not 4 (Operand.tmp 66), type := 4, pos := "outright.go:226", after := #[{ on := 9, ground := Ground.data }], guard := none }) (v := ?_) rfl (by kernel_rfl) (by kernel_rfl) (by kernel_rfl) (fun _ _ _ h => h) (Or.inl ⟨by rfl, ?_⟩) hHeld ?_
                rotate_left 1
                · (intro w0 hSw; (try dsimp only at hSw); go_simp; try with_reducible rfl)
                simp only [Act.put, List.setIfInBounds_toArray, List.set_cons_zero, List.set_cons_succ]
                refine wpAnyH_take (i := 11) (oi := { dst := some 68, op := Op.move (Operand.tmp 67), type := 4, pos := "outright.go:226", after := #[{ on := 10, ground := Ground.data }, { on := 9, ground := Ground.chain }], guard := none }) (v := ?_) rfl (by kernel_rfl) (by kernel_rfl) (by kernel_rfl) (fun _ _ _ h => h) (Or.inl ⟨by rfl, ?_⟩) hHeld ?_
                rotate_left 1
                · (intro w0 hSw; (try dsimp only at hSw); go_simp; try with_reducible rfl)
                simp only [Act.put, List.setIfInBounds_toArray, List.set_cons_zero, List.set_cons_succ]
                refine wpAnyH_take (i := 12) (oi := { dst := some 69, op := Op.move (Operand.tmp 5), type := 25, pos := "outright.go:226", after := #[{ on := 11, ground := Ground.guard }], guard := some (11, false) }) (v := ?_) rfl (by kernel_rfl) (by kernel_rfl) (by kernel_rfl) (fun _ _ _ h => h) (Or.inl ⟨by rfl, ?_⟩) hHeld ?_
                rotate_left 1
                · (intro w0 hSw; (try dsimp only at hSw); go_simp; try with_reducible rfl)
                simp only [Act.put, List.setIfInBounds_toArray, List.set_cons_zero, List.set_cons_succ]
                refine wpAnyH_take (i := 13) (oi := { dst := some 70, op := Op.move (Operand.tmp 11), type := 3, pos := "outright.go:226", after := #[{ on := 11, ground := Ground.guard }], guard := some (11, false) }) (v := ?_) rfl (by kernel_rfl) (by kernel_rfl) (by kernel_rfl) (fun _ _ _ h => h) (Or.inl ⟨by rfl, ?_⟩) hHeld ?_
                rotate_left 1
                · (intro w0 hSw; (try dsimp only at hSw); go_simp; try with_reducible rfl)
                simp only [Act.put, List.setIfInBounds_toArray, List.set_cons_zero, List.set_cons_succ]
                refine wpAnyH_take (i := 14) (oi := { dst := some 71, op := Op.indexAddr 25 (Operand.tmp 69) (Operand.tmp 70), type := 0, pos := "outright.go:226", after := #[{ on := 12, ground := Ground.data }, { on := 13, ground := Ground.data }, { on := 11, ground := Ground.guard }], guard := some (11, false) }) (v := ?_) rfl (by kernel_rfl) (by kernel_rfl) (by kernel_rfl) (fun _ _ _ h => h) (Or.inl ⟨by rfl, ?_⟩) hHeld ?_
                rotate_left 1
                · (intro w0 hSw; (try dsimp only at hSw); go_simp; try with_reducible rfl)
                simp only [Act.put, List.setIfInBounds_toArray, List.set_cons_zero, List.set_cons_succ]
                refine wpAnyH_take (i := 15) (oi := { dst := some 72, op := Op.load 34 (Operand.tmp 71), type := 34, pos := "outright.go:226", after := #[{ on := 14, ground := Ground.data }, { on := 11, ground := Ground.guard }], guard := some (11, false) }) (v := ?_) rfl (by kernel_rfl) (by kernel_rfl) (by kernel_rfl) (fun _ _ _ h => h) (Or.inl ⟨by rfl, ?_⟩) hHeld ?_
                rotate_left 1
                · (intro w0 hSw; (try dsimp only at hSw); go_simp; try with_reducible rfl)
                simp only [Act.put, List.setIfInBounds_toArray, List.set_cons_zero, List.set_cons_succ]
                refine wpAnyH_take (i := 17) (oi := { dst := some 74, op := Op.move (Operand.tmp 8), type := 25, pos := "outright.go:226", after := #[{ on := 11, ground := Ground.guard }], guard := some (11, false) }) (v := ?_) rfl (by kernel_rfl) (by kernel_rfl) (by kernel_rfl) (fun _ _ _ h => h) (Or.inl ⟨by rfl, ?_⟩) hHeld ?_
                rotate_left 1
                · (intro w0 hSw; (try dsimp only at hSw); go_simp; try with_reducible rfl)
                simp only [Act.put, List.setIfInBounds_toArray, List.set_cons_zero, List.set_cons_succ]
                refine wpAnyH_take (i := 18) (oi := { dst := some 75, op := Op.move (Operand.tmp 11), type := 3, pos := "outright.go:226", after := #[{ on := 11, ground := Ground.guard }], guard := some (11, false) }) (v := ?_) rfl (by kernel_rfl) (by kernel_rfl) (by kernel_rfl) (fun _ _ _ h => h) (Or.inl ⟨by rfl, ?_⟩) hHeld ?_
                rotate_left 1
                · (intro w0 hSw; (try dsimp only at hSw); go_simp; try with_reducible rfl)
                simp only [Act.put, List.setIfInBounds_toArray, List.set_cons_zero, List.set_cons_succ]
                refine wpAnyH_take (i := 19) (oi := { dst := some 76, op := Op.indexAddr 25 (Operand.tmp 74) (Operand.tmp 75), type := 0, pos := "outright.go:226", after := #[{ on := 17, ground := Ground.data }, { on := 18, ground := Ground.data }, { on := 11, ground := Ground.guard }], guard := some (11, false) }) (v := ?_) rfl (by kernel_rfl) (by kernel_rfl) (by kernel_rfl) (fun _ _ _ h => h) (Or.inl ⟨by rfl, ?_⟩) hHeld ?_
                rotate_left 1
                · (intro w0 hSw; (try dsimp only at hSw); go_simp; try with_reducible rfl)
                simp only [Act.put, List.setIfInBounds_toArray, List.set_cons_zero, List.set_cons_succ]
                refine wpAnyH_take (i := 20) (oi := { dst := some 77, op := Op.load 34 (Operand.tmp 76), type := 34, pos := "outright.go:226", after := #[{ on := 19, ground := Ground.data }, { on := 11, ground := Ground.guard }], guard := some (11, false) }) (v := ?_) rfl (by kernel_rfl) (by kernel_rfl) (by kernel_rfl) (fun _ _ _ h => h) (Or.inl ⟨by rfl, ?_⟩) hHeld ?_
                rotate_left 1
                · (intro w0 hSw; (try dsimp only at hSw); go_simp; try with_reducible rfl)
                simp only [Act.put, List.setIfInBounds_toArray, List.set_cons_zero, List.set_cons_succ]
                refine wpAnyH_ready (rs := [16]) (by kernel_rfl) (by simp) ?_
                refine AllReadyH.cons (o := { dst := some 73, op := Op.call { callee := Callee.value (Operand.func 11), args := #[Operand.tmp 72], argTypes := #[34] }, type := 4, pos := "outright.go:226", after := #[{ on := 15, ground := Ground.data }, { on := 11, ground := Ground.chain }, { on := 11, ground := Ground.guard }], guard := some (11, false) }) rfl (fun K hK => ?_) AllReadyH.nil
                go_simp
                refine (IZy.out _ (TB5.out _ hHeld.1)).mono ?_
                rintro e wn ⟨rfl, hb⟩
                have hk := hidden (KSt.out _ (Al.bl_trans hHeld.1 hb))
                go_wp2_with fail
                refine hK.out _ _ hk.out (fun hHeld2 => ?_)
                clear hK K hHeld hb hk
                have hHeld := hHeld2
                clear hHeld2
                refine wpAnyH_ready (rs := [21]) (by kernel_rfl) (by simp) ?_
                refine AllReadyH.cons (o := { dst := some 78, op := Op.call { callee := Callee.value (Operand.func 11), args := #[Operand.tmp 77], argTypes := #[34] }, type := 4, pos := "outright.go:226", after := #[{ on := 20, ground := Ground.data }, { on := 16, ground := Ground.chain }, { on := 11, ground := Ground.guard }], guard := some (11, false) }) rfl (fun K hK => ?_) AllReadyH.nil
                go_simp
                refine (IZx.out _ (TB5.out _ hHeld.1)).mono ?_
                rintro e wn ⟨rfl, hb⟩
                have hk := hidden (KSt.out _ (Al.bl_trans hHeld.1 hb))
                go_wp2_with fail
                refine hK.out _ _ hk.out (fun hHeld2 => ?_)
                clear hK K hHeld hb hk
                have hHeld := hHeld2
                clear hHeld2
                refine wpAnyH_take (i := 22) (oi := { dst := some 79, op := Op.binOp BinOp.neq 4 (Operand.tmp 73) (Operand.tmp 78) 4, type := 4, pos := "outright.go:226", after := #[{ on := 16, ground := Ground.data }, { on := 21, ground := Ground.data }, { on := 11, ground := Ground.guard }], guard := some (11, false) }) (v := ?_) rfl (by kernel_rfl) (by kernel_rfl) (by kernel_rfl) (fun _ _ _ h => h) (Or.inl ⟨by rfl, ?_⟩) hHeld ?_
                rotate_left 1
                · (intro w0 hSw; (try dsimp only at hSw); go_simp; try with_reducible rfl)
                simp only [Act.put, List.setIfInBounds_toArray, List.set_cons_zero, List.set_cons_succ]
                refine wpAnyH_take (i := 23) (oi := { dst := some 80, op := Op.pick (Operand.tmp 68) (Operand.const (Value.bool true)) (Operand.tmp 79), type := 4, pos := "outright.go:226", after := #[{ on := 11, ground := Ground.data }, { on := 22, ground := Ground.data }], guard := none }) (v := ?_) rfl (by kernel_rfl) (by kernel_rfl) (by kernel_rfl) (fun _ _ _ h => h) (Or.inl ⟨by rfl, ?_⟩) hHeld ?_
                rotate_left 1
                · (intro w0 hSw; (try dsimp only at hSw); go_simp; try with_reducible rfl)
                simp only [Act.put, List.setIfInBounds_toArray, List.set_cons_zero, List.set_cons_succ]
                refine wpAnyH_take (i := 24) (oi := { dst := some 81, op := Op.move (Operand.tmp 80), type := 4, pos := "outright.go:226", after := #[{ on := 23, ground := Ground.data }, { on := 21, ground := Ground.chain }], guard := none }) (v := ?_) rfl (by kernel_rfl) (by kernel_rfl) (by kernel_rfl) (fun _ _ _ h => h) (Or.inl ⟨by rfl, ?_⟩) hHeld ?_
                rotate_left 1
                · (intro w0 hSw; (try dsimp only at hSw); go_simp; try with_reducible rfl)
                simp only [Act.put, List.setIfInBounds_toArray, List.set_cons_zero, List.set_cons_succ]
                refine wpAnyH_take (i := 25) (oi := { dst := some 82, op := Op.move (Operand.tmp 5), type := 25, pos := "outright.go:226", after := #[{ on := 24, ground := Ground.guard }], guard := some (24, false) }) (v := ?_) rfl (by kernel_rfl) (by kernel_rfl) (by kernel_rfl) (fun _ _ _ h => h) (Or.inl ⟨by rfl, ?_⟩) hHeld ?_
                rotate_left 1
                · (intro w0 hSw; (try dsimp only at hSw); go_simp; try with_reducible rfl)
                simp only [Act.put, List.setIfInBounds_toArray, List.set_cons_zero, List.set_cons_succ]
                refine wpAnyH_take (i := 26) (oi := { dst := some 83, op := Op.move (Operand.tmp 11), type := 3, pos := "outright.go:226", after := #[{ on := 24, ground := Ground.guard }], guard := some (24, false) }) (v := ?_) rfl (by kernel_rfl) (by kernel_rfl) (by kernel_rfl) (fun _ _ _ h => h) (Or.inl ⟨by rfl, ?_⟩) hHeld ?_
                rotate_left 1
                · (intro w0 hSw; (try dsimp only at hSw); go_simp; try with_reducible rfl)
                simp only [Act.put, List.setIfInBounds_toArray, List.set_cons_zero, List.set_cons_succ]
                refine wpAnyH_take (i := 27) (oi := { dst := some 84, op := Op.indexAddr 25 (Operand.tmp 82) (Operand.tmp 83), type := 0, pos := "outright.go:226", after := #[{ on := 25, ground := Ground.data }, { on := 26, ground := Ground.data }, { on := 24, ground := Ground.guard }], guard := some (24, false) }) (v := ?_) rfl (by kernel_rfl) (by kernel_rfl) (by kernel_rfl) (fun _ _ _ h => h) (Or.inl ⟨by rfl, ?_⟩) hHeld ?_
                rotate_left 1
                · (intro w0 hSw; (try dsimp only at hSw); go_simp; try with_reducible rfl)
                simp only [Act.put, List.setIfInBounds_toArray, List.set_cons_zero, List.set_cons_succ]
                refine wpAnyH_take (i := 28) (oi := { dst := some 85, op := Op.load 34 (Operand.tmp 84), type := 34, pos := "outright.go:226", after := #[{ on := 27, ground := Ground.data }, { on := 24, ground := Ground.guard }], guard := some (24, false) }) (v := ?_) rfl (by kernel_rfl) (by kernel_rfl) (by kernel_rfl) (fun _ _ _ h => h) (Or.inl ⟨by rfl, ?_⟩) hHeld ?_
                rotate_left 1
                · (intro w0 hSw; (try dsimp only at hSw); go_simp; try with_reducible rfl)
                simp only [Act.put, List.setIfInBounds_toArray, List.set_cons_zero, List.set_cons_succ]
                refine wpAnyH_ready (rs := [29]) (by kernel_rfl) (by simp) ?_
                refine AllReadyH.cons (o := { dst := some 86, op := Op.call { callee := Callee.value (Operand.func 11), args := #[Operand.tmp 85], argTypes := #[34] }, type := 4, pos := "outright.go:226", after := #[{ on := 28, ground := Ground.data }, { on := 24, ground := Ground.chain }, { on := 24, ground := Ground.guard }], guard := some (24, false) }) rfl (fun K hK => ?_) AllReadyH.nil
                go_simp
                refine (IZy.out _ (TB5.out _ hHeld.1)).mono ?_
                rintro e wn ⟨rfl, hb⟩
                have hk := hidden (KSt.out _ (Al.bl_trans hHeld.1 hb))
                go_wp2_with fail
                refine hK.out _ _ hk.out (fun hHeld2 => ?_)
                clear hK K hHeld hb hk
                have hHeld := hHeld2
                clear hHeld2
                refine wpAnyH_take (i := 30) (oi := { dst := some 87, op := Op.unOp UnOp.not 4 (Operand.tmp 86), type := 4, pos := "outright.go:226", after := #[{ on := 29, ground := Ground.data }, { on := 24, ground := Ground.guard }], guard := some (24, false) }) (v := ?_) rfl (by kernel_rfl) (by kernel_rfl) (by kernel_rfl) (fun _ _ _ h => h) (Or.inl ⟨by rfl, ?_⟩) hHeld ?_
                rotate_left 1
                · (intro w0 hSw; (try dsimp only at hSw); go_simp; try with_reducible rfl)
                simp only [Act.put, List.setIfInBounds_toArray, List.set_cons_zero, List.set_cons_succ]
                refine wpAnyH_take (i := 31) (oi := { dst := some 88, op := Op.move (Operand.tmp 87), type := 4, pos := "outright.go:226", after := #[{ on := 30, ground := Ground.data }, { on := 29, ground := Ground.chain }, { on := 24, ground := Ground.guard }], guard := some (24, false) }) (v := ?_) rfl (by kernel_rfl) (by kernel_rfl) (by kernel_rfl) (fun _ _ _ h => h) (Or.inl ⟨by rfl, ?_⟩) hHeld ?_
                rotate_left 1
                · (intro w0 hSw; (try dsimp only at hSw); go_simp; try with_reducible rfl)
                simp only [Act.put, List.setIfInBounds_toArray, List.set_cons_zero, List.set_cons_succ]
                refine wpAnyH_take (i := 32) (oi := { dst := some 89, op := Op.move (Operand.tmp 8), type := 25, pos := "outright.go:226", after := #[{ on := 31, ground := Ground.guard }], guard := some (31, true) }) (v := undef) rfl (by kernel_rfl) (by kernel_rfl) (by kernel_rfl) (fun _ _ _ h => h) (Or.inr ⟨by rfl, rfl⟩) hHeld ?_
                simp only [Act.put, List.setIfInBounds_toArray, List.set_cons_zero, List.set_cons_succ]
                refine wpAnyH_take (i := 33) (oi := { dst := some 90, op := Op.move (Operand.tmp 11), type := 3, pos := "outright.go:226", after := #[{ on := 31, ground := Ground.guard }], guard := some (31, true) }) (v := undef) rfl (by kernel_rfl) (by kernel_rfl) (by kernel_rfl) (fun _ _ _ h => h) (Or.inr ⟨by rfl, rfl⟩) hHeld ?_
                simp only [Act.put, List.setIfInBounds_toArray, List.set_cons_zero, List.set_cons_succ]
                refine wpAnyH_take (i := 34) (oi := { dst := some 91, op := Op.indexAddr 25 (Operand.tmp 89) (Operand.tmp 90), type := 0, pos := "outright.go:226", after := #[{ on := 32, ground := Ground.data }, { on := 33, ground := Ground.data }, { on := 31, ground := Ground.guard }], guard := some (31, true) }) (v := undef) rfl (by kernel_rfl) (by kernel_rfl) (by kernel_rfl) (fun _ _ _ h => h) (Or.inr ⟨by rfl, rfl⟩) hHeld ?_
                simp only [Act.put, List.setIfInBounds_toArray, List.set_cons_zero, List.set_cons_succ]
                refine wpAnyH_take (i := 35) (oi := { dst := some 92, op := Op.load 34 (Operand.tmp 91), type := 34, pos := "outright.go:226", after := #[{ on := 34, ground := Ground.data }, { on := 31, ground := Ground.guard }], guard := some (31, true) }) (v := undef) rfl (by kernel_rfl) (by kernel_rfl) (by kernel_rfl) (fun _ _ _ h => h) (Or.inr ⟨by rfl, rfl⟩) hHeld ?_
                simp only [Act.put, List.setIfInBounds_toArray, List.set_cons_zero, List.set_cons_succ]
                refine wpAnyH_take (i := 36) (oi := { dst := some 93, op := Op.move (Operand.tmp 5), type := 25, pos := "outright.go:226", after := #[{ on := 31, ground := Ground.guard }], guard := some (31, true) }) (v := undef) rfl (by kernel_rfl) (by kernel_rfl) (by kernel_rfl) (fun _ _ _ h => h) (Or.inr ⟨by rfl, rfl⟩) hHeld ?_
                simp only [Act.put, List.setIfInBounds_toArray, List.set_cons_zero, List.set_cons_succ]
                refine wpAnyH_take (i := 37) (oi := { dst := some 94, op := Op.move (Operand.tmp 11), type := 3, pos := "outright.go:226", after := #[{ on := 31, ground := Ground.guard }], guard := some (31, true) }) (v := undef) rfl (by kernel_rfl) (by kernel_rfl) (by kernel_rfl) (fun _ _ _ h => h) (Or.inr ⟨by rfl, rfl⟩) hHeld ?_
                simp only [Act.put, List.setIfInBounds_toArray, List.set_cons_zero, List.set_cons_succ]
                refine wpAnyH_take (i := 38) (oi := { dst := some 95, op := Op.indexAddr 25 (Operand.tmp 93) (Operand.tmp 94), type := 0, pos := "outright.go:226", after := #[{ on := 36, ground := Ground.data }, { on := 37, ground := Ground.data }, { on := 31, ground := Ground.guard }], guard := some (31, true) }) (v := undef) rfl (by kernel_rfl) (by kernel_rfl) (by kernel_rfl) (fun _ _ _ h => h) (Or.inr ⟨by rfl, rfl⟩) hHeld ?_
                simp only [Act.put, List.setIfInBounds_toArray, List.set_cons_zero, List.set_cons_succ]
                refine wpAnyH_take (i := 39) (oi := { dst := some 96, op := Op.load 34 (Operand.tmp 95), type := 34, pos := "outright.go:226", after := #[{ on := 38, ground := Ground.data }, { on := 31, ground := Ground.guard }], guard := some (31, true) }) (v := undef) rfl (by kernel_rfl) (by kernel_rfl) (by kernel_rfl) (fun _ _ _ h => h) (Or.inr ⟨by rfl, rfl⟩) hHeld ?_
                simp only [Act.put, List.setIfInBounds_toArray, List.set_cons_zero, List.set_cons_succ]
                refine wpAnyH_ready (rs := [40]) (by kernel_rfl) (by simp) ?_
                refine AllReadyH.cons (o := { dst := some 97, op := Op.call { callee := Callee.value (Operand.func 12), args := #[Operand.tmp 92, Operand.tmp 96], argTypes := #[34, 34] }, type := 34, pos := "outright.go:226", after := #[{ on := 35, ground := Ground.data }, { on := 39, ground := Ground.data }, { on := 31, ground := Ground.chain }, { on := 31, ground := Ground.guard }], guard := some (31, true) }) rfl (fun K hK => ?_) AllReadyH.nil
                refine Eq.mpr (if_neg (by exact fun h => Bool.false_ne_true h)) ?_
                refine hK.out _ _ hHeld (fun hHeld2 => ?_)
                clear hK K hHeld2
                simp only [Act.put, List.setIfInBounds_toArray, List.set_cons_zero, List.set_cons_succ]
                refine wpAnyH_ready (rs := [41]) (by kernel_rfl) (by simp) ?_
                refine AllReadyH.cons (o := { dst := some 98, op := Op.call { callee := Callee.value (Operand.func 13), args := #[Operand.const (Value.int IntKind.u64 1)], argTypes := #[29] }, type := 34, pos := "outright.go:226", after := #[{ on := 40, ground := Ground.chain }, { on := 31, ground := Ground.guard }], guard := some (31, true) }) rfl (fun K hK => ?_) AllReadyH.nil
                refine Eq.mpr (if_neg (by exact fun h => Bool.false_ne_true h)) ?_
                refine hK.out _ _ hHeld (fun hHeld2 => ?_)
                clear hK K hHeld2
                simp only [Act.put, List.setIfInBounds_toArray, List.set_cons_zero, List.set_cons_succ]
                refine wpAnyH_ready (rs := [42]) (by kernel_rfl) (by simp) ?_
                refine AllReadyH.cons (o := { dst := some 99, op := Op.call { callee := Callee.value (Operand.func 9), args := #[Operand.tmp 97, Operand.tmp 98], argTypes := #[34, 34] }, type := 4, pos := "outright.go:226", after := #[{ on := 40, ground := Ground.data }, { on := 41, ground := Ground.data }, { on := 41, ground := Ground.chain }, { on := 31, ground := Ground.guard }], guard := some (31, true) }) rfl (fun K hK => ?_) AllReadyH.nil
                refine Eq.mpr (if_neg (by exact fun h => Bool.false_ne_true h)) ?_
                refine hK.out _ _ hHeld (fun hHeld2 => ?_)
                clear hK K hHeld2
                simp only [Act.put, List.setIfInBounds_toArray, List.set_cons_zero, List.set_cons_succ]
                refine wpAnyH_take (i := 43) (oi := { dst := some 100, op := Op.unOp UnOp.not 4 (Operand.tmp 99), type := 4, pos := "outright.go:226", after := #[{ on := 42, ground := Ground.data }, { on := 31, ground := Ground.guard }], guard := some (31, true) }) (v := undef) rfl (by kernel_rfl) (by kernel_rfl) (by kernel_rfl) (fun _ _ _ h => h) (Or.inr ⟨by rfl, rfl⟩) hHeld ?_
                simp only [Act.put, List.setIfInBounds_toArray, List.set_cons_zero, List.set_cons_succ]
                refine wpAnyH_take (i := 44) (oi := { dst := some 101, op := Op.pick (Operand.tmp 88) (Operand.tmp 100) (Operand.const (Value.bool false)), type := 4, pos := "outright.go:226", after := #[{ on := 31, ground := Ground.data }, { on := 43, ground := Ground.data }, { on := 24, ground := Ground.guard }], guard := some (24, false) }) (v := ?_) rfl (by kernel_rfl) (by kernel_rfl) (by kernel_rfl) (fun _ _ _ h => h) (Or.inl ⟨by rfl, ?_⟩) hHeld ?_
                rotate_left 1
                · (intro w0 hSw; (try dsimp only at hSw); go_simp; try with_reducible rfl)
                simp only [Act.put, List.setIfInBounds_toArray, List.set_cons_zero, List.set_cons_succ]
                refine wpAnyH_take (i := 45) (oi := { dst := some 102, op := Op.pick (Operand.tmp 81) (Operand.const (Value.bool true)) (Operand.tmp 101), type := 4, pos := "outright.go:226", after := #[{ on := 24, ground := Ground.data }, { on := 44, ground := Ground.data }], guard := none }) (v := ?_) rfl (by kernel_rfl) (by kernel_rfl) (by kernel_rfl) (fun _ _ _ h => h) (Or.inl ⟨by rfl, ?_⟩) hHeld ?_
                rotate_left 1
                · (intro w0 hSw; (try dsimp only at hSw); go_simp; try with_reducible rfl)
                simp only [Act.put, List.setIfInBounds_toArray, List.set_cons_zero, List.set_cons_succ]
                refine wpAnyH_done (by kernel_rfl) ?_ _
                refine NoPanic.normal ?_
                have HH := hidden hHeld.1
                clear hHeld
                go_wp2_with fail
                go_meet
                exact ⟨rfl, HH.out⟩
            · have SM3 := hidden (SM2.out (fun h => hz (Al.c_zero.1 h)))
              have hd : decide (y.n % Sm.L = 0) = false := decide_eq_false hz
              simp only [hd] at IZy IZx
              clear hz hd SM2
              as_aux_lemma =>
                refine wp_region_noPanic ?_
                refine wp_region_held_drew (S := fun w' => Below w5.heap.size w5 w' ∧ w'.cell? ⟨I, j * 4, none⟩ = some (.int .u64 x.x0) ∧ w'.cell? ⟨I, j * 4 + 1, none⟩ = some (.int .u64 x.x1) ∧ w'.cell? ⟨I, j * 4 + 2, none⟩ = some (.int .u64 x.x2) ∧ w'.cell? ⟨I, j * 4 + 3, none⟩ = some (.int .u64 x.x3) ∧ w'.cell? ⟨bp, j * 4, none⟩ = some (.int .u64 y.x0) ∧ w'.cell? ⟨bp, j * 4 + 1, none⟩ = some (.int .u64 y.x1) ∧ w'.cell? ⟨bp, j * 4 + 2, none⟩ = some (.int .u64 y.x2) ∧ w'.cell? ⟨bp, j * 4 + 3, none⟩ = some (.int .u64 y.x3)) (by kernel_rfl) K0.out (fun hHeld => ?_)
                refine wpAnyH_take (i := 0) (oi := { dst := some 57, op := Op.move (Operand.tmp 8), type := 25, pos := "outright.go:226", after := #[], guard := none }) (v := ?_) rfl (by kernel_rfl) (by kernel_rfl) (by kernel_rfl) (fun _ _ _ h => h) (Or.inl ⟨by rfl, ?_⟩) hHeld ?_
                rotate_left 1
                · (intro w0 hSw; (try dsimp only at hSw); go_simp; try with_reducible rfl)
                simp only [Act.put, List.setIfInBounds_toArray, List.set_cons_zero, List.set_cons_succ]
                refine wpAnyH_take (i := 1) (oi := { dst := some 58, op := Op.move (Operand.tmp 11), type := 3, pos := "outright.go:226", after := #[], guard := none }) (v := ?_) rfl (by kernel_rfl) (by kernel_rfl) (by kernel_rfl) (fun _ _ _ h => h) (Or.inl ⟨by rfl, ?_⟩) hHeld ?_
                rotate_left 1
                · (intro w0 hSw; (try dsimp only at hSw); go_simp; try with_reducible rfl)
                simp only [Act.put, List.setIfInBounds_toArray, List.set_cons_zero, List.set_cons_succ]
                refine wpAnyH_take (i := 2) (oi := { dst := some 59, op := Op.indexAddr 25 (Operand.tmp 57) (Operand.tmp 58), type := 0, pos := "outright.go:226", after := #[{ on := 0, ground := Ground.data }, { on := 1, ground := Ground.data }], guard := none }) (v := ?_) rfl (by kernel_rfl) (by kernel_rfl) (by kernel_rfl) (fun _ _ _ h => h) (Or.inl ⟨by rfl, ?_⟩) hHeld ?_
                rotate_left 1
                · (intro w0 hSw; (try dsimp only at hSw); go_simp; try with_reducible rfl)
                simp only [Act.put, List.setIfInBounds_toArray, List.set_cons_zero, List.set_cons_succ]
                refine wpAnyH_take (i := 3) (oi := { dst := some 60, op := Op.load 34 (Operand.tmp 59), type := 34, pos := "outright.go:226", after := #[{ on := 2, ground := Ground.data }], guard := none }) (v := ?_) rfl (by kernel_rfl) (by kernel_rfl) (by kernel_rfl) (fun _ _ _ h => h) (Or.inl ⟨by rfl, ?_⟩) hHeld ?_
                rotate_left 1
                · (intro w0 hSw; (try dsimp only at hSw); go_simp; try with_reducible rfl)
                simp only [Act.put, List.setIfInBounds_toArray, List.set_cons_zero, List.set_cons_succ]
                refine wpAnyH_take (i := 4) (oi := { dst := some 61, op := Op.move (Operand.tmp 5), type := 25, pos := "outright.go:226", after := #[], guard := none }) (v := ?_) rfl (by kernel_rfl) (by kernel_rfl) (by kernel_rfl) (fun _ _ _ h => h) (Or.inl ⟨by rfl, ?_⟩) hHeld ?_
                rotate_left 1
                · (intro w0 hSw; (try dsimp only at hSw); go_simp; try with_reducible rfl)
                simp only [Act.put, List.setIfInBounds_toArray, List.set_cons_zero, List.set_cons_succ]
                refine wpAnyH_take (i := 5) (oi := { dst := some 62, op := Op.move (Operand.tmp 11), type := 3, pos := "outright.go:226", after := #[], guard := none }) (v := ?_) rfl (by kernel_rfl) (by kernel_rfl) (by kernel_rfl) (fun _ _ _ h => h) (Or.inl ⟨by rfl, ?_⟩) hHeld ?_
                rotate_left 1
                · (intro w0 hSw; (try dsimp only at hSw); go_simp; try with_reducible rfl)
                simp only [Act.put, List.setIfInBounds_toArray, List.set_cons_zero, List.set_cons_succ]
                refine wpAnyH_take (i := 6) (oi := { dst := some 63, op := Op.indexAddr 25 (Operand.tmp 61) (Operand.tmp 62), type := 0, pos := "outright.go:226", after := #[{ on := 4, ground := Ground.data }, { on := 5, ground := Ground.data }], guard := none }) (v := ?_) rfl (by kernel_rfl) (by kernel_rfl) (by kernel_rfl) (fun _ _ _ h => h) (Or.inl ⟨by rfl, ?_⟩) hHeld ?_
                rotate_left 1
                · (intro w0 hSw; (try dsimp only at hSw); go_simp; try with_reducible rfl)
                simp only [Act.put, List.setIfInBounds_toArray, List.set_cons_zero, List.set_cons_succ]
                refine wpAnyH_take (i := 7) (oi := { dst := some 64, op := Op.load 34 (Operand.tmp 63), type := 34, pos := "outright.go:226", after := #[{ on := 6, ground := Ground.data }], guard := none }) (v := ?_) rfl (by kernel_rfl) (by kernel_rfl) (by kernel_rfl) (fun _ _ _ h => h) (Or.inl ⟨by rfl, ?_⟩) hHeld ?_
                rotate_left 1
                · (intro w0 hSw; (try dsimp only at hSw); go_simp; try with_reducible rfl)
                simp only [Act.put, List.setIfInBounds_toArray, List.set_cons_zero, List.set_cons_succ]
                refine wpAnyH_ready (rs := [8]) (by kernel_rfl) (by simp) ?_
                refine AllReadyH.cons (o := { dst := some 65, op := Op.call { callee := Callee.value (Operand.func 10), args := #[Operand.tmp 64], argTypes := #[34] }, type := 34, pos := "outright.go:226", after := #[{ on := 7, ground := Ground.data }], guard := none }) rfl (fun K hK => ?_) AllReadyH.nil
                go_simp
                refine (IV.out _ (TB5.out _ hHeld.1)).mono ?_
                rintro e wn ⟨rfl, hb⟩
                have hk := hidden (KSt.out _ (Al.bl_trans hHeld.1 hb))
                go_wp2_with fail
                refine hK.out _ _ hk.out (fun hHeld2 => ?_)
                clear hK K hHeld hb hk
                have hHeld := hHeld2
                clear hHeld2
                refine wpAnyH_ready (rs := [9]) (by kernel_rfl) (by simp) ?_
                refine AllReadyH.cons (o := { dst := some 66, op := Op.call { callee := Callee.value (Operand.func 9), args := #[Operand.tmp 60, Operand.tmp 65], argTypes := #[34, 34] }, type := 4, pos := "outright.go:226", after := #[{ on := 3, ground := Ground.data }, { on := 8, ground := Ground.data }, { on := 8, ground := Ground.chain }], guard := none }) rfl (fun K hK => ?_) AllReadyH.nil
                go_simp
                refine (SM1.out _ (TB5.out _ hHeld.1)).mono ?_
                rintro e wn ⟨rfl, hb⟩
                have hk := hidden (KSt.out _ (Al.bl_trans hHeld.1 hb))
                go_wp2_with fail
                refine hK.out _ _ hk.out (fun hHeld2 => ?_)
                clear hK K hHeld hb hk
                have hHeld := hHeld2
                clear hHeld2
                refine wpAnyH_take (i := 10) (oi := { dst := some 67, op := Op.unOp UnOp.not 4 (Operand.tmp 66), type := 4, pos := "outright.go:226", after := #[{ on := 9, ground := Ground.data }], guard := none }) (v := ?_) rfl (by kernel_rfl) (by kernel_rfl) (by kernel_rfl) (fun _ _ _ h => h) (Or.inl ⟨by rfl, ?_⟩) hHeld ?_
                rotate_left 1
                · (intro w0 hSw; (try dsimp only at hSw); go_simp; try with_reducible rfl)
                simp only [Act.put, List.setIfInBounds_toArray, List.set_cons_zero, List.set_cons_succ]
                refine wpAnyH_take (i := 11) (oi := { dst := some 68, op := Op.move (Operand.tmp 67), type := 4, pos := "outright.go:226", after := #[{ on := 10, ground := Ground.data }, { on := 9, ground := Ground.chain }], guard := none }) (v := ?_) rfl (by kernel_rfl) (by kernel_rfl) (by kernel_rfl) (fun _ _ _ h => h) (Or.inl ⟨by rfl, ?_⟩) hHeld ?_
                rotate_left 1
                · (intro w0 hSw; (try dsimp only at hSw); go_simp; try with_reducible rfl)
                simp only [Act.put, List.setIfInBounds_toArray, List.set_cons_zero, List.set_cons_succ]
                refine wpAnyH_take (i := 12) (oi := { dst := some 69, op := Op.move (Operand.tmp 5), type := 25, pos := "outright.go:226", after := #[{ on := 11, ground := Ground.guard }], guard := some (11, false) }) (v := ?_) rfl (by kernel_rfl) (by kernel_rfl) (by kernel_rfl) (fun _ _ _ h => h) (Or.inl ⟨by rfl, ?_⟩) hHeld ?_
                rotate_left 1
                · (intro w0 hSw; (try dsimp only at hSw); go_simp; try with_reducible rfl)
                simp only [Act.put, List.setIfInBounds_toArray, List.set_cons_zero, List.set_cons_succ]
                refine wpAnyH_take (i := 13) (oi := { dst := some 70, op := Op.move (Operand.tmp 11), type := 3, pos := "outright.go:226", after := #[{ on := 11, ground := Ground.guard }], guard := some (11, false) }) (v := ?_) rfl (by kernel_rfl) (by kernel_rfl) (by kernel_rfl) (fun _ _ _ h => h) (Or.inl ⟨by rfl, ?_⟩) hHeld ?_
                rotate_left 1
                · (intro w0 hSw; (try dsimp only at hSw); go_simp; try with_reducible rfl)
                simp only [Act.put, List.setIfInBounds_toArray, List.set_cons_zero, List.set_cons_succ]
                refine wpAnyH_take (i := 14) (oi := { dst := some 71, op := Op.indexAddr 25 (Operand.tmp 69) (Operand.tmp 70), type := 0, pos := "outright.go:226", after := #[{ on := 12, ground := Ground.data }, { on := 13, ground := Ground.data }, { on := 11, ground := Ground.guard }], guard := some (11, false) }) (v := ?_) rfl (by kernel_rfl) (by kernel_rfl) (by kernel_rfl) (fun _ _ _ h => h) (Or.inl ⟨by rfl, ?_⟩) hHeld ?_
                rotate_left 1
                · (intro w0 hSw; (try dsimp only at hSw); go_simp; try with_reducible rfl)
                simp only [Act.put, List.setIfInBounds_toArray, List.set_cons_zero, List.set_cons_succ]
                refine wpAnyH_take (i := 15) (oi := { dst := some 72, op := Op.load 34 (Operand.tmp 71), type := 34, pos := "outright.go:226", after := #[{ on := 14, ground := Ground.data }, { on := 11, ground := Ground.guard }], guard := some (11, false) }) (v := ?_) rfl (by kernel_rfl) (by kernel_rfl) (by kernel_rfl) (fun _ _ _ h => h) (Or.inl ⟨by rfl, ?_⟩) hHeld ?_
                rotate_left 1
                · (intro w0 hSw; (try dsimp only at hSw); go_simp; try with_reducible rfl)
                simp only [Act.put, List.setIfInBounds_toArray, List.set_cons_zero, List.set_cons_succ]
                refine wpAnyH_take (i := 17) (oi := { dst := some 74, op := Op.move (Operand.tmp 8), type := 25, pos := "outright.go:226", after := #[{ on := 11, ground := Ground.guard }], guard := some (11, false) }) (v := ?_) rfl (by kernel_rfl) (by kernel_rfl) (by kernel_rfl) (fun _ _ _ h => h) (Or.inl ⟨by rfl, ?_⟩) hHeld ?_
                rotate_left 1
                · (intro w0 hSw; (try dsimp only at hSw); go_simp; try with_reducible rfl)
                simp only [Act.put, List.setIfInBounds_toArray, List.set_cons_zero, List.set_cons_succ]
                refine wpAnyH_take (i := 18) (oi := { dst := some 75, op := Op.move (Operand.tmp 11), type := 3, pos := "outright.go:226", after := #[{ on := 11, ground := Ground.guard }], guard := some (11, false) }) (v := ?_) rfl (by kernel_rfl) (by kernel_rfl) (by kernel_rfl) (fun _ _ _ h => h) (Or.inl ⟨by rfl, ?_⟩) hHeld ?_
                rotate_left 1
                · (intro w0 hSw; (try dsimp only at hSw); go_simp; try with_reducible rfl)
                simp only [Act.put, List.setIfInBounds_toArray, List.set_cons_zero, List.set_cons_succ]
                refine wpAnyH_take (i := 19) (oi := { dst := some 76, op := Op.indexAddr 25 (Operand.tmp 74) (Operand.tmp 75), type := 0, pos := "outright.go:226", after := #[{ on := 17, ground := Ground.data }, { on := 18, ground := Ground.data }, { on := 11, ground := Ground.guard }], guard := some (11, false) }) (v := ?_) rfl (by kernel_rfl) (by kernel_rfl) (by kernel_rfl) (fun _ _ _ h => h) (Or.inl ⟨by rfl, ?_⟩) hHeld ?_
                rotate_left 1
                · (intro w0 hSw; (try dsimp only at hSw); go_simp; try with_reducible rfl)
                simp only [Act.put, List.setIfInBounds_toArray, List.set_cons_zero, List.set_cons_succ]
                refine wpAnyH_take (i := 20) (oi := { dst := some 77, op := Op.load 34 (Operand.tmp 76), type := 34, pos := "outright.go:226", after := #[{ on := 19, ground := Ground.data }, { on := 11, ground := Ground.guard }], guard := some (11, false) }) (v := ?_) rfl (by kernel_rfl) (by kernel_rfl) (by kernel_rfl) (fun _ _ _ h => h) (Or.inl ⟨by rfl, ?_⟩) hHeld ?_
                rotate_left 1
                · (intro w0 hSw; (try dsimp only at hSw); go_simp; try with_reducible rfl)
                simp only [Act.put, List.setIfInBounds_toArray, List.set_cons_zero, List.set_cons_succ]
                refine wpAnyH_ready (rs := [16]) (by kernel_rfl) (by simp) ?_
                refine AllReadyH.cons (o := { dst := some 73, op := Op.call { callee := Callee.value (Operand.func 11), args := #[Operand.tmp 72], argTypes := #[34] }, type := 4, pos := "outright.go:226", after := #[{ on := 15, ground := Ground.data }, { on := 11, ground := Ground.chain }, { on := 11, ground := Ground.guard }], guard := some (11, false) }) rfl (fun K hK => ?_) AllReadyH.nil
                go_simp
                refine (IZy.out _ (TB5.out _ hHeld.1)).mono ?_
                rintro e wn ⟨rfl, hb⟩
                have hk := hidden (KSt.out _ (Al.bl_trans hHeld.1 hb))
                go_wp2_with fail
                refine hK.out _ _ hk.out (fun hHeld2 => ?_)
                clear hK K hHeld hb hk
                have hHeld := hHeld2
                clear hHeld2
                refine wpAnyH_ready (rs := [21]) (by kernel_rfl) (by simp) ?_
                refine AllReadyH.cons (o := { dst := some 78, op := Op.call { callee := Callee.value (Operand.func 11), args := #[Operand.tmp 77], argTypes := #[34] }, type := 4, pos := "outright.go:226", after := #[{ on := 20, ground := Ground.data }, { on := 16, ground := Ground.chain }, { on := 11, ground := Ground.guard }], guard := some (11, false) }) rfl (fun K hK => ?_) AllReadyH.nil
                go_simp
                refine (IZx.out _ (TB5.out _ hHeld.1)).mono ?_
                rintro e wn ⟨rfl, hb⟩
                have hk := hidden (KSt.out _ (Al.bl_trans hHeld.1 hb))
                go_wp2_with fail
                refine hK.out _ _ hk.out (fun hHeld2 => ?_)
                clear hK K hHeld hb hk
                have hHeld := hHeld2
                clear hHeld2
                refine wpAnyH_take (i := 22) (oi := { dst := some 79, op := Op.binOp BinOp.neq 4 (Operand.tmp 73) (Operand.tmp 78) 4, type := 4, pos := "outright.go:226", after := #[{ on := 16, ground := Ground.data }, { on := 21, ground := Ground.data }, { on := 11, ground := Ground.guard }], guard := some (11, false) }) (v := ?_) rfl (by kernel_rfl) (by kernel_rfl) (by kernel_rfl) (fun _ _ _ h => h) (Or.inl ⟨by rfl, ?_⟩) hHeld ?_
                rotate_left 1
                · (intro w0 hSw; (try dsimp only at hSw); go_simp; try with_reducible rfl)
                simp only [Act.put, List.setIfInBounds_toArray, List.set_cons_zero, List.set_cons_succ]
                refine wpAnyH_take (i := 23) (oi := { dst := some 80, op := Op.pick (Operand.tmp 68) (Operand.const (Value.bool true)) (Operand.tmp 79), type := 4, pos := "outright.go:226", after := #[{ on := 11, ground := Ground.data }, { on := 22, ground := Ground.data }], guard := none }) (v := ?_) rfl (by kernel_rfl) (by kernel_rfl) (by kernel_rfl) (fun _ _ _ h => h) (Or.inl ⟨by rfl, ?_⟩) hHeld ?_
                rotate_left 1
                · (intro w0 hSw; (try dsimp only at hSw); go_simp; try with_reducible rfl)
                simp only [Act.put, List.setIfInBounds_toArray, List.set_cons_zero, List.set_cons_succ]
                refine wpAnyH_take (i := 24) (oi := { dst := some 81, op := Op.move (Operand.tmp 80), type := 4, pos := "outright.go:226", after := #[{ on := 23, ground := Ground.data }, { on := 21, ground := Ground.chain }], guard := none }) (v := ?_) rfl (by kernel_rfl) (by kernel_rfl) (by kernel_rfl) (fun _ _ _ h => h) (Or.inl ⟨by rfl, ?_⟩) hHeld ?_
                rotate_left 1
                · (intro w0 hSw; (try dsimp only at hSw); go_simp; try with_reducible rfl)
                simp only [Act.put, List.setIfInBounds_toArray, List.set_cons_zero, List.set_cons_succ]
                refine wpAnyH_take (i := 25) (oi := { dst := some 82, op := Op.move (Operand.tmp 5), type := 25, pos := "outright.go:226", after := #[{ on := 24, ground := Ground.guard }], guard := some (24, false) }) (v := ?_) rfl (by kernel_rfl) (by kernel_rfl) (by kernel_rfl) (fun _ _ _ h => h) (Or.inl ⟨by rfl, ?_⟩) hHeld ?_
                rotate_left 1
                · (intro w0 hSw; (try dsimp only at hSw); go_simp; try with_reducible rfl)
                simp only [Act.put, List.setIfInBounds_toArray, List.set_cons_zero, List.set_cons_succ]
                refine wpAnyH_take (i := 26) (oi := { dst := some 83, op := Op.move (Operand.tmp 11), type := 3, pos := "outright.go:226", after := #[{ on := 24, ground := Ground.guard }], guard := some (24, false) }) (v := ?_) rfl (by kernel_rfl) (by kernel_rfl) (by kernel_rfl) (fun _ _ _ h => h) (Or.inl ⟨by rfl, ?_⟩) hHeld ?_
                rotate_left 1
                · (intro w0 hSw; (try dsimp only at hSw); go_simp; try with_reducible rfl)
                simp only [Act.put, List.setIfInBounds_toArray, List.set_cons_zero, List.set_cons_succ]
                refine wpAnyH_take (i := 27) (oi := { dst := some 84, op := Op.indexAddr 25 (Operand.tmp 82) (Operand.tmp 83), type := 0, pos := "outright.go:226", after := #[{ on := 25, ground := Ground.data }, { on := 26, ground := Ground.data }, { on := 24, ground := Ground.guard }], guard := some (24, false) }) (v := ?_) rfl (by kernel_rfl) (by kernel_rfl) (by kernel_rfl) (fun _ _ _ h => h) (Or.inl ⟨by rfl, ?_⟩) hHeld ?_
                rotate_left 1
                · (intro w0 hSw; (try dsimp only at hSw); go_simp; try with_reducible rfl)
                simp only [Act.put, List.setIfInBounds_toArray, List.set_cons_zero, List.set_cons_succ]
                refine wpAnyH_take (i := 28) (oi := { dst := some 85, op := Op.load 34 (Operand.tmp 84), type := 34, pos := "outright.go:226", after := #[{ on := 27, ground := Ground.data }, { on := 24, ground := Ground.guard }], guard := some (24, false) }) (v := ?_) rfl (by kernel_rfl) (by kernel_rfl) (by kernel_rfl) (fun _ _ _ h => h) (Or.inl ⟨by rfl, ?_⟩) hHeld ?_
                rotate_left 1
                · (intro w0 hSw; (try dsimp only at hSw); go_simp; try with_reducible rfl)
                simp only [Act.put, List.setIfInBounds_toArray, List.set_cons_zero, List.set_cons_succ]
                refine wpAnyH_ready (rs := [29]) (by kernel_rfl) (by simp) ?_
                refine AllReadyH.cons (o := { dst := some 86, op := Op.call { callee := Callee.value (Operand.func 11), args := #[Operand.tmp 85], argTypes := #[34] }, type := 4, pos := "outright.go:226", after := #[{ on := 28, ground := Ground.data }, { on := 24, ground := Ground.chain }, { on := 24, ground := Ground.guard }], guard := some (24, false) }) rfl (fun K hK => ?_) AllReadyH.nil
                go_simp
                refine (IZy.out _ (TB5.out _ hHeld.1)).mono ?_
                rintro e wn ⟨rfl, hb⟩
                have hk := hidden (KSt.out _ (Al.bl_trans hHeld.1 hb))
                go_wp2_with fail
                refine hK.out _ _ hk.out (fun hHeld2 => ?_)
                clear hK K hHeld hb hk
                have hHeld := hHeld2
                clear hHeld2
                refine wpAnyH_take (i := 30) (oi := { dst := some 87, op := Op.unOp UnOp.not 4 (Operand.tmp 86), type := 4, pos := "outright.go:226", after := #[{ on := 29, ground := Ground.data }, { on := 24, ground := Ground.guard }], guard := some (24, false) }) (v := ?_) rfl (by kernel_rfl) (by kernel_rfl) (by kernel_rfl) (fun _ _ _ h => h) (Or.inl ⟨by rfl, ?_⟩) hHeld ?_
                rotate_left 1
                · (intro w0 hSw; (try dsimp only at hSw); go_simp; try with_reducible rfl)
                simp only [Act.put, List.setIfInBounds_toArray, List.set_cons_zero, List.set_cons_succ]
                refine wpAnyH_take (i := 31) (oi := { dst := some 88, op := Op.move (Operand.tmp 87), type := 4, pos := "outright.go:226", after := #[{ on := 30, ground := Ground.data }, { on := 29, ground := Ground.chain }, { on := 24, ground := Ground.guard }], guard := some (24, false) }) (v := ?_) rfl (by kernel_rfl) (by kernel_rfl) (by kernel_rfl) (fun _ _ _ h => h) (Or.inl ⟨by rfl, ?_⟩) hHeld ?_
                rotate_left 1
                · (intro w0 hSw; (try dsimp only at hSw); go_simp; try with_reducible rfl)
                simp only [Act.put, List.setIfInBounds_toArray, List.set_cons_zero, List.set_cons_succ]
                refine wpAnyH_take (i := 32) (oi := { dst := some 89, op := Op.move (Operand.tmp 8), type := 25, pos := "outright.go:226", after := #[{ on := 31, ground := Ground.guard }], guard := some (31, true) }) (v := ?_) rfl (by kernel_rfl) (by kernel_rfl) (by kernel_rfl) (fun _ _ _ h => h) (Or.inl ⟨by rfl, ?_⟩) hHeld ?_
                rotate_left 1
                · (intro w0 hSw; (try dsimp only at hSw); go_simp; try with_reducible rfl)
                simp only [Act.put, List.setIfInBounds_toArray, List.set_cons_zero, List.set_cons_succ]
                refine wpAnyH_take (i := 33) (oi := { dst := some 90, op := Op.move (Operand.tmp 11), type := 3, pos := "outright.go:226", after := #[{ on := 31, ground := Ground.guard }], guard := some (31, true) }) (v := ?_) rfl (by kernel_rfl) (by kernel_rfl) (by kernel_rfl) (fun _ _ _ h => h) (Or.inl ⟨by rfl, ?_⟩) hHeld ?_
                rotate_left 1
                · (intro w0 hSw; (try dsimp only at hSw); go_simp; try with_reducible rfl)
                simp only [Act.put, List.setIfInBounds_toArray, List.set_cons_zero, List.set_cons_succ]
                refine wpAnyH_take (i := 34) (oi := { dst := some 91, op := Op.indexAddr 25 (Operand.tmp 89) (Operand.tmp 90), type := 0, pos := "outright.go:226", after := #[{ on := 32, ground := Ground.data }, { on := 33, ground := Ground.data }, { on := 31, ground := Ground.guard }], guard := some (31, true) }) (v := ?_) rfl (by kernel_rfl) (by kernel_rfl) (by kernel_rfl) (fun _ _ _ h => h) (Or.inl ⟨by rfl, ?_⟩) hHeld ?_
                rotate_left 1
                · (intro w0 hSw; (try dsimp only at hSw); go_simp; try with_reducible rfl)
                simp only [Act.put, List.setIfInBounds_toArray, List.set_cons_zero, List.set_cons_succ]
                refine wpAnyH_take (i := 35) (oi := { dst := some 92, op := Op.load 34 (Operand.tmp 91), type := 34, pos := "outright.go:226", after := #[{ on := 34, ground := Ground.data }, { on := 31, ground := Ground.guard }], guard := some (31, true) }) (v := ?_) rfl (by kernel_rfl) (by kernel_rfl) (by kernel_rfl) (fun _ _ _ h => h) (Or.inl ⟨by rfl, ?_⟩) hHeld ?_
                rotate_left 1
                · (intro w0 hSw; (try dsimp only at hSw); go_simp; try with_reducible rfl)
                simp only [Act.put, List.setIfInBounds_toArray, List.set_cons_zero, List.set_cons_succ]
                refine wpAnyH_take (i := 36) (oi := { dst := some 93, op := Op.move (Operand.tmp 5), type := 25, pos := "outright.go:226", after := #[{ on := 31, ground := Ground.guard }], guard := some (31, true) }) (v := ?_) rfl (by kernel_rfl) (by kernel_rfl) (by kernel_rfl) (fun _ _ _ h => h) (Or.inl ⟨by rfl, ?_⟩) hHeld ?_
                rotate_left 1
                · (intro w0 hSw; (try dsimp only at hSw); go_simp; try with_reducible rfl)
                simp only [Act.put, List.setIfInBounds_toArray, List.set_cons_zero, List.set_cons_succ]
                refine wpAnyH_take (i := 37) (oi := { dst := some 94, op := Op.move (Operand.tmp 11), type := 3, pos := "outright.go:226", after := #[{ on := 31, ground := Ground.guard }], guard := some (31, true) }) (v := ?_) rfl (by kernel_rfl) (by kernel_rfl) (by kernel_rfl) (fun _ _ _ h => h) (Or.inl ⟨by rfl, ?_⟩) hHeld ?_
                rotate_left 1
                · (intro w0 hSw; (try dsimp only at hSw); go_simp; try with_reducible rfl)
                simp only [Act.put, List.setIfInBounds_toArray, List.set_cons_zero, List.set_cons_succ]
                refine wpAnyH_take (i := 38) (oi := { dst := some 95, op := Op.indexAddr 25 (Operand.tmp 93) (Operand.tmp 94), type := 0, pos := "outright.go:226", after := #[{ on := 36, ground := Ground.data }, { on := 37, ground := Ground.data }, { on := 31, ground := Ground.guard }], guard := some (31, true) }) (v := ?_) rfl (by kernel_rfl) (by kernel_rfl) (by kernel_rfl) (fun _ _ _ h => h) (Or.inl ⟨by rfl, ?_⟩) hHeld ?_
                rotate_left 1
                · (intro w0 hSw; (try dsimp only at hSw); go_simp; try with_reducible rfl)
                simp only [Act.put, List.setIfInBounds_toArray, List.set_cons_zero, List.set_cons_succ]
                refine wpAnyH_take (i := 39) (oi := { dst := some 96, op := Op.load 34 (Operand.tmp 95), type := 34, pos := "outright.go:226", after := #[{ on := 38, ground := Ground.data }, { on := 31, ground := Ground.guard }], guard := some (31, true) }) (v := ?_) rfl (by kernel_rfl) (by kernel_rfl) (by kernel_rfl) (fun _ _ _ h => h) (Or.inl ⟨by rfl, ?_⟩) hHeld ?_
                rotate_left 1
                · (intro w0 hSw; (try dsimp only at hSw); go_simp; try with_reducible rfl)
                simp only [Act.put, List.setIfInBounds_toArray, List.set_cons_zero, List.set_cons_succ]
                refine wpAnyH_ready (rs := [40]) (by kernel_rfl) (by simp) ?_
                refine AllReadyH.cons (o := { dst := some 97, op := Op.call { callee := Callee.value (Operand.func 12), args := #[Operand.tmp 92, Operand.tmp 96], argTypes := #[34, 34] }, type := 34, pos := "outright.go:226", after := #[{ on := 35, ground := Ground.data }, { on := 39, ground := Ground.data }, { on := 31, ground := Ground.chain }, { on := 31, ground := Ground.guard }], guard := some (31, true) }) rfl (fun K hK => ?_) AllReadyH.nil
                go_simp
                refine (MU.out _ (TB5.out _ hHeld.1)).mono ?_
                rintro e wn ⟨rfl, hb⟩
                have hk := hidden (KSt.out _ (Al.bl_trans hHeld.1 hb))
                go_wp2_with fail
                refine hK.out _ _ hk.out (fun hHeld2 => ?_)
                clear hK K hHeld hb hk
                have hHeld := hHeld2
                clear hHeld2
                refine wpAnyH_ready (rs := [41]) (by kernel_rfl) (by simp) ?_
                refine AllReadyH.cons (o := { dst := some 98, op := Op.call { callee := Callee.value (Operand.func 13), args := #[Operand.const (Value.int IntKind.u64 1)], argTypes := #[29] }, type := 34, pos := "outright.go:226", after := #[{ on := 40, ground := Ground.chain }, { on := 31, ground := Ground.guard }], guard := some (31, true) }) rfl (fun K hK => ?_) AllReadyH.nil
                go_simp
                refine (ON.out _).mono ?_
                rintro e wn ⟨rfl, hb⟩
                have hk := hidden (KSt.out _ (Al.bl_trans hHeld.1 hb))
                go_wp2_with fail
                refine hK.out _ _ hk.out (fun hHeld2 => ?_)
                clear hK K hHeld hb hk
                have hHeld := hHeld2
                clear hHeld2
                refine wpAnyH_ready (rs := [42]) (by kernel_rfl) (by simp) ?_
                refine AllReadyH.cons (o := { dst := some 99, op := Op.call { callee := Callee.value (Operand.func 9), args := #[Operand.tmp 97, Operand.tmp 98], argTypes := #[34, 34] }, type := 4, pos := "outright.go:226", after := #[{ on := 40, ground := Ground.data }, { on := 41, ground := Ground.data }, { on := 41, ground := Ground.chain }, { on := 31, ground := Ground.guard }], guard := some (31, true) }) rfl (fun K hK => ?_) AllReadyH.nil
                go_simp
                refine (SM3.out _ (TB5.out _ hHeld.1)).mono ?_
                rintro e wn ⟨rfl, hb⟩
                have hk := hidden (KSt.out _ (Al.bl_trans hHeld.1 hb))
                go_wp2_with fail
                refine hK.out _ _ hk.out (fun hHeld2 => ?_)
                clear hK K hHeld hb hk
                have hHeld := hHeld2
                clear hHeld2
                refine wpAnyH_take (i := 43) (oi := { dst := some 100, op := Op.unOp UnOp.not 4 (Operand.tmp 99), type := 4, pos := "outright.go:226", after := #[{ on := 42, ground := Ground.data }, { on := 31, ground := Ground.guard }], guard := some (31, true) }) (v := ?_) rfl (by kernel_rfl) (by kernel_rfl) (by kernel_rfl) (fun _ _ _ h => h) (Or.inl ⟨by rfl, ?_⟩) hHeld ?_
                rotate_left 1
                · (intro w0 hSw; (try dsimp only at hSw); go_simp; try with_reducible rfl)
                simp only [Act.put, List.setIfInBounds_toArray, List.set_cons_zero, List.set_cons_succ]
                refine wpAnyH_take (i := 44) (oi := { dst := some 101, op := Op.pick (Operand.tmp 88) (Operand.tmp 100) (Operand.const (Value.bool false)), type := 4, pos := "outright.go:226", after := #[{ on := 31, ground := Ground.data }, { on := 43, ground := Ground.data }, { on := 24, ground := Ground.guard }], guard := some (24, false) }) (v := ?_) rfl (by kernel_rfl) (by kernel_rfl) (by kernel_rfl) (fun _ _ _ h => h) (Or.inl ⟨by rfl, ?_⟩) hHeld ?_
                rotate_left 1
                · (intro w0 hSw; (try dsimp only at hSw); go_simp; try with_reducible rfl)
                simp only [Act.put, List.setIfInBounds_toArray, List.set_cons_zero, List.set_cons_succ]
                refine wpAnyH_take (i := 45) (oi := { dst := some 102, op := Op.pick (Operand.tmp 81) (Operand.const (Value.bool true)) (Operand.tmp 101), type := 4, pos := "outright.go:226", after := #[{ on := 24, ground := Ground.data }, { on := 44, ground := Ground.data }], guard := none }) (v := ?_) rfl (by kernel_rfl) (by kernel_rfl) (by kernel_rfl) (fun _ _ _ h => h) (Or.inl ⟨by rfl, ?_⟩) hHeld ?_
                rotate_left 1
                · (intro w0 hSw; (try dsimp only at hSw); go_simp; try with_reducible rfl)
                simp only [Act.put, List.setIfInBounds_toArray, List.set_cons_zero, List.set_cons_succ]
                refine wpAnyH_done (by kernel_rfl) ?_ _
                refine NoPanic.normal ?_
                have HH := hidden hHeld.1
                clear hHeld
                go_wp2_with fail
                go_meet
                exact ⟨rfl, HH.out⟩
          case rest =>
          obtain ⟨rfl, hb⟩ := hcut
          have HB := hidden hb
          clear hb hbl KSt K0 IV MU ON SM1 SM2 IZy IZx
          go_wp2_with fail
          go_roundw
          case rel => exact ⟨j + 1, by omega, by go_num, HB⟩
          case measure => simp [intOf]; omega
        · obtain rfl : j = n := by omega
          clear hjn
          have HC6 := hidden (H55.out.keep hbl.out)
          have HM6 := hidden (HM5.out.keep hbl.out)
          have B6 := hidden (Al.bl_trans B5.out hbl.out)
          have TB6 := hidden (fun (w' : World) (hb : Below wr.heap.size wr w') => TBL.out w' (Al.bl_trans B6.out hb))
          clear H55 HM5 B5 hbl TB5 HC5 HL5 HRR O1 N40 TBL
          rename World => w6
          go_wp2_with fail
          go_loopw [10, 12] (fun v mv w' => ∃ m : Nat, m ≤ i ∧ mv = .int .i64 (m : Int) ∧ Hid (w'.ownsRow w6.heap.size 31 5 v (m * 2) (evl (al g2) (m * 2))) ∧ Hid (Below w6.heap.size w6 w')) (fun _ m _ => i - (intOf m).toNat)
          case atStart => exact ⟨0, by omega, rfl, hidden (World.ownsRow_nil _ _ _ _), hidden (Below.refl _ _)⟩
          case round =>
            obtain ⟨m, hm, rfl, how, hbl⟩ := hrel
            by_cases hmi : m < i
            · have m0 : (0 : Int) ≤ (m : Int) := by omega
              have m1 : (m : Int) < (i : Int) := by omega
              have w9 : IntKind.i64.wrap ((m : Int) + 1) = (m : Int) + 1 := IntWalk.i64_in _ (by have := I40.out; omega)
              obtain rfl := HQ.out (by omega)
              have yo := OK2.out m hmi
              obtain ⟨xo, xz, xn⟩ := HTT.out m hmi
              have CY := hidden (fun w' (hb : Below w6.heap.size w6 w') => (HC6.out.keep hb) m hmi)
              have CX := hidden (fun w' (hb : Below w6.heap.size w6 w') => (HM6.out.keep hb) m hmi)
              have AE := hidden (al_evl g2 m)
              generalize g2 m = y at yo xz xn CY AE
              generalize t m = x at xo xz xn CX
              have e1 := fe_same xz xn
              have e3 := fun h => fe_mul (xn h)
              obtain ⟨V, hV⟩ : ∃ V, Fe.lst (y.n ^ 57896044618658097711785492504343953926634992332820282019728792003956564819947) = V := ⟨_, rfl⟩
              obtain ⟨U, hU⟩ : ∃ U, Fe.lst (x.n * y.n) = U := ⟨_, rfl⟩
              obtain ⟨O, hO⟩ : ∃ O, Fe.lst 1 = O := ⟨_, rfl⟩
              obtain ⟨N, hN⟩ : ∃ N, Fe.lst (-y.n) = N := ⟨_, rfl⟩
              have vo : V.ok := by rw [← hV]; exact Fe.lst_ok _
              have uo : U.ok := by rw [← hU]; exact Fe.lst_ok _
              have oo : O.ok := by rw [← hO]; exact Fe.lst_ok _
              rw [hV] at e1
              rw [hN] at AE
              simp only [hU, hO] at e3
              have IV : Hid (∀ w, Calls Tryd.prog 15 #[.agg #[.int .u64 y.x0, .int .u64 y.x1, .int .u64 y.x2, .int .u64 y.x3, .int .u64 y.x4]] w fun e w' => e = .returned (.agg #[.int .u64 V.x0, .int .u64 V.x1, .int .u64 V.x2, .int .u64 V.x3, .int .u64 V.x4]) ∧ Below w.heap.size w w') := hidden (fun w => hV ▸ Fe.fix2 (Fe.Invert_any y w yo))
              have MU : Hid (∀ w, Calls Tryd.prog 17 #[.agg #[.int .u64 x.x0, .int .u64 x.x1, .int .u64 x.x2, .int .u64 x.x3, .int .u64 x.x4], .agg #[.int .u64 y.x0, .int .u64 y.x1, .int .u64 y.x2, .int .u64 y.x3, .int .u64 y.x4]] w fun e w' => e = .returned (.agg #[.int .u64 U.x0, .int .u64 U.x1, .int .u64 U.x2, .int .u64 U.x3, .int .u64 U.x4]) ∧ Below w.heap.size w w') := hidden (fun w => hU ▸ Fe.fix2 (Fe.Mul_any x y w xo yo))
              have ON : Hid (∀ w, Calls Tryd.prog 18 #[.int .u64 1] w fun e w' => e = .returned (.agg #[.int .u64 O.x0, .int .u64 O.x1, .int .u64 O.x2, .int .u64 O.x3, .int .u64 O.x4]) ∧ Below w.heap.size w w') := hidden (fun w => hO ▸ Fe.fix2 (Fe.Int_any 1 w (by unfold Fm.Wd; omega)))
              have NG : Hid (∀ w, Calls Tryd.prog 19 #[.agg #[.int .u64 y.x0, .int .u64 y.x1, .int .u64 y.x2, .int .u64 y.x3, .int .u64 y.x4]] w fun e w' => e = .returned (.agg #[.int .u64 N.x0, .int .u64 N.x1, .int .u64 N.x2, .int .u64 N.x3, .int .u64 N.x4]) ∧ Below w.heap.size w w') := hidden (fun w => hN ▸ Fe.fix2 (Fe.Neg_any y w yo))
              have SM1 : Hid (∀ w, Calls Tryd.prog 14 #[.agg #[.int .u64 x.x0, .int .u64 x.x1, .int .u64 x.x2, .int .u64 x.x3, .int .u64 x.x4], .agg #[.int .u64 V.x0, .int .u64 V.x1, .int .u64 V.x2, .int .u64 V.x3, .int .u64 V.x4]] w fun e w' => e = .returned (.bool true) ∧ Below w.heap.size w w') := hidden (fun w => by rw [← e1]; exact Fe.Same_any x V w xo vo)
              have SM2 : Hid (¬ Al.Mx.C Fm.P y.n 0 → ∀ w, Calls Tryd.prog 14 #[.agg #[.int .u64 U.x0, .int .u64 U.x1, .int .u64 U.x2, .int .u64 U.x3, .int .u64 U.x4], .agg #[.int .u64 O.x0, .int .u64 O.x1, .int .u64 O.x2, .int .u64 O.x3, .int .u64 O.x4]] w fun e w' => e = .returned (.bool true) ∧ Below w.heap.size w w') := hidden (fun h w => by rw [← e3 h]; exact Fe.Same_any U O w uo oo)
              have IZy : Hid (∀ w, Calls Tryd.prog 16 #[.agg #[.int .u64 y.x0, .int .u64 y.x1, .int .u64 y.x2, .int .u64 y.x3, .int .u64 y.x4]] w fun e w' => e = .returned (.bool (decide (y.n % Fm.P = 0))) ∧ Below w.heap.size w w') := hidden (fun w => Fe.IsZero_any y w yo)
              have KSt : Hid (∀ w', Below wr.heap.size wr w' → (fun w' => Below wr.heap.size wr w' ∧ w'.cell? ⟨J, m * 5, none⟩ = some (.int .u64 x.x0) ∧ w'.cell? ⟨J, m * 5 + 1, none⟩ = some (.int .u64 x.x1) ∧ w'.cell? ⟨J, m * 5 + 2, none⟩ = some (.int .u64 x.x2) ∧ w'.cell? ⟨J, m * 5 + 3, none⟩ = some (.int .u64 x.x3) ∧ w'.cell? ⟨J, m * 5 + 4, none⟩ = some (.int .u64 x.x4) ∧ w'.cell? ⟨G, m * 5, none⟩ = some (.int .u64 y.x0) ∧ w'.cell? ⟨G, m * 5 + 1, none⟩ = some (.int .u64 y.x1) ∧ w'.cell? ⟨G, m * 5 + 2, none⟩ = some (.int .u64 y.x2) ∧ w'.cell? ⟨G, m * 5 + 3, none⟩ = some (.int .u64 y.x3) ∧ w'.cell? ⟨G, m * 5 + 4, none⟩ = some (.int .u64 y.x4)) w') := hidden (fun w' hb => ⟨hb, (CX.out w' (Al.bl_trans hbl.out hb)).1, (CX.out w' (Al.bl_trans hbl.out hb)).2.1, (CX.out w' (Al.bl_trans hbl.out hb)).2.2.1, (CX.out w' (Al.bl_trans hbl.out hb)).2.2.2.1, (CX.out w' (Al.bl_trans hbl.out hb)).2.2.2.2, CY.out w' (Al.bl_trans hbl.out hb)⟩)
              have K0 := hidden (KSt.out _ (Al.bl_drew wr))
              clear e1 e3 xz xn hV hU hO hN vo uo oo xo yo CX
              go_upto_region 22 with fail
              go_cut [141] (fun v wx => v = .bool false ∧ Below wr.heap.size wr wx)
              case first =>
                by_cases hz : y.n % Fm.P = 0
                · simp only [hz, decide_true] at IZy
                  clear hz SM2 MU ON NG AE how hbl
                  as_aux_lemma =>
                    refine wp_region_noPanic ?_
                    refine wp_region_held_drew (S := fun w' => Below wr.heap.size wr w' ∧ w'.cell? ⟨J, m * 5, none⟩ = some (.int .u64 x.x0) ∧ w'.cell? ⟨J, m * 5 + 1, none⟩ = some (.int .u64 x.x1) ∧ w'.cell? ⟨J, m * 5 + 2, none⟩ = some (.int .u64 x.x2) ∧ w'.cell? ⟨J, m * 5 + 3, none⟩ = some (.int .u64 x.x3) ∧ w'.cell? ⟨J, m * 5 + 4, none⟩ = some (.int .u64 x.x4) ∧ w'.cell? ⟨G, m * 5, none⟩ = some (.int .u64 y.x0) ∧ w'.cell? ⟨G, m * 5 + 1, none⟩ = some (.int .u64 y.x1) ∧ w'.cell? ⟨G, m * 5 + 2, none⟩ = some (.int .u64 y.x2) ∧ w'.cell? ⟨G, m * 5 + 3, none⟩ = some (.int .u64 y.x3) ∧ w'.cell? ⟨G, m * 5 + 4, none⟩ = some (.int .u64 y.x4)) (by kernel_rfl) K0.out (fun hHeld => ?_)
                    refine wpAnyH_take (i := 0) (oi := { dst := some 109, op := Op.move (Operand.tmp 9), type := 28, pos := "outright.go:231", after := #[], guard := none }) (v := ?_) rfl (by kernel_rfl) (by kernel_rfl) (by kernel_rfl) (fun _ _ _ h => h) (Or.inl ⟨by rfl, ?_⟩) hHeld ?_
                    rotate_left 1
                    · (intro w0 hSw; (try dsimp only at hSw); go_simp; try with_reducible rfl)
                    simp only [Act.put, List.setIfInBounds_toArray, List.set_cons_zero, List.set_cons_succ]
                    refine wpAnyH_take (i := 1) (oi := { dst := some 110, op := Op.move (Operand.tmp 12), type := 3, pos := "outright.go:231", after := #[], guard := none }) (v := ?_) rfl (by kernel_rfl) (by kernel_rfl) (by kernel_rfl) (fun _ _ _ h => h) (Or.inl ⟨by rfl, ?_⟩) hHeld ?_
                    rotate_left 1
                    · (intro w0 hSw; (try dsimp only at hSw); go_simp; try with_reducible rfl)
                    simp only [Act.put, List.setIfInBounds_toArray, List.set_cons_zero, List.set_cons_succ]
                    refine wpAnyH_take (i := 2) (oi := { dst := some 111, op := Op.indexAddr 28 (Operand.tmp 109) (Operand.tmp 110), type := 0, pos := "outright.go:231", after := #[{ on := 0, ground := Ground.data }, { on := 1, ground := Ground.data }], guard := none }) (v := ?_) rfl (by kernel_rfl) (by kernel_rfl) (by kernel_rfl) (fun _ _ _ h => h) (Or.inl ⟨by rfl, ?_⟩) hHeld ?_
                    rotate_left 1
                    · (intro w0 hSw; (try dsimp only at hSw); go_simp; try with_reducible rfl)
                    simp only [Act.put, List.setIfInBounds_toArray, List.set_cons_zero, List.set_cons_succ]
                    refine wpAnyH_take (i := 3) (oi := { dst := some 112, op := Op.load 31 (Operand.tmp 111), type := 31, pos := "outright.go:231", after := #[{ on := 2, ground := Ground.data }], guard := none }) (v := ?_) rfl (by kernel_rfl) (by kernel_rfl) (by kernel_rfl) (fun _ _ _ h => h) (Or.inl ⟨by rfl, ?_⟩) hHeld ?_
                    rotate_left 1
                    · (intro w0 hSw; (try dsimp only at hSw); go_simp; try with_reducible rfl)
                    simp only [Act.put, List.setIfInBounds_toArray, List.set_cons_zero, List.set_cons_succ]
                    refine wpAnyH_take (i := 4) (oi := { dst := some 113, op := Op.move (Operand.tmp 6), type := 28, pos := "outright.go:231", after := #[], guard := none }) (v := ?_) rfl (by kernel_rfl) (by kernel_rfl) (by kernel_rfl) (fun _ _ _ h => h) (Or.inl ⟨by rfl, ?_⟩) hHeld ?_
                    rotate_left 1
                    · (intro w0 hSw; (try dsimp only at hSw); go_simp; try with_reducible rfl)
                    simp only [Act.put, List.setIfInBounds_toArray, List.set_cons_zero, List.set_cons_succ]
                    refine wpAnyH_take (i := 5) (oi := { dst := some 114, op := Op.move (Operand.tmp 12), type := 3, pos := "outright.go:231", after := #[], guard := none }) (v := ?_) rfl (by kernel_rfl) (by kernel_rfl) (by kernel_rfl) (fun _ _ _ h => h) (Or.inl ⟨by rfl, ?_⟩) hHeld ?_
                    rotate_left 1
                    · (intro w0 hSw; (try dsimp only at hSw); go_simp; try with_reducible rfl)
                    simp only [Act.put, List.setIfInBounds_toArray, List.set_cons_zero, List.set_cons_succ]
                    refine wpAnyH_take (i := 6) (oi := { dst := some 115, op := Op.indexAddr 28 (Operand.tmp 113) (Operand.tmp 114), type := 0, pos := "outright.go:231", after := #[{ on := 4, ground := Ground.data }, { on := 5, ground := Ground.data }], guard := none }) (v := ?_) rfl (by kernel_rfl) (by kernel_rfl) (by kernel_rfl) (fun _ _ _ h => h) (Or.inl ⟨by rfl, ?_⟩) hHeld ?_
                    rotate_left 1
                    · (intro w0 hSw; (try dsimp only at hSw); go_simp; try with_reducible rfl)
                    simp only [Act.put, List.setIfInBounds_toArray, List.set_cons_zero, List.set_cons_succ]
                    refine wpAnyH_take (i := 7) (oi := { dst := some 116, op := Op.load 31 (Operand.tmp 115), type := 31, pos := "outright.go:231", after := #[{ on := 6, ground := Ground.data }], guard := none }) (v := ?_) rfl (by kernel_rfl) (by kernel_rfl) (by kernel_rfl) (fun _ _ _ h => h) (Or.inl ⟨by rfl, ?_⟩) hHeld ?_
                    rotate_left 1
                    · (intro w0 hSw; (try dsimp only at hSw); go_simp; try with_reducible rfl)
                    simp only [Act.put, List.setIfInBounds_toArray, List.set_cons_zero, List.set_cons_succ]
                    refine wpAnyH_ready (rs := [8]) (by kernel_rfl) (by simp) ?_
                    refine AllReadyH.cons (o := { dst := some 117, op := Op.call { callee := Callee.value (Operand.func 15), args := #[Operand.tmp 116], argTypes := #[31] }, type := 31, pos := "outright.go:231", after := #[{ on := 7, ground := Ground.data }], guard := none }) rfl (fun K hK => ?_) AllReadyH.nil
                    go_simp
                    refine (IV.out _).mono ?_
                    rintro e wn ⟨rfl, hb⟩
                    have hk := hidden (KSt.out _ (Al.bl_trans hHeld.1 hb))
                    go_wp2_with fail
                    refine hK.out _ _ hk.out (fun hHeld2 => ?_)
                    clear hK K hHeld hb hk
                    have hHeld := hHeld2
                    clear hHeld2
                    refine wpAnyH_ready (rs := [9]) (by kernel_rfl) (by simp) ?_
                    refine AllReadyH.cons (o := { dst := some 118, op := Op.call { callee := Callee.value (Operand.func 14), args := #[Operand.tmp 112, Operand.tmp 117], argTypes := #[31, 31] }, type := 4, pos := "outright.go:231", after := #[{ on := 3, ground := Ground.data }, { on := 8, ground := Ground.data }, { on := 8, ground := Ground.chain }], guard := none }) rfl (fun K hK => ?_) AllReadyH.nil
                    go_simp
                    refine (SM1.out _).mono ?_
                    rintro e wn ⟨rfl, hb⟩
                    have hk := hidden (KSt.out _ (Al.bl_trans hHeld.1 hb))
                    go_wp2_with fail
                    refine hK.out _ _ hk.out (fun hHeld2 => ?_)
                    clear hK K hHeld hb hk
                    have hHeld := hHeld2
                    clear hHeld2
                    refine wpAnyH_take (i := 10) (oi := { dst := some 119, op := Op.unOp UnOp.not 4 (Operand.tmp 118), type := 4, pos := "outright.go:231", after := #[{ on := 9, ground := Ground.data }], guard := none }) (v := ?_) rfl (by kernel_rfl) (by kernel_rfl) (by kernel_rfl) (fun _ _ _ h => h) (Or.inl ⟨by rfl, ?_⟩) hHeld ?_
                    rotate_left 1
                    · (intro w0 hSw; (try dsimp only at hSw); go_simp; try with_reducible rfl)
                    simp only [Act.put, List.setIfInBounds_toArray, List.set_cons_zero, List.set_cons_succ]
                    refine wpAnyH_take (i := 11) (oi := { dst := some 120, op := Op.move (Operand.tmp 119), type := 4, pos := "outright.go:231", after := #[{ on := 10, ground := Ground.data }, { on := 9, ground := Ground.chain }], guard := none }) (v := ?_) rfl (by kernel_rfl) (by kernel_rfl) (by kernel_rfl) (fun _ _ _ h => h) (Or.inl ⟨by rfl, ?_⟩) hHeld ?_
                    rotate_left 1
                    · (intro w0 hSw; (try dsimp only at hSw); go_simp; try with_reducible rfl)
                    simp only [Act.put, List.setIfInBounds_toArray, List.set_cons_zero, List.set_cons_succ]
                    refine wpAnyH_take (i := 12) (oi := { dst := some 121, op := Op.move (Operand.tmp 6), type := 28, pos := "outright.go:231", after := #[{ on := 11, ground := Ground.guard }], guard := some (11, false) }) (v := ?_) rfl (by kernel_rfl) (by kernel_rfl) (by kernel_rfl) (fun _ _ _ h => h) (Or.inl ⟨by rfl, ?_⟩) hHeld ?_
                    rotate_left 1
                    · (intro w0 hSw; (try dsimp only at hSw); go_simp; try with_reducible rfl)
                    simp only [Act.put, List.setIfInBounds_toArray, List.set_cons_zero, List.set_cons_succ]
                    refine wpAnyH_take (i := 13) (oi := { dst := some 122, op := Op.move (Operand.tmp 12), type := 3, pos := "outright.go:231", after := #[{ on := 11, ground := Ground.guard }], guard := some (11, false) }) (v := ?_) rfl (by kernel_rfl) (by kernel_rfl) (by kernel_rfl) (fun _ _ _ h => h) (Or.inl ⟨by rfl, ?_⟩) hHeld ?_
                    rotate_left 1
                    · (intro w0 hSw; (try dsimp only at hSw); go_simp; try with_reducible rfl)
                    simp only [Act.put, List.setIfInBounds_toArray, List.set_cons_zero, List.set_cons_succ]
                    refine wpAnyH_take (i := 14) (oi := { dst := some 123, op := Op.indexAddr 28 (Operand.tmp 121) (Operand.tmp 122), type := 0, pos := "outright.go:231", after := #[{ on := 12, ground := Ground.data }, { on := 13, ground := Ground.data }, { on := 11, ground := Ground.guard }], guard := some (11, false) }) (v := ?_) rfl (by kernel_rfl) (by kernel_rfl) (by kernel_rfl) (fun _ _ _ h => h) (Or.inl ⟨by rfl, ?_⟩) hHeld ?_
                    rotate_left 1
                    · (intro w0 hSw; (try dsimp only at hSw); go_simp; try with_reducible rfl)
                    simp only [Act.put, List.setIfInBounds_toArray, List.set_cons_zero, List.set_cons_succ]
                    refine wpAnyH_take (i := 15) (oi := { dst := some 124, op := Op.load 31 (Operand.tmp 123), type := 31, pos := "outright.go:231", after := #[{ on := 14, ground := Ground.data }, { on := 11, ground := Ground.guard }], guard := some (11, false) }) (v := ?_) rfl (by kernel_rfl) (by kernel_rfl) (by kernel_rfl) (fun _ _ _ h => h) (Or.inl ⟨by rfl, ?_⟩) hHeld ?_
                    rotate_left 1
                    · (intro w0 hSw; (try dsimp only at hSw); go_simp; try with_reducible rfl)
                    simp only [Act.put, List.setIfInBounds_toArray, List.set_cons_zero, List.set_cons_succ]
                    refine wpAnyH_ready (rs := [16]) (by kernel_rfl) (by simp) ?_
                    refine AllReadyH.cons (o := { dst := some 125, op := Op.call { callee := Callee.value (Operand.func 16), args := #[Operand.tmp 124], argTypes := #[31] }, type := 4, pos := "outright.go:231", after := #[{ on := 15, ground := Ground.data }, { on := 11, ground := Ground.chain }, { on := 11, ground := Ground.guard }], guard := some (11, false) }) rfl (fun K hK => ?_) AllReadyH.nil
                    go_simp
                    refine (IZy.out _).mono ?_
                    rintro e wn ⟨rfl, hb⟩
                    have hk := hidden (KSt.out _ (Al.bl_trans hHeld.1 hb))
                    go_wp2_with fail
                    refine hK.out _ _ hk.out (fun hHeld2 => ?_)
                    clear hK K hHeld hb hk
                    have hHeld := hHeld2
                    clear hHeld2
                    refine wpAnyH_take (i := 17) (oi := { dst := some 126, op := Op.unOp UnOp.not 4 (Operand.tmp 125), type := 4, pos := "outright.go:231", after := #[{ on := 16, ground := Ground.data }, { on := 11, ground := Ground.guard }], guard := some (11, false) }) (v := ?_) rfl (by kernel_rfl) (by kernel_rfl) (by kernel_rfl) (fun _ _ _ h => h) (Or.inl ⟨by rfl, ?_⟩) hHeld ?_
                    rotate_left 1
                    · (intro w0 hSw; (try dsimp only at hSw); go_simp; try with_reducible rfl)
                    simp only [Act.put, List.setIfInBounds_toArray, List.set_cons_zero, List.set_cons_succ]
                    refine wpAnyH_take (i := 18) (oi := { dst := some 127, op := Op.move (Operand.tmp 126), type := 4, pos := "outright.go:231", after := #[{ on := 17, ground := Ground.data }, { on := 16, ground := Ground.chain }, { on := 11, ground := Ground.guard }], guard := some (11, false) }) (v := ?_) rfl (by kernel_rfl) (by kernel_rfl) (by kernel_rfl) (fun _ _ _ h => h) (Or.inl ⟨by rfl, ?_⟩) hHeld ?_
                    rotate_left 1
                    · (intro w0 hSw; (try dsimp only at hSw); go_simp; try with_reducible rfl)
                    simp only [Act.put, List.setIfInBounds_toArray, List.set_cons_zero, List.set_cons_succ]
                    refine wpAnyH_take (i := 19) (oi := { dst := some 128, op := Op.move (Operand.tmp 9), type := 28, pos := "outright.go:231", after := #[{ on := 18, ground := Ground.guard }], guard := some (18, true) }) (v := undef) rfl (by kernel_rfl) (by kernel_rfl) (by kernel_rfl) (fun _ _ _ h => h) (Or.inr ⟨by rfl, rfl⟩) hHeld ?_
                    simp only [Act.put, List.setIfInBounds_toArray, List.set_cons_zero, List.set_cons_succ]
                    refine wpAnyH_take (i := 20) (oi := { dst := some 129, op := Op.move (Operand.tmp 12), type := 3, pos := "outright.go:231", after := #[{ on := 18, ground := Ground.guard }], guard := some (18, true) }) (v := undef) rfl (by kernel_rfl) (by kernel_rfl) (by kernel_rfl) (fun _ _ _ h => h) (Or.inr ⟨by rfl, rfl⟩) hHeld ?_
                    simp only [Act.put, List.setIfInBounds_toArray, List.set_cons_zero, List.set_cons_succ]
                    refine wpAnyH_take (i := 21) (oi := { dst := some 130, op := Op.indexAddr 28 (Operand.tmp 128) (Operand.tmp 129), type := 0, pos := "outright.go:231", after := #[{ on := 19, ground := Ground.data }, { on := 20, ground := Ground.data }, { on := 18, ground := Ground.guard }], guard := some (18, true) }) (v := undef) rfl (by kernel_rfl) (by kernel_rfl) (by kernel_rfl) (fun _ _ _ h => h) (Or.inr ⟨by rfl, rfl⟩) hHeld ?_
                    simp only [Act.put, List.setIfInBounds_toArray, List.set_cons_zero, List.set_cons_succ]
                    refine wpAnyH_take (i := 22) (oi := { dst := some 131, op := Op.load 31 (Operand.tmp 130), type := 31, pos := "outright.go:231", after := #[{ on := 21, ground := Ground.data }, { on := 18, ground := Ground.guard }], guard := some (18, true) }) (v := undef) rfl (by kernel_rfl) (by kernel_rfl) (by kernel_rfl) (fun _ _ _ h => h) (Or.inr ⟨by rfl, rfl⟩) hHeld ?_
                    simp only [Act.put, List.setIfInBounds_toArray, List.set_cons_zero, List.set_cons_succ]
                    refine wpAnyH_take (i := 23) (oi := { dst := some 132, op := Op.move (Operand.tmp 6), type := 28, pos := "outright.go:231", after := #[{ on := 18, ground := Ground.guard }], guard := some (18, true) }) (v := undef) rfl (by kernel_rfl) (by kernel_rfl) (by kernel_rfl) (fun _ _ _ h => h) (Or.inr ⟨by rfl, rfl⟩) hHeld ?_
                    simp only [Act.put, List.setIfInBounds_toArray, List.set_cons_zero, List.set_cons_succ]
                    refine wpAnyH_take (i := 24) (oi := { dst := some 133, op := Op.move (Operand.tmp 12), type := 3, pos := "outright.go:231", after := #[{ on := 18, ground := Ground.guard }], guard := some (18, true) }) (v := undef) rfl (by kernel_rfl) (by kernel_rfl) (by kernel_rfl) (fun _ _ _ h => h) (Or.inr ⟨by rfl, rfl⟩) hHeld ?_
                    simp only [Act.put, List.setIfInBounds_toArray, List.set_cons_zero, List.set_cons_succ]
                    refine wpAnyH_take (i := 25) (oi := { dst := some 134, op := Op.indexAddr 28 (Operand.tmp 132) (Operand.tmp 133), type := 0, pos := "outright.go:231", after := #[{ on := 23, ground := Ground.data }, { on := 24, ground := Ground.data }, { on := 18, ground := Ground.guard }], guard := some (18, true) }) (v := undef) rfl (by kernel_rfl) (by kernel_rfl) (by kernel_rfl) (fun _ _ _ h => h) (Or.inr ⟨by rfl, rfl⟩) hHeld ?_
                    simp only [Act.put, List.setIfInBounds_toArray, List.set_cons_zero, List.set_cons_succ]
                    refine wpAnyH_take (i := 26) (oi := { dst := some 135, op := Op.load 31 (Operand.tmp 134), type := 31, pos := "outright.go:231", after := #[{ on := 25, ground := Ground.data }, { on := 18, ground := Ground.guard }], guard := some (18, true) }) (v := undef) rfl (by kernel_rfl) (by kernel_rfl) (by kernel_rfl) (fun _ _ _ h => h) (Or.inr ⟨by rfl, rfl⟩) hHeld ?_
                    simp only [Act.put, List.setIfInBounds_toArray, List.set_cons_zero, List.set_cons_succ]
                    refine wpAnyH_ready (rs := [27]) (by kernel_rfl) (by simp) ?_
                    refine AllReadyH.cons (o := { dst := some 136, op := Op.call { callee := Callee.value (Operand.func 17), args := #[Operand.tmp 131, Operand.tmp 135], argTypes := #[31, 31] }, type := 31, pos := "outright.go:231", after := #[{ on := 22, ground := Ground.data }, { on := 26, ground := Ground.data }, { on := 18, ground := Ground.chain }, { on := 18, ground := Ground.guard }], guard := some (18, true) }) rfl (fun K hK => ?_) AllReadyH.nil
                    refine Eq.mpr (if_neg (by exact fun h => Bool.false_ne_true h)) ?_
                    refine hK.out _ _ hHeld (fun hHeld2 => ?_)
                    clear hK K hHeld2
                    simp only [Act.put, List.setIfInBounds_toArray, List.set_cons_zero, List.set_cons_succ]
                    refine wpAnyH_ready (rs := [28]) (by kernel_rfl) (by simp) ?_
                    refine AllReadyH.cons (o := { dst := some 137, op := Op.call { callee := Callee.value (Operand.func 18), args := #[Operand.const (Value.int IntKind.u64 1)], argTypes := #[29] }, type := 31, pos := "outright.go:231", after := #[{ on := 27, ground := Ground.chain }, { on := 18, ground := Ground.guard }], guard := some (18, true) }) rfl (fun K hK => ?_) AllReadyH.nil
                    refine Eq.mpr (if_neg (by exact fun h => Bool.false_ne_true h)) ?_
                    refine hK.out _ _ hHeld (fun hHeld2 => ?_)
                    clear hK K hHeld2
                    simp only [Act.put, List.setIfInBounds_toArray, List.set_cons_zero, List.set_cons_succ]
                    refine wpAnyH_ready (rs := [29]) (by kernel_rfl) (by simp) ?_
                    refine AllReadyH.cons (o := { dst := some 138, op := Op.call { callee := Callee.value (Operand.func 14), args := #[Operand.tmp 136, Operand.tmp 137], argTypes := #[31, 31] }, type := 4, pos := "outright.go:231", after := #[{ on := 27, ground := Ground.data }, { on := 28, ground := Ground.data }, { on := 28, ground := Ground.chain }, { on := 18, ground := Ground.guard }], guard := some (18, true) }) rfl (fun K hK => ?_) AllReadyH.nil
                    refine Eq.mpr (if_neg (by exact fun h => Bool.false_ne_true h)) ?_
                    refine hK.out _ _ hHeld (fun hHeld2 => ?_)
                    clear hK K hHeld2
                    simp only [Act.put, List.setIfInBounds_toArray, List.set_cons_zero, List.set_cons_succ]
                    refine wpAnyH_take (i := 30) (oi := { dst := some 139, op := Op.unOp UnOp.not 4 (Operand.tmp 138), type := 4, pos := "outright.go:231", after := #[{ on := 29, ground := Ground.data }, { on := 18, ground := Ground.guard }], guard := some (18, true) }) (v := undef) rfl (by kernel_rfl) (by kernel_rfl) (by kernel_rfl) (fun _ _ _ h => h) (Or.inr ⟨by rfl, rfl⟩) hHeld ?_
                    simp only [Act.put, List.setIfInBounds_toArray, List.set_cons_zero, List.set_cons_succ]
                    refine wpAnyH_take (i := 31) (oi := { dst := some 140, op := Op.pick (Operand.tmp 127) (Operand.tmp 139) (Operand.const (Value.bool false)), type := 4, pos := "outright.go:231", after := #[{ on := 18, ground := Ground.data }, { on := 30, ground := Ground.data }, { on := 11, ground := Ground.guard }], guard := some (11, false) }) (v := ?_) rfl (by kernel_rfl) (by kernel_rfl) (by kernel_rfl) (fun _ _ _ h => h) (Or.inl ⟨by rfl, ?_⟩) hHeld ?_
                    rotate_left 1
                    · (intro w0 hSw; (try dsimp only at hSw); go_simp; try with_reducible rfl)
                    simp only [Act.put, List.setIfInBounds_toArray, List.set_cons_zero, List.set_cons_succ]
                    refine wpAnyH_take (i := 32) (oi := { dst := some 141, op := Op.pick (Operand.tmp 120) (Operand.const (Value.bool true)) (Operand.tmp 140), type := 4, pos := "outright.go:231", after := #[{ on := 11, ground := Ground.data }, { on := 31, ground := Ground.data }], guard := none }) (v := ?_) rfl (by kernel_rfl) (by kernel_rfl) (by kernel_rfl) (fun _ _ _ h => h) (Or.inl ⟨by rfl, ?_⟩) hHeld ?_
                    rotate_left 1
                    · (intro w0 hSw; (try dsimp only at hSw); go_simp; try with_reducible rfl)
                    simp only [Act.put, List.setIfInBounds_toArray, List.set_cons_zero, List.set_cons_succ]
                    refine wpAnyH_done (by kernel_rfl) ?_ _
                    refine NoPanic.normal ?_
                    have HH := hidden hHeld.1
                    clear hHeld
                    go_wp2_with fail
                    go_meet
                    exact ⟨rfl, HH.out⟩
                · have SM3 := hidden (SM2.out (fun h => hz (Al.c_zero.1 h)))
                  have hd : decide (y.n % Fm.P = 0) = false := decide_eq_false hz
                  simp only [hd] at IZy
                  clear hz hd SM2 NG AE how hbl
                  as_aux_lemma =>
                    refine wp_region_noPanic ?_
                    refine wp_region_held_drew (S := fun w' => Below wr.heap.size wr w' ∧ w'.cell? ⟨J, m * 5, none⟩ = some (.int .u64 x.x0) ∧ w'.cell? ⟨J, m * 5 + 1, none⟩ = some (.int .u64 x.x1) ∧ w'.cell? ⟨J, m * 5 + 2, none⟩ = some (.int .u64 x.x2) ∧ w'.cell? ⟨J, m * 5 + 3, none⟩ = some (.int .u64 x.x3) ∧ w'.cell? ⟨J, m * 5 + 4, none⟩ = some (.int .u64 x.x4) ∧ w'.cell? ⟨G, m * 5, none⟩ = some (.int .u64 y.x0) ∧ w'.cell? ⟨G, m * 5 + 1, none⟩ = some (.int .u64 y.x1) ∧ w'.cell? ⟨G, m * 5 + 2, none⟩ = some (.int .u64 y.x2) ∧ w'.cell? ⟨G, m * 5 + 3, none⟩ = some (.int .u64 y.x3) ∧ w'.cell? ⟨G, m * 5 + 4, none⟩ = some (.int .u64 y.x4)) (by kernel_rfl) K0.out (fun hHeld => ?_)
                    refine wpAnyH_take (i := 0) (oi := { dst := some 109, op := Op.move (Operand.tmp 9), type := 28, pos := "outright.go:231", after := #[], guard := none }) (v := ?_) rfl (by kernel_rfl) (by kernel_rfl) (by kernel_rfl) (fun _ _ _ h => h) (Or.inl ⟨by rfl, ?_⟩) hHeld ?_
                    rotate_left 1
                    · (intro w0 hSw; (try dsimp only at hSw); go_simp; try with_reducible rfl)
                    simp only [Act.put, List.setIfInBounds_toArray, List.set_cons_zero, List.set_cons_succ]
                    refine wpAnyH_take (i := 1) (oi := { dst := some 110, op := Op.move (Operand.tmp 12), type := 3, pos := "outright.go:231", after := #[], guard := none }) (v := ?_) rfl (by kernel_rfl) (by kernel_rfl) (by kernel_rfl) (fun _ _ _ h => h) (Or.inl ⟨by rfl, ?_⟩) hHeld ?_
                    rotate_left 1
                    · (intro w0 hSw; (try dsimp only at hSw); go_simp; try with_reducible rfl)
                    simp only [Act.put, List.setIfInBounds_toArray, List.set_cons_zero, List.set_cons_succ]
                    refine wpAnyH_take (i := 2) (oi := { dst := some 111, op := Op.indexAddr 28 (Operand.tmp 109) (Operand.tmp 110), type := 0, pos := "outright.go:231", after := #[{ on := 0, ground := Ground.data }, { on := 1, ground := Ground.data }], guard := none }) (v := ?_) rfl (by kernel_rfl) (by kernel_rfl) (by kernel_rfl) (fun _ _ _ h => h) (Or.inl ⟨by rfl, ?_⟩) hHeld ?_
                    rotate_left 1
                    · (intro w0 hSw; (try dsimp only at hSw); go_simp; try with_reducible rfl)
                    simp only [Act.put, List.setIfInBounds_toArray, List.set_cons_zero, List.set_cons_succ]
                    refine wpAnyH_take (i := 3) (oi := { dst := some 112, op := Op.load 31 (Operand.tmp 111), type := 31, pos := "outright.go:231", after := #[{ on := 2, ground := Ground.data }], guard := none }) (v := ?_) rfl (by kernel_rfl) (by kernel_rfl) (by kernel_rfl) (fun _ _ _ h => h) (Or.inl ⟨by rfl, ?_⟩) hHeld ?_
                    rotate_left 1
                    · (intro w0 hSw; (try dsimp only at hSw); go_simp; try with_reducible rfl)
                    simp only [Act.put, List.setIfInBounds_toArray, List.set_cons_zero, List.set_cons_succ]
                    refine wpAnyH_take (i := 4) (oi := { dst := some 113, op := Op.move (Operand.tmp 6), type := 28, pos := "outright.go:231", after := #[], guard := none }) (v := ?_) rfl (by kernel_rfl) (by kernel_rfl) (by kernel_rfl) (fun _ _ _ h => h) (Or.inl ⟨by rfl, ?_⟩) hHeld ?_
                    rotate_left 1
                    · (intro w0 hSw; (try dsimp only at hSw); go_simp; try with_reducible rfl)
                    simp only [Act.put, List.setIfInBounds_toArray, List.set_cons_zero, List.set_cons_succ]
                    refine wpAnyH_take (i := 5) (oi := { dst := some 114, op := Op.move (Operand.tmp 12), type := 3, pos := "outright.go:231", after := #[], guard := none }) (v := ?_) rfl (by kernel_rfl) (by kernel_rfl) (by kernel_rfl) (fun _ _ _ h => h) (Or.inl ⟨by rfl, ?_⟩) hHeld ?_
                    rotate_left 1
                    · (intro w0 hSw; (try dsimp only at hSw); go_simp; try with_reducible rfl)
                    simp only [Act.put, List.setIfInBounds_toArray, List.set_cons_zero, List.set_cons_succ]
                    refine wpAnyH_take (i := 6) (oi := { dst := some 115, op := Op.indexAddr 28 (Operand.tmp 113) (Operand.tmp 114), type := 0, pos := "outright.go:231", after := #[{ on := 4, ground := Ground.data }, { on := 5, ground := Ground.data }], guard := none }) (v := ?_) rfl (by kernel_rfl) (by kernel_rfl) (by kernel_rfl) (fun _ _ _ h => h) (Or.inl ⟨by rfl, ?_⟩) hHeld ?_
                    rotate_left 1
                    · (intro w0 hSw; (try dsimp only at hSw); go_simp; try with_reducible rfl)
                    simp only [Act.put, List.setIfInBounds_toArray, List.set_cons_zero, List.set_cons_succ]
                    refine wpAnyH_take (i := 7) (oi := { dst := some 116, op := Op.load 31 (Operand.tmp 115), type := 31, pos := "outright.go:231", after := #[{ on := 6, ground := Ground.data }], guard := none }) (v := ?_) rfl (by kernel_rfl) (by kernel_rfl) (by kernel_rfl) (fun _ _ _ h => h) (Or.inl ⟨by rfl, ?_⟩) hHeld ?_
                    rotate_left 1
                    · (intro w0 hSw; (try dsimp only at hSw); go_simp; try with_reducible rfl)
                    simp only [Act.put, List.setIfInBounds_toArray, List.set_cons_zero, List.set_cons_succ]
                    refine wpAnyH_ready (rs := [8]) (by kernel_rfl) (by simp) ?_
                    refine AllReadyH.cons (o := { dst := some 117, op := Op.call { callee := Callee.value (Operand.func 15), args := #[Operand.tmp 116], argTypes := #[31] }, type := 31, pos := "outright.go:231", after := #[{ on := 7, ground := Ground.data }], guard := none }) rfl (fun K hK => ?_) AllReadyH.nil
                    go_simp
                    refine (IV.out _).mono ?_
                    rintro e wn ⟨rfl, hb⟩
                    have hk := hidden (KSt.out _ (Al.bl_trans hHeld.1 hb))
                    go_wp2_with fail
                    refine hK.out _ _ hk.out (fun hHeld2 => ?_)
                    clear hK K hHeld hb hk
                    have hHeld := hHeld2
                    clear hHeld2
                    refine wpAnyH_ready (rs := [9]) (by kernel_rfl) (by simp) ?_
                    refine AllReadyH.cons (o := { dst := some 118, op := Op.call { callee := Callee.value (Operand.func 14), args := #[Operand.tmp 112, Operand.tmp 117], argTypes := #[31, 31] }, type := 4, pos := "outright.go:231", after := #[{ on := 3, ground := Ground.data }, { on := 8, ground := Ground.data }, { on := 8, ground := Ground.chain }], guard := none }) rfl (fun K hK => ?_) AllReadyH.nil
                    go_simp
                    refine (SM1.out _).mono ?_
                    rintro e wn ⟨rfl, hb⟩
                    have hk := hidden (KSt.out _ (Al.bl_trans hHeld.1 hb))
                    go_wp2_with fail
                    refine hK.out _ _ hk.out (fun hHeld2 => ?_)
                    clear hK K hHeld hb hk
                    have hHeld := hHeld2
                    clear hHeld2
                    refine wpAnyH_take (i := 10) (oi := { dst := some 119, op := Op.unOp UnOp.not 4 (Operand.tmp 118), type := 4, pos := "outright.go:231", after := #[{ on := 9, ground := Ground.data }], guard := none }) (v := ?_) rfl (by kernel_rfl) (by kernel_rfl) (by kernel_rfl) (fun _ _ _ h => h) (Or.inl ⟨by rfl, ?_⟩) hHeld ?_
                    rotate_left 1
                    · (intro w0 hSw; (try dsimp only at hSw); go_simp; try with_reducible rfl)
                    simp only [Act.put, List.setIfInBounds_toArray, List.set_cons_zero, List.set_cons_succ]
                    refine wpAnyH_take (i := 11) (oi := { dst := some 120, op := Op.move (Operand.tmp 119), type := 4, pos := "outright.go:231", after := #[{ on := 10, ground := Ground.data }, { on := 9, ground := Ground.chain }], guard := none }) (v := ?_) rfl (by kernel_rfl) (by kernel_rfl) (by kernel_rfl) (fun _ _ _ h => h) (Or.inl ⟨by rfl, ?_⟩) hHeld ?_
                    rotate_left 1
                    · (intro w0 hSw; (try dsimp only at hSw); go_simp; try with_reducible rfl)
                    simp only [Act.put, List.setIfInBounds_toArray, List.set_cons_zero, List.set_cons_succ]
                    refine wpAnyH_take (i := 12) (oi := { dst := some 121, op := Op.move (Operand.tmp 6), type := 28, pos := "outright.go:231", after := #[{ on := 11, ground := Ground.guard }], guard := some (11, false) }) (v := ?_) rfl (by kernel_rfl) (by kernel_rfl) (by kernel_rfl) (fun _ _ _ h => h) (Or.inl ⟨by rfl, ?_⟩) hHeld ?_
                    rotate_left 1
                    · (intro w0 hSw; (try dsimp only at hSw); go_simp; try with_reducible rfl)
                    simp only [Act.put, List.setIfInBounds_toArray, List.set_cons_zero, List.set_cons_succ]
                    refine wpAnyH_take (i := 13) (oi := { dst := some 122, op := Op.move (Operand.tmp 12), type := 3, pos := "outright.go:231", after := #[{ on := 11, ground := Ground.guard }], guard := some (11, false) }) (v := ?_) rfl (by kernel_rfl) (by kernel_rfl) (by kernel_rfl) (fun _ _ _ h => h) (Or.inl ⟨by rfl, ?_⟩) hHeld ?_
                    rotate_left 1
                    · (intro w0 hSw; (try dsimp only at hSw); go_simp; try with_reducible rfl)
                    simp only [Act.put, List.setIfInBounds_toArray, List.set_cons_zero, List.set_cons_succ]
                    refine wpAnyH_take (i := 14) (oi := { dst := some 123, op := Op.indexAddr 28 (Operand.tmp 121) (Operand.tmp 122), type := 0, pos := "outright.go:231", after := #[{ on := 12, ground := Ground.data }, { on := 13, ground := Ground.data }, { on := 11, ground := Ground.guard }], guard := some (11, false) }) (v := ?_) rfl (by kernel_rfl) (by kernel_rfl) (by kernel_rfl) (fun _ _ _ h => h) (Or.inl ⟨by rfl, ?_⟩) hHeld ?_
                    rotate_left 1
                    · (intro w0 hSw; (try dsimp only at hSw); go_simp; try with_reducible rfl)
                    simp only [Act.put, List.setIfInBounds_toArray, List.set_cons_zero, List.set_cons_succ]
                    refine wpAnyH_take (i := 15) (oi := { dst := some 124, op := Op.load 31 (Operand.tmp 123), type := 31, pos := "outright.go:231", after := #[{ on := 14, ground := Ground.data }, { on := 11, ground := Ground.guard }], guard := some (11, false) }) (v := ?_) rfl (by kernel_rfl) (by kernel_rfl) (by kernel_rfl) (fun _ _ _ h => h) (Or.inl ⟨by rfl, ?_⟩) hHeld ?_
                    rotate_left 1
                    · (intro w0 hSw; (try dsimp only at hSw); go_simp; try with_reducible rfl)
                    simp only [Act.put, List.setIfInBounds_toArray, List.set_cons_zero, List.set_cons_succ]
                    refine wpAnyH_ready (rs := [16]) (by kernel_rfl) (by simp) ?_
                    refine AllReadyH.cons (o := { dst := some 125, op := Op.call { callee := Callee.value (Operand.func 16), args := #[Operand.tmp 124], argTypes := #[31] }, type := 4, pos := "outright.go:231", after := #[{ on := 15, ground := Ground.data }, { on := 11, ground := Ground.chain }, { on := 11, ground := Ground.guard }], guard := some (11, false) }) rfl (fun K hK => ?_) AllReadyH.nil
                    go_simp
                    refine (IZy.out _).mono ?_
                    rintro e wn ⟨rfl, hb⟩
                    have hk := hidden (KSt.out _ (Al.bl_trans hHeld.1 hb))
                    go_wp2_with fail
                    refine hK.out _ _ hk.out (fun hHeld2 => ?_)
                    clear hK K hHeld hb hk
                    have hHeld := hHeld2
                    clear hHeld2
                    refine wpAnyH_take (i := 17) (oi := { dst := some 126, op := Op.unOp UnOp.not 4 (Operand.tmp 125), type := 4, pos := "outright.go:231", after := #[{ on := 16, ground := Ground.data }, { on := 11, ground := Ground.guard }], guard := some (11, false) }) (v := ?_) rfl (by kernel_rfl) (by kernel_rfl) (by kernel_rfl) (fun _ _ _ h => h) (Or.inl ⟨by rfl, ?_⟩) hHeld ?_
                    rotate_left 1
                    · (intro w0 hSw; (try dsimp only at hSw); go_simp; try with_reducible rfl)
                    simp only [Act.put, List.setIfInBounds_toArray, List.set_cons_zero, List.set_cons_succ]
                    refine wpAnyH_take (i := 18) (oi := { dst := some 127, op := Op.move (Operand.tmp 126), type := 4, pos := "outright.go:231", after := #[{ on := 17, ground := Ground.data }, { on := 16, ground := Ground.chain }, { on := 11, ground := Ground.guard }], guard := some (11, false) }) (v := ?_) rfl (by kernel_rfl) (by kernel_rfl) (by kernel_rfl) (fun _ _ _ h => h) (Or.inl ⟨by rfl, ?_⟩) hHeld ?_
                    rotate_left 1
                    · (intro w0 hSw; (try dsimp only at hSw); go_simp; try with_reducible rfl)
                    simp only [Act.put, List.setIfInBounds_toArray, List.set_cons_zero, List.set_cons_succ]
                    refine wpAnyH_take (i := 19) (oi := { dst := some 128, op := Op.move (Operand.tmp 9), type := 28, pos := "outright.go:231", after := #[{ on := 18, ground := Ground.guard }], guard := some (18, true) }) (v := ?_) rfl (by kernel_rfl) (by kernel_rfl) (by kernel_rfl) (fun _ _ _ h => h) (Or.inl ⟨by rfl, ?_⟩) hHeld ?_
                    rotate_left 1
                    · (intro w0 hSw; (try dsimp only at hSw); go_simp; try with_reducible rfl)
                    simp only [Act.put, List.setIfInBounds_toArray, List.set_cons_zero, List.set_cons_succ]
                    refine wpAnyH_take (i := 20) (oi := { dst := some 129, op := Op.move (Operand.tmp 12), type := 3, pos := "outright.go:231", after := #[{ on := 18, ground := Ground.guard }], guard := some (18, true) }) (v := ?_) rfl (by kernel_rfl) (by kernel_rfl) (by kernel_rfl) (fun _ _ _ h => h) (Or.inl ⟨by rfl, ?_⟩) hHeld ?_
                    rotate_left 1
                    · (intro w0 hSw; (try dsimp only at hSw); go_simp; try with_reducible rfl)
                    simp only [Act.put, List.setIfInBounds_toArray, List.set_cons_zero, List.set_cons_succ]
                    refine wpAnyH_take (i := 21) (oi := { dst := some 130, op := Op.indexAddr 28 (Operand.tmp 128) (Operand.tmp 129), type := 0, pos := "outright.go:231", after := #[{ on := 19, ground := Ground.data }, { on := 20, ground := Ground.data }, { on := 18, ground := Ground.guard }], guard := some (18, true) }) (v := ?_) rfl (by kernel_rfl) (by kernel_rfl) (by kernel_rfl) (fun _ _ _ h => h) (Or.inl ⟨by rfl, ?_⟩) hHeld ?_
                    rotate_left 1
                    · (intro w0 hSw; (try dsimp only at hSw); go_simp; try with_reducible rfl)
                    simp only [Act.put, List.setIfInBounds_toArray, List.set_cons_zero, List.set_cons_succ]
                    refine wpAnyH_take (i := 22) (oi := { dst := some 131, op := Op.load 31 (Operand.tmp 130), type := 31, pos := "outright.go:231", after := #[{ on := 21, ground := Ground.data }, { on := 18, ground := Ground.guard }], guard := some (18, true) }) (v := ?_) rfl (by kernel_rfl) (by kernel_rfl) (by kernel_rfl) (fun _ _ _ h => h) (Or.inl ⟨by rfl, ?_⟩) hHeld ?_
                    rotate_left 1
                    · (intro w0 hSw; (try dsimp only at hSw); go_simp; try with_reducible rfl)
                    simp only [Act.put, List.setIfInBounds_toArray, List.set_cons_zero, List.set_cons_succ]
                    refine wpAnyH_take (i := 23) (oi := { dst := some 132, op := Op.move (Operand.tmp 6), type := 28, pos := "outright.go:231", after := #[{ on := 18, ground := Ground.guard }], guard := some (18, true) }) (v := ?_) rfl (by kernel_rfl) (by kernel_rfl) (by kernel_rfl) (fun _ _ _ h => h) (Or.inl ⟨by rfl, ?_⟩) hHeld ?_
                    rotate_left 1
                    · (intro w0 hSw; (try dsimp only at hSw); go_simp; try with_reducible rfl)
                    simp only [Act.put, List.setIfInBounds_toArray, List.set_cons_zero, List.set_cons_succ]
                    refine wpAnyH_take (i := 24) (oi := { dst := some 133, op := Op.move (Operand.tmp 12), type := 3, pos := "outright.go:231", after := #[{ on := 18, ground := Ground.guard }], guard := some (18, true) }) (v := ?_) rfl (by kernel_rfl) (by kernel_rfl) (by kernel_rfl) (fun _ _ _ h => h) (Or.inl ⟨by rfl, ?_⟩) hHeld ?_
                    rotate_left 1
                    · (intro w0 hSw; (try dsimp only at hSw); go_simp; try with_reducible rfl)
                    simp only [Act.put, List.setIfInBounds_toArray, List.set_cons_zero, List.set_cons_succ]
                    refine wpAnyH_take (i := 25) (oi := { dst := some 134, op := Op.indexAddr 28 (Operand.tmp 132) (Operand.tmp 133), type := 0, pos := "outright.go:231", after := #[{ on := 23, ground := Ground.data }, { on := 24, ground := Ground.data }, { on := 18, ground := Ground.guard }], guard := some (18, true) }) (v := ?_) rfl (by kernel_rfl) (by kernel_rfl) (by kernel_rfl) (fun _ _ _ h => h) (Or.inl ⟨by rfl, ?_⟩) hHeld ?_
                    rotate_left 1
                    · (intro w0 hSw; (try dsimp only at hSw); go_simp; try with_reducible rfl)
                    simp only [Act.put, List.setIfInBounds_toArray, List.set_cons_zero, List.set_cons_succ]
                    refine wpAnyH_take (i := 26) (oi := { dst := some 135, op := Op.load 31 (Operand.tmp 134), type := 31, pos := "outright.go:231", after := #[{ on := 25, ground := Ground.data }, { on := 18, ground := Ground.guard }], guard := some (18, true) }) (v := ?_) rfl (by kernel_rfl) (by kernel_rfl) (by kernel_rfl) (fun _ _ _ h => h) (Or.inl ⟨by rfl, ?_⟩) hHeld ?_
                    rotate_left 1
                    · (intro w0 hSw; (try dsimp only at hSw); go_simp; try with_reducible rfl)
                    simp only [Act.put, List.setIfInBounds_toArray, List.set_cons_zero, List.set_cons_succ]
                    refine wpAnyH_ready (rs := [27]) (by kernel_rfl) (by simp) ?_
                    refine AllReadyH.cons (o := { dst := some 136, op := Op.call { callee := Callee.value (Operand.func 17), args := #[Operand.tmp 131, Operand.tmp 135], argTypes := #[31, 31] }, type := 31, pos := "outright.go:231", after := #[{ on := 22, ground := Ground.data }, { on := 26, ground := Ground.data }, { on := 18, ground := Ground.chain }, { on := 18, ground := Ground.guard }], guard := some (18, true) }) rfl (fun K hK => ?_) AllReadyH.nil
                    go_simp
                    refine (MU.out _).mono ?_
                    rintro e wn ⟨rfl, hb⟩
                    have hk := hidden (KSt.out _ (Al.bl_trans hHeld.1 hb))
                    go_wp2_with fail
                    refine hK.out _ _ hk.out (fun hHeld2 => ?_)
                    clear hK K hHeld hb hk
                    have hHeld := hHeld2
                    clear hHeld2
                    refine wpAnyH_ready (rs := [28]) (by kernel_rfl) (by simp) ?_
                    refine AllReadyH.cons (o := { dst := some 137, op := Op.call { callee := Callee.value (Operand.func 18), args := #[Operand.const (Value.int IntKind.u64 1)], argTypes := #[29] }, type := 31, pos := "outright.go:231", after := #[{ on := 27, ground := Ground.chain }, { on := 18, ground := Ground.guard }], guard := some (18, true) }) rfl (fun K hK => ?_) AllReadyH.nil
                    go_simp
                    refine (ON.out _).mono ?_
                    rintro e wn ⟨rfl, hb⟩
                    have hk := hidden (KSt.out _ (Al.bl_trans hHeld.1 hb))
                    go_wp2_with fail
                    refine hK.out _ _ hk.out (fun hHeld2 => ?_)
                    clear hK K hHeld hb hk
                    have hHeld := hHeld2
                    clear hHeld2
                    refine wpAnyH_ready (rs := [29]) (by kernel_rfl) (by simp) ?_
                    refine AllReadyH.cons (o := { dst := some 138, op := Op.call { callee := Callee.value (Operand.func 14), args := #[Operand.tmp 136, Operand.tmp 137], argTypes := #[31, 31] }, type := 4, pos := "outright.go:231", after := #[{ on := 27, ground := Ground.data }, { on := 28, ground := Ground.data }, { on := 28, ground := Ground.chain }, { on := 18, ground := Ground.guard }], guard := some (18, true) }) rfl (fun K hK => ?_) AllReadyH.nil
                    go_simp
                    refine (SM3.out _).mono ?_
                    rintro e wn ⟨rfl, hb⟩
                    have hk := hidden (KSt.out _ (Al.bl_trans hHeld.1 hb))
                    go_wp2_with fail
                    refine hK.out _ _ hk.out (fun hHeld2 => ?_)
                    clear hK K hHeld hb hk
                    have hHeld := hHeld2
                    clear hHeld2
                    refine wpAnyH_take (i := 30) (oi := { dst := some 139, op := Op.unOp UnOp.not 4 (Operand.tmp 138), type := 4, pos := "outright.go:231", after := #[{ on := 29, ground := Ground.data }, { on := 18, ground := Ground.guard }], guard := some (18, true) }) (v := ?_) rfl (by kernel_rfl) (by kernel_rfl) (by kernel_rfl) (fun _ _ _ h => h) (Or.inl ⟨by rfl, ?_⟩) hHeld ?_
                    rotate_left 1
                    · (intro w0 hSw; (try dsimp only at hSw); go_simp; try with_reducible rfl)
                    simp only [Act.put, List.setIfInBounds_toArray, List.set_cons_zero, List.set_cons_succ]
                    refine wpAnyH_take (i := 31) (oi := { dst := some 140, op := Op.pick (Operand.tmp 127) (Operand.tmp 139) (Operand.const (Value.bool false)), type := 4, pos := "outright.go:231", after := #[{ on := 18, ground := Ground.data }, { on := 30, ground := Ground.data }, { on := 11, ground := Ground.guard }], guard := some (11, false) }) (v := ?_) rfl (by kernel_rfl) (by kernel_rfl) (by kernel_rfl) (fun _ _ _ h => h) (Or.inl ⟨by rfl, ?_⟩) hHeld ?_
                    rotate_left 1
                    · (intro w0 hSw; (try dsimp only at hSw); go_simp; try with_reducible rfl)
                    simp only [Act.put, List.setIfInBounds_toArray, List.set_cons_zero, List.set_cons_succ]
                    refine wpAnyH_take (i := 32) (oi := { dst := some 141, op := Op.pick (Operand.tmp 120) (Operand.const (Value.bool true)) (Operand.tmp 140), type := 4, pos := "outright.go:231", after := #[{ on := 11, ground := Ground.data }, { on := 31, ground := Ground.data }], guard := none }) (v := ?_) rfl (by kernel_rfl) (by kernel_rfl) (by kernel_rfl) (fun _ _ _ h => h) (Or.inl ⟨by rfl, ?_⟩) hHeld ?_
                    rotate_left 1
                    · (intro w0 hSw; (try dsimp only at hSw); go_simp; try with_reducible rfl)
                    simp only [Act.put, List.setIfInBounds_toArray, List.set_cons_zero, List.set_cons_succ]
                    refine wpAnyH_done (by kernel_rfl) ?_ _
                    refine NoPanic.normal ?_
                    have HH := hidden hHeld.1
                    clear hHeld
                    go_wp2_with fail
                    go_meet
                    exact ⟨rfl, HH.out⟩
              case rest =>
              obtain ⟨rfl, hb⟩ := hcut
              have OW8 := hidden (own5_keep how.out hb)
              have B8 := hidden (Al.bl_trans hbl.out hb)
              clear hb hbl how KSt K0 IV MU ON SM1 SM2 IZy
              generalize wc = w8 at *
              have KSt : Hid (∀ w', Below w6.heap.size w6 w' → (fun w' => Below w6.heap.size w6 w' ∧ w'.cell? ⟨G, m * 5, none⟩ = some (.int .u64 y.x0) ∧ w'.cell? ⟨G, m * 5 + 1, none⟩ = some (.int .u64 y.x1) ∧ w'.cell? ⟨G, m * 5 + 2, none⟩ = some (.int .u64 y.x2) ∧ w'.cell? ⟨G, m * 5 + 3, none⟩ = some (.int .u64 y.x3) ∧ w'.cell? ⟨G, m * 5 + 4, none⟩ = some (.int .u64 y.x4)) w') := hidden (fun w' hb => ⟨hb, CY.out w' hb⟩)
              have K0 := hidden (KSt.out _ (Al.bl_trans B8.out (Al.bl_drew w8)))
              clear CY
              go_upto_region 24 with fail
              refine wp_region_noPanic ?_
              refine wp_region_held_drew (S := fun w' => Below w6.heap.size w6 w' ∧ w'.cell? ⟨G, m * 5, none⟩ = some (.int .u64 y.x0) ∧ w'.cell? ⟨G, m * 5 + 1, none⟩ = some (.int .u64 y.x1) ∧ w'.cell? ⟨G, m * 5 + 2, none⟩ = some (.int .u64 y.x2) ∧ w'.cell? ⟨G, m * 5 + 3, none⟩ = some (.int .u64 y.x3) ∧ w'.cell? ⟨G, m * 5 + 4, none⟩ = some (.int .u64 y.x4)) (by kernel_rfl) K0.out (fun hHeld => ?_)
              refine wpAnyH_take (i := 0) (oi := { dst := some 142, op := Op.move (Operand.tmp 10), type := 28, pos := "outright.go:234", after := #[], guard := none }) (v := ?_) rfl (by kernel_rfl) (by kernel_rfl) (by kernel_rfl) (fun _ _ _ h => h) (Or.inl ⟨by rfl, ?_⟩) hHeld ?_
              rotate_left 1
              · (intro w0 hSw; (try dsimp only at hSw); go_simp; try with_reducible rfl)
              simp only [Act.put, List.setIfInBounds_toArray, List.set_cons_zero, List.set_cons_succ]
              refine wpAnyH_take (i := 1) (oi := { dst := some 143, op := Op.move (Operand.tmp 6), type := 28, pos := "outright.go:234", after := #[], guard := none }) (v := ?_) rfl (by kernel_rfl) (by kernel_rfl) (by kernel_rfl) (fun _ _ _ h => h) (Or.inl ⟨by rfl, ?_⟩) hHeld ?_
              rotate_left 1
              · (intro w0 hSw; (try dsimp only at hSw); go_simp; try with_reducible rfl)
              simp only [Act.put, List.setIfInBounds_toArray, List.set_cons_zero, List.set_cons_succ]
              refine wpAnyH_take (i := 2) (oi := { dst := some 144, op := Op.move (Operand.tmp 12), type := 3, pos := "outright.go:234", after := #[], guard := none }) (v := ?_) rfl (by kernel_rfl) (by kernel_rfl) (by kernel_rfl) (fun _ _ _ h => h) (Or.inl ⟨by rfl, ?_⟩) hHeld ?_
              rotate_left 1
              · (intro w0 hSw; (try dsimp only at hSw); go_simp; try with_reducible rfl)
              simp only [Act.put, List.setIfInBounds_toArray, List.set_cons_zero, List.set_cons_succ]
              refine wpAnyH_take (i := 3) (oi := { dst := some 145, op := Op.indexAddr 28 (Operand.tmp 143) (Operand.tmp 144), type := 0, pos := "outright.go:234", after := #[{ on := 1, ground := Ground.data }, { on := 2, ground := Ground.data }], guard := none }) (v := ?_) rfl (by kernel_rfl) (by kernel_rfl) (by kernel_rfl) (fun _ _ _ h => h) (Or.inl ⟨by rfl, ?_⟩) hHeld ?_
              rotate_left 1
              · (intro w0 hSw; (try dsimp only at hSw); go_simp; try with_reducible rfl)
              simp only [Act.put, List.setIfInBounds_toArray, List.set_cons_zero, List.set_cons_succ]
              refine wpAnyH_take (i := 4) (oi := { dst := some 146, op := Op.load 31 (Operand.tmp 145), type := 31, pos := "outright.go:234", after := #[{ on := 3, ground := Ground.data }], guard := none }) (v := ?_) rfl (by kernel_rfl) (by kernel_rfl) (by kernel_rfl) (fun _ _ _ h => h) (Or.inl ⟨by rfl, ?_⟩) hHeld ?_
              rotate_left 1
              · (intro w0 hSw; (try dsimp only at hSw); go_simp; try with_reducible rfl)
              simp only [Act.put, List.setIfInBounds_toArray, List.set_cons_zero, List.set_cons_succ]
              refine wpAnyH_take (i := 5) (oi := { dst := some 147, op := Op.move (Operand.tmp 6), type := 28, pos := "outright.go:234", after := #[], guard := none }) (v := ?_) rfl (by kernel_rfl) (by kernel_rfl) (by kernel_rfl) (fun _ _ _ h => h) (Or.inl ⟨by rfl, ?_⟩) hHeld ?_
              rotate_left 1
              · (intro w0 hSw; (try dsimp only at hSw); go_simp; try with_reducible rfl)
              simp only [Act.put, List.setIfInBounds_toArray, List.set_cons_zero, List.set_cons_succ]
              refine wpAnyH_take (i := 6) (oi := { dst := some 148, op := Op.move (Operand.tmp 12), type := 3, pos := "outright.go:234", after := #[], guard := none }) (v := ?_) rfl (by kernel_rfl) (by kernel_rfl) (by kernel_rfl) (fun _ _ _ h => h) (Or.inl ⟨by rfl, ?_⟩) hHeld ?_
              rotate_left 1
              · (intro w0 hSw; (try dsimp only at hSw); go_simp; try with_reducible rfl)
              simp only [Act.put, List.setIfInBounds_toArray, List.set_cons_zero, List.set_cons_succ]
              refine wpAnyH_take (i := 7) (oi := { dst := some 149, op := Op.indexAddr 28 (Operand.tmp 147) (Operand.tmp 148), type := 0, pos := "outright.go:234", after := #[{ on := 5, ground := Ground.data }, { on := 6, ground := Ground.data }], guard := none }) (v := ?_) rfl (by kernel_rfl) (by kernel_rfl) (by kernel_rfl) (fun _ _ _ h => h) (Or.inl ⟨by rfl, ?_⟩) hHeld ?_
              rotate_left 1
              · (intro w0 hSw; (try dsimp only at hSw); go_simp; try with_reducible rfl)
              simp only [Act.put, List.setIfInBounds_toArray, List.set_cons_zero, List.set_cons_succ]
              refine wpAnyH_take (i := 8) (oi := { dst := some 150, op := Op.load 31 (Operand.tmp 149), type := 31, pos := "outright.go:234", after := #[{ on := 7, ground := Ground.data }], guard := none }) (v := ?_) rfl (by kernel_rfl) (by kernel_rfl) (by kernel_rfl) (fun _ _ _ h => h) (Or.inl ⟨by rfl, ?_⟩) hHeld ?_
              rotate_left 1
              · (intro w0 hSw; (try dsimp only at hSw); go_simp; try with_reducible rfl)
              simp only [Act.put, List.setIfInBounds_toArray, List.set_cons_zero, List.set_cons_succ]
              refine wpAnyH_ready (rs := [9]) (by kernel_rfl) (by simp) ?_
              refine AllReadyH.cons (o := { dst := some 151, op := Op.call { callee := Callee.value (Operand.func 19), args := #[Operand.tmp 150], argTypes := #[31] }, type := 31, pos := "outright.go:234", after := #[{ on := 8, ground := Ground.data }], guard := none }) rfl (fun K hK => ?_) AllReadyH.nil
              go_simp
              refine (NG.out _).mono ?_
              rintro e wn ⟨rfl, hb⟩
              have hk := hidden (KSt.out _ (Al.bl_trans hHeld.1 hb))
              have OWN := hidden (own5_keep (own5_keep OW8.out (Al.bl_drew w8)) hb)
              have BN := hidden (Al.bl_trans hHeld.1 hb)
              go_wp2_with fail
              refine hK.out _ _ hk.out (fun hHeld2 => ?_)
              clear hK K hHeld hb hk hHeld2
              refine wpAnyH_ready (rs := [10]) (by kernel_rfl) (by simp) ?_
              refine AllReadyH.cons (o := { dst := some 152, op := Op.buildSlice 28 2 #[(0, Operand.tmp 146), (1, Operand.tmp 151)], type := 28, pos := "outright.go:234", after := #[{ on := 4, ground := Ground.data }, { on := 9, ground := Ground.data }], guard := none }) rfl (fun K hK => ?_) AllReadyH.nil
              go_simp
              refine hK.out _ _ (KSt.out _ (Al.bl_trans BN.out (Al.bl_alloc _ _))) (fun hHeld => ?_)
              clear hK K hHeld
              refine wpAnyH_ready (rs := [11]) (by kernel_rfl) (by simp) ?_
              refine AllReadyH.cons (o := { dst := some 153, op := Op.call { callee := Callee.builtin Builtin.append, args := #[Operand.tmp 142, Operand.tmp 152], argTypes := #[28, 28] }, type := 28, pos := "outright.go:234", after := #[{ on := 0, ground := Ground.data }, { on := 10, ground := Ground.data }, { on := 9, ground := Ground.chain }], guard := none }) rfl (fun K hK => ?_) AllReadyH.nil
              have SZ : Hid (w6.heap.size ≤ (wn.alloc (.cells #[.int .u64 y.x0, .int .u64 y.x1, .int .u64 y.x2, .int .u64 y.x3, .int .u64 y.x4, .int .u64 N.x0, .int .u64 N.x1, .int .u64 N.x2, .int .u64 N.x3, .int .u64 N.x4] 31)).heap.size) := hidden (by have := BN.out.size; simp; omega)
              refine Al.step_append_own rfl (.tmp 142) (.tmp 152) 28 rfl w6.heap.size 31 i0 (.agg #[.int .u64 0, .int .u64 0, .int .u64 0, .int .u64 0, .int .u64 0]) 5 40 HU.out HI.out HZ0.out HZ1.out HZ2.out rfl (by decide) _ _ _ (by simp [Act.eval]) (OWN.out.alloc _) ⟨wn.heap.size, 0, none⟩ 2 2 [.int .u64 y.x0, .int .u64 y.x1, .int .u64 y.x2, .int .u64 y.x3, .int .u64 y.x4, .int .u64 N.x0, .int .u64 N.x1, .int .u64 N.x2, .int .u64 N.x3, .int .u64 N.x4] (by simp [Act.eval]) rfl (Al.cells_new wn _ _) (by simp [Value.oneCell']) (by have := I40.out; unfold maxLen; omega) (by have := I40.out; omega) SZ.out ?_
              intro vn w3 hown hgr
              rw [show m * 2 + 2 = (m + 1) * 2 by omega] at hown
              have O3 : Hid (w3.ownsRow w6.heap.size 31 5 vn ((m + 1) * 2) (evl (al g2) ((m + 1) * 2))) := hidden (by rw [← AE.out]; exact hown)
              have B3 := hidden (Al.below_trans (Al.bl_trans BN.out (Al.bl_alloc wn (.cells #[.int .u64 y.x0, .int .u64 y.x1, .int .u64 y.x2, .int .u64 y.x3, .int .u64 y.x4, .int .u64 N.x0, .int .u64 N.x1, .int .u64 N.x2, .int .u64 N.x3, .int .u64 N.x4] 31))) (Al.below_grown hgr SZ.out (fun k hk => (OWN.out.lt k hk).1)))
              refine hK.out _ _ (KSt.out _ B3.out) (fun hHeld => ?_)
              clear hK K hown hgr
              simp only [Act.put, List.setIfInBounds_toArray, List.set_cons_zero, List.set_cons_succ]
              refine wpAnyH_take (i := 12) (oi := { dst := some 10, op := Op.assign (Operand.tmp 153), type := 28, pos := "outright.go:234", after := #[{ on := 11, ground := Ground.data }, { on := 11, ground := Ground.chain }, { on := 0, ground := Ground.phase }, { on := 1, ground := Ground.phase }, { on := 2, ground := Ground.phase }, { on := 3, ground := Ground.phase }, { on := 4, ground := Ground.phase }, { on := 5, ground := Ground.phase }, { on := 6, ground := Ground.phase }, { on := 7, ground := Ground.phase }, { on := 8, ground := Ground.phase }, { on := 9, ground := Ground.phase }, { on := 10, ground := Ground.phase }, { on := 11, ground := Ground.phase }], guard := none }) (v := ?_) rfl (by kernel_rfl) (by kernel_rfl) (by kernel_rfl) (fun _ _ _ h => h) (Or.inl ⟨by rfl, ?_⟩) hHeld ?_
              rotate_left 1
              · (intro w0 hSw; (try dsimp only at hSw); go_simp; try with_reducible rfl)
              simp only [Act.put, List.setIfInBounds_toArray, List.set_cons_zero, List.set_cons_succ]
              refine wpAnyH_done (by kernel_rfl) ?_ _
              refine NoPanic.normal ?_
              clear hHeld K0 KSt NG AE OWN BN SZ OW8 B8
              go_wp2_with fail
              go_roundw
              case rel => exact ⟨m + 1, by omega, by go_num, O3, B3⟩
              case measure => simp [intOf]; omega
            · obtain rfl : m = i := by omega
              clear hmi hm
              obtain ⟨Pz, Gz, cz, rfl, -, hPz, hCz⟩ := own5 how.out
              have SU := hidden (Fe.sum_any Pz Gz (m * 2) cz (al g2) wr (by have := I40.out; omega) hPz hCz (al_ok OK2.out))
              have ZS := hidden (al_sum g2 m)
              obtain ⟨O, hO⟩ : ∃ O, lst 1 = O := ⟨_, rfl⟩
              have oo : O.ok := by rw [← hO]; exact lst_ok _
              have on : decide (O.n % Sm.L = 0) = false := by rw [← hO, lst_n]; decide
              have IZ5 : Hid (∀ (R : Fe.E5), R.ok → Al.Mx.C Fm.P R.n 0 → ∀ w, Calls Tryd.prog 16 #[.agg #[.int .u64 R.x0, .int .u64 R.x1, .int .u64 R.x2, .int .u64 R.x3, .int .u64 R.x4]] w fun e w' => e = .returned (.bool true) ∧ Below w.heap.size w w') := hidden (fun R ro h w => by have := Fe.IsZero_any R w ro; rw [decide_eq_true (Al.c_zero.1 h)] at this; exact this)
              have ON : Hid (∀ w, Calls Tryd.prog 13 #[.int .u64 1] w fun e w' => e = .returned (.agg #[.int .u64 O.x0, .int .u64 O.x1, .int .u64 O.x2, .int .u64 O.x3]) ∧ Below w.heap.size w w') := hidden (fun w => fix (Int_any 1 w (by unfold Sm.Wd; omega)) hO)
              have SM : Hid (∀ w, Tb w → Calls Tryd.prog 9 #[.agg #[.int .u64 O.x0, .int .u64 O.x1, .int .u64 O.x2, .int .u64 O.x3], .agg #[.int .u64 O.x0, .int .u64 O.x1, .int .u64 O.x2, .int .u64 O.x3]] w fun e w' => e = .returned (.bool true) ∧ Below w.heap.size w w') := hidden (fun w T => by rw [← E4.same_self (lst O.n)]; exact Same_any O O w T oo oo)
              have IZ4 : Hid (∀ w, Tb w → Calls Tryd.prog 11 #[.agg #[.int .u64 O.x0, .int .u64 O.x1, .int .u64 O.x2, .int .u64 O.x3]] w fun e w' => e = .returned (.bool false) ∧ Below w.heap.size w w') := hidden (fun w T => by have := IsZero_any O w T oo; rw [on] at this; exact this)
              have BB := hidden hbl.out
              clear hPz hCz how hO oo on hbl OK2 I40 HQ HTT HC6 HM6
              go_wp2_with (first | (go_at_call 20; refine (SU.out).mono ?_; rintro e wx ⟨R, rfl, ro, rn, hb⟩; have HRO := hidden ro; have HRN := hidden (rn.trans ZS.out); have BB := hidden (Al.bl_trans BB.out hb); clear ro rn hb) | (go_at_call 16; refine (IZ5.out _ HRO.out HRN.out _).mono ?_; rintro e wx ⟨rfl, hb⟩; have BB := hidden (Al.bl_trans BB.out hb); clear hb) | (go_at_call 13; refine (ON.out _).mono ?_; rintro e wx ⟨rfl, hb⟩; have BB := hidden (Al.bl_trans BB.out hb); clear hb) | (go_at_call 9; refine (SM.out _ (TB6.out _ BB.out)).mono ?_; rintro e wx ⟨rfl, hb⟩; have BB := hidden (Al.bl_trans BB.out hb); clear hb) | (go_at_call 11; refine (IZ4.out _ (TB6.out _ BB.out)).mono ?_; rintro e wx ⟨rfl, hb⟩; have BB := hidden (Al.bl_trans BB.out hb); clear hb))
              refine bodyPost_ret (v := .bool true) (by simp [results, Tryd.results3, go_sem]) rfl ⟨rfl, Al.bl_trans B6.out BB.out⟩
end Go.Proofs.YtnbcfchbhappeaaDoor
