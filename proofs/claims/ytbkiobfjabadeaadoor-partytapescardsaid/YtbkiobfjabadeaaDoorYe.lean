import Derived.Test.YtbkiobfjabadeaaDoorYc
namespace Go.Proofs.YtbkiobfjabadeaaDoor
open Go.RowKit
set_option linter.unusedVariables false
/-- one tape -/
structure Tq where
  a : E4
  r : E4
  s : E4
  t : E4
  n : Nat
  m : Nat
  g : Nat → E4
  h : Nat → E4
/-- tapes that lie one behind the other -/
def Ts (w : World) (V : Value) (N : Nat) (q : Nat → Tq) (L R : Nat → Value) : Prop :=
  ∃ (P : Option Addr) (c : Nat), V = .slice P N c ∧ (0 < N → ∃ b o, P = some ⟨b, o, none⟩ ∧ ∀ i, i < N → w.rangeAt b (o + i * 18) (tc (q i).a (q i).r (q i).s (q i).t (L i) (R i))) ∧ (∀ i, i < N → In w (L i) (q i).n (q i).g ∧ In w (R i) (q i).m (q i).h)
theorem range_keepO {w w' : World} {b o : Nat} {cs : List Value} (h : w.rangeAt b o cs) (hb : Below w.heap.size w w') : w'.rangeAt b o cs := fun j v hv => by
  have := h j v hv
  rw [hb.cell (p := ⟨b, o + j, none⟩) (World.block_lt_of_cell? w ⟨b, o + j, none⟩ this)]
  exact this
theorem Ts.keep {w w' : World} {V : Value} {N : Nat} {q : Nat → Tq} {L R : Nat → Value} (h : Ts w V N q L R) (hb : Below w.heap.size w w') : Ts w' V N q L R := by
  obtain ⟨P, c, h1, h2, h3⟩ := h
  refine ⟨P, c, h1, fun h0 => ?_, fun i hi => ⟨(h3 i hi).1.keep hb, (h3 i hi).2.keep hb⟩⟩
  obtain ⟨b, o, e, k⟩ := h2 h0
  exact ⟨b, o, e, fun i hi => range_keepO (k i hi) hb⟩
/-- is there a tape for each place, of the right length? -/
def Fits (N : Nat) (q : Nat → Tq) (b : Int) : Prop := ∀ i, i < N → ((q i).n : Int) = b ∧ ((q i).m : Int) = b
set_option maxRecDepth 100000 in
set_option maxHeartbeats 8000000 in
theorem fit1_any (a r s t : E4) (P R : Option Addr) (n c m d X : Nat) (B C : Int) (w : World) (hp : Pb w X B C) (q : Bool) (hq : q = true ↔ ¬ ((n : Int) = B ∧ (m : Int) = B)) :
    Calls Tryd.prog 30 #[.agg (tc a r s t (.slice P n c) (.slice R m d)).toArray, .pointer (some ⟨X, 0, none⟩)] w fun e w' => e = .returned (.bool q) ∧ Below w.heap.size w w' := by
  obtain ⟨D, hD⟩ : ∃ D, tc a r s t (.slice P n c) (.slice R m d) = D := ⟨_, rfl⟩
  have L16 : D[16]? = some (.slice P n c) := by rw [← hD]; rfl
  have L17 : D[17]? = some (.slice R m d) := by rw [← hD]; rfl
  have M0 := (Mw.start w).new D 31
  have MM := hidden M0
  have p1 := (hp.keep (bl_alloc w (.cells D.toArray 31))).c0
  have r0 := (M0.r (w.heap.size, D) (by simp)).1
  have cL := r0 16 _ L16
  have cR := r0 17 _ L17
  simp only [Nat.zero_add] at cL cR
  rw [hD]
  clear r0 M0 hD hp L16 L17
  by_cases h1 : (n : Int) = B
  · by_cases h2 : (m : Int) = B
    · obtain rfl : q = false := by
        cases q with
        | false => rfl
        | true => exact absurd ⟨h1, h2⟩ (hq.1 rfl)
      clear hq
      go_enter Tryd.func30, Tryd.ntmps30
      go_wp2_with fail
      refine bodyPost_ret (v := .bool false) (by simp [results, Tryd.results30, go_sem] <;> assumption) rfl ⟨rfl, MM.out.bel⟩
    · obtain rfl : q = true := hq.2 (fun h => h2 h.2)
      clear hq
      go_enter Tryd.func30, Tryd.ntmps30
      go_wp2_with fail
      refine bodyPost_ret (v := .bool true) (by simp [results, Tryd.results30, go_sem] <;> assumption) rfl ⟨rfl, MM.out.bel⟩
  · obtain rfl : q = true := hq.2 (fun h => h1 h.1)
    clear hq
    go_enter Tryd.func30, Tryd.ntmps30
    go_wp2_with fail
    refine bodyPost_ret (v := .bool true) (by simp [results, Tryd.results30, go_sem] <;> assumption) rfl ⟨rfl, MM.out.bel⟩
set_option maxRecDepth 100000 in
set_option maxHeartbeats 8000000 in
theorem tindex_any (V : Value) (N X : Nat) (B C : Int) (q : Nat → Tq) (L R : Nat → Value) (w : World) (hN : N ≤ 1099511627776) (hV : Ts w V N q L R) (hp : Pb w X B C) :
    Calls Tryd.prog 36 #[V, .func (.func 30) #[] #[.pointer (some ⟨X, 0, none⟩)]] w fun e w' => ∃ r : Int, e = .returned (.int .i64 r) ∧ (0 ≤ r ↔ ¬ Fits N q B) ∧ Below w.heap.size w w' := by
  have HV := hidden hV
  have HP := hidden hp
  have HN := hidden hN
  obtain ⟨P, c, rfl, -⟩ := hV
  have nn0 : (0 : Int) ≤ (N : Int) := by omega
  have U31 : Hid (Tryd.prog.underlying 31 = some _) := hidden Tryd.underlying31
  clear hp hN
  go_enter Tryd.func36, Tryd.ntmps36
  go_wp2_with fail
  go_loopw [8] (fun iv' w' => ∃ k : Nat, k ≤ N ∧ iv' = .int .i64 k ∧ Hid (∀ j, j < k → ((q j).n : Int) = B ∧ ((q j).m : Int) = B) ∧ Hid (Below w.heap.size w w')) (fun i _ => N - (intOf i).toNat)
  case atStart => exact ⟨0, by omega, rfl, hidden (fun j hj => by omega), hidden (Below.refl _ _)⟩
  case round =>
    obtain ⟨k, hk, rfl, hZ, hB⟩ := hrel
    by_cases hkn : k < N
    · have k0 : (0 : Int) ≤ (k : Int) := by omega
      have k1 : (k : Int) < (N : Int) := by omega
      have w9 : IntKind.i64.wrap ((k : Int) + 1) = (k : Int) + 1 := IntWalk.i64_in _ (by have := HN.out; omega)
      obtain ⟨P', c', e', hl, hi⟩ := HV.out.keep hB.out
      simp only [Value.slice.injEq, true_and] at e'
      obtain ⟨rfl, rfl⟩ := e'
      obtain ⟨b, off, rfl, hr⟩ := hl (by omega)
      have RG := hidden (hr k hkn)
      obtain ⟨pL, cL, eL, -⟩ := (hi k hkn).1
      obtain ⟨pR, cR, eR, -⟩ := (hi k hkn).2
      rw [eL, eR] at RG
      clear hl hr hi eL eR
      have IZ := hidden (fun w (h : Pb w X B C) Q hq => fit1_any (q k).a (q k).r (q k).s (q k).t pL pR (q k).n cL (q k).m cR X B C w h Q hq)
      have T0 := hidden (HP.out.keep hB.out)
      have DI : Hid ((Tryd.prog.info? 31).map (·.size) = some (tc (q k).a (q k).r (q k).s (q k).t (.slice pL (q k).n cL) (.slice pR (q k).m cR)).length) := hidden ptinfo
      by_cases h0 : ((q k).n : Int) = B ∧ ((q k).m : Int) = B
      · have H0 := hidden h0
        clear h0
        have IZ' := hidden (fun w h => IZ.out w h false ⟨fun h => (by cases h), fun h => absurd H0.out h⟩)
        clear IZ
        generalize tc (q k).a (q k).r (q k).s (q k).t (.slice pL (q k).n cL) (.slice pR (q k).m cR) = D at *
        go_wp2_with (first | (refine wpList_load_mid rfl 31 _ rfl b (off + k * 18) (by rfl) D _ RG.out U31.out rfl DI.out ?_) | (go_at_call 30; refine (IZ'.out _ T0.out).mono ?_; rintro e w1 ⟨rfl, hb1⟩; have B1 := hidden (bl_trans hB.out hb1); clear hb1))
        go_roundw
        case rel => exact ⟨k + 1, by omega, by go_num, hidden (fun j hj => by
          by_cases hjk : j = k
          · subst hjk; exact H0.out
          · exact hZ.out j (by omega)), B1⟩
        case measure => simp [intOf]; omega
      · have H0 := hidden h0
        clear h0
        have IZ' := hidden (fun w h => IZ.out w h true ⟨fun _ => H0.out, fun _ => rfl⟩)
        clear IZ
        generalize tc (q k).a (q k).r (q k).s (q k).t (.slice pL (q k).n cL) (.slice pR (q k).m cR) = D at *
        go_wp2_with (first | (refine wpList_load_mid rfl 31 _ rfl b (off + k * 18) (by rfl) D _ RG.out U31.out rfl DI.out ?_) | (go_at_call 30; refine (IZ'.out _ T0.out).mono ?_; rintro e w1 ⟨rfl, hb1⟩; have B1 := hidden (bl_trans hB.out hb1); clear hb1))
        refine bodyPost_ret (v := .int .i64 (k : Int)) (by simp [results, Tryd.results36, go_sem] <;> assumption) rfl ⟨_, rfl, ⟨fun _ h => H0.out (h k hkn), fun _ => k0⟩, B1.out⟩
    · have hkn : N = k := by omega
      subst hkn
      have lq : ¬ (N : Int) < (N : Int) := by omega
      go_wp2_with fail
      refine bodyPost_ret (v := .int .i64 (-1)) (by simp [results, Tryd.results36, go_sem] <;> assumption) rfl ⟨_, rfl, ⟨fun h => absurd h (by omega), fun h => absurd hZ.out h⟩, hB.out⟩
set_option maxRecDepth 100000 in
set_option maxHeartbeats 8000000 in
theorem tcontains_any (V : Value) (N X : Nat) (B C : Int) (q : Nat → Tq) (L R : Nat → Value) (w : World) (hN : N ≤ 1099511627776) (hV : Ts w V N q L R) (hp : Pb w X B C) (b : Bool) (hb : b = true ↔ ¬ Fits N q B) :
    Calls Tryd.prog 29 #[V, .func (.func 30) #[] #[.pointer (some ⟨X, 0, none⟩)]] w fun e w' => e = .returned (.bool b) ∧ Below w.heap.size w w' := by
  have IX := hidden (tindex_any V N X B C q L R w hN hV hp)
  have HQ := hidden hb
  clear hN hV hp hb
  go_enter Tryd.func29, Tryd.ntmps29
  go_wp2_with fail
  refine IX.out.mono ?_
  rintro e w1 ⟨r, rfl, hr, hb⟩
  have B1 := hidden hb
  have HR := hidden hr
  clear hb hr IX
  go_wp2_with fail
  have e : decide (0 ≤ r) = b := by
    have h1 := HQ.out
    have h2 := HR.out
    cases b with
    | true => exact decide_eq_true (h2.2 (h1.1 rfl))
    | false => exact decide_eq_false (fun h => by have := h1.2 (h2.1 h); cases this)
  refine bodyPost_ret (v := .bool (decide (0 ≤ r))) (by simp [results, Tryd.results29, go_sem] <;> assumption) rfl ⟨by rw [e], B1.out⟩
set_option maxRecDepth 100000 in
set_option maxHeartbeats 8000000 in
theorem fit_any (V : Value) (N : Nat) (B C : Int) (q : Nat → Tq) (L R : Nat → Value) (w : World) (hN : N ≤ 1099511627776) (hV : Ts w V N q L R) (b : Bool) (hb : b = true ↔ (N : Int) = C ∧ Fits N q B) :
    Calls Tryd.prog 19 #[.agg #[.int .i64 B, .int .i64 C], V] w fun e w' => e = .returned (.bool b) ∧ Below w.heap.size w w' := by
  have hmf : ∀ (fn : Fn) (first cap : Array Value) (w : World), (Instr.makeFunc fn first cap).run Tryd.prog w = .ok (.func fn first cap) w := fun _ _ _ _ => rfl
  have HV := hidden (hV.keep (bl_alloc w (.cells #[.int .i64 B, .int .i64 C] 23)))
  have PN := hidden (Pb.new w B C 23)
  have B0 := hidden (bl_alloc w (.cells #[.int .i64 B, .int .i64 C] 23))
  obtain ⟨P, c, rfl, -⟩ := hV
  by_cases h1 : (N : Int) = C
  · by_cases h2 : Fits N q B
    · obtain rfl : b = true := hb.2 ⟨h1, h2⟩
      have CO := hidden (tcontains_any _ N w.heap.size B C q L R _ hN HV.out PN.out false ⟨fun h => (by cases h), fun h => absurd h2 h⟩)
      clear hb hN h2
      go_enter Tryd.func19, Tryd.ntmps19
      go_wp2_with (first | (go_at_call 29; refine (CO.out).mono ?_; rintro e wa ⟨rfl, ha⟩; have HA := hidden (bl_trans B0.out ha); clear ha))
      refine bodyPost_ret (v := .bool true) (by simp [results, Tryd.results19, go_sem] <;> assumption) rfl ⟨rfl, HA.out⟩
    · obtain rfl : b = false := by
        cases b with
        | false => rfl
        | true => exact absurd (hb.1 rfl).2 h2
      have CO := hidden (tcontains_any _ N w.heap.size B C q L R _ hN HV.out PN.out true ⟨fun _ => h2, fun _ => rfl⟩)
      clear hb hN h2
      go_enter Tryd.func19, Tryd.ntmps19
      go_wp2_with (first | (go_at_call 29; refine (CO.out).mono ?_; rintro e wa ⟨rfl, ha⟩; have HA := hidden (bl_trans B0.out ha); clear ha))
      refine bodyPost_ret (v := .bool false) (by simp [results, Tryd.results19, go_sem] <;> assumption) rfl ⟨rfl, HA.out⟩
  · obtain rfl : b = false := by
      cases b with
      | false => rfl
      | true => exact absurd (hb.1 rfl).1 h1
    clear hb hN
    go_enter Tryd.func19, Tryd.ntmps19
    go_wp2_with fail
    refine bodyPost_ret (v := .bool false) (by simp [results, Tryd.results19, go_sem] <;> assumption) rfl ⟨rfl, B0.out⟩
end Go.Proofs.YtbkiobfjabadeaaDoor
