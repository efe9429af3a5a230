import Derived.Test.YtcenphihmggfkaaDoorStr
namespace Go.Proofs.YtcenphihmggfkaaDoor
open Go.RowKit
/-- how many scalars a tape of L bytes answers, asked for i; its error -/
def tn (i : Int) (L : Nat) : Nat := if i < 0 ∨ 4096 < i then 0 else if (L : Int) < 64 * i then 0 else i.toNat
def te (i : Int) (L : Nat) : Int := if i < 0 ∨ 4096 < i then 1 else if (L : Int) < 64 * i then 5 else 0
theorem tn_le (i : Int) (L : Nat) : tn i L ≤ 4096 := by
  unfold tn
  split
  · omega
  · split <;> omega
/-- a stream: its bytes -/
def Stm (w : World) (P : Option Addr) (L : Nat) (f : Nat → Int) : Prop := ∃ sb so : Nat, (0 < L → P = some ⟨sb, so, none⟩) ∧ (0 < L → Bs w sb so L f)
theorem Stm.keep {w1 w2 : World} {P : Option Addr} {L : Nat} {f : Nat → Int} (h : Stm w1 P L f) (hb : Below w1.heap.size w1 w2) : Stm w2 P L f := by
  obtain ⟨sb, so, h1, h2⟩ := h
  exact ⟨sb, so, h1, fun hl => (h2 hl).keep hb⟩
/-- a list that was answered -/
structure Lst (w : World) (s0 : Nat) (v : Value) (m : Nat) (g : Nat → E4) (p : Option Addr) (c : Nat) : Prop where
  v : v = .slice p m c
  h : 0 < m → ∃ b : Nat, p = some ⟨b, 0, none⟩ ∧ s0 ≤ b ∧ Rws w b m g
  z : m = 0 → p = none ∨ ∃ x, p = some ⟨x, 0, none⟩

theorem Tape_all (P : Option Addr) (L cap : Nat) (i : Int) (f : Nat → Int) (w : World) (hT : Tb w) (hL : L < 9223372036854775807) (hcap : L ≤ cap) (hS : Stm w P L f) :
    Calls Tryd.prog 5 #[.slice P L cap, .int .i64 i] w fun e w' => ∃ (v : Value) (p : Option Addr), e = .returned (.tuple #[v, .int .i64 (te i L)]) ∧ Lst w' w.heap.size v (tn i L) (tp f) p (tn i L) ∧ Below w.heap.size w w' := by
  obtain ⟨sb, so, h1, h2⟩ := hS
  by_cases ha : i < 0 ∨ 4096 < i
  · refine (Tape_arg P L cap i w ha).mono fun e w' ⟨he, hb⟩ => ?_
    rw [show te i L = 1 from if_pos ha, show tn i L = 0 from if_pos ha]
    exact ⟨_, none, he, ⟨rfl, fun h => absurd h (by omega), fun _ => Or.inl rfl⟩, hb⟩
  · obtain ⟨n, rfl⟩ : ∃ n : Nat, i = (n : Int) := ⟨i.toNat, by omega⟩
    by_cases hs : (L : Int) < 64 * (n : Int)
    · refine (Tape_short P L cap n w (by omega) (by omega)).mono fun e w' ⟨he, hb⟩ => ?_
      rw [show te n L = 5 by unfold te; rw [if_neg ha, if_pos hs], show tn n L = 0 by unfold tn; rw [if_neg ha, if_pos hs]]
      exact ⟨_, none, he, ⟨rfl, fun h => absurd h (by omega), fun _ => Or.inl rfl⟩, hb⟩
    · refine (Tape_in P sb so L cap n f w (fun hn => h1 (by omega)) hT (by omega) (by omega) hL hcap (fun hn => h2 (by omega))).mono fun e w' ⟨b, he, hb, hr, hbl⟩ => ?_
      rw [show te n L = 0 by unfold te; rw [if_neg ha, if_neg hs], show tn n L = n by unfold tn; rw [if_neg ha, if_neg hs]; omega]
      exact ⟨_, _, he, ⟨rfl, fun _ => ⟨b, rfl, hb, hr⟩, fun _ => Or.inr ⟨b, rfl⟩⟩, hbl⟩

theorem rTape_all (P : Option Addr) (L cap : Nat) (i : Int) (f : Nat → Int) (w : World) (hL : L < 9223372036854775807) (hS : Stm w P L f) :
    Calls Tryd.prog 6 #[.slice P L cap, .int .i64 i] w fun e w' => ∃ (v : Value) (p : Option Addr) (c : Nat), e = .returned (.tuple #[v, .int .i64 (te i L)]) ∧ v = .slice p (tn i L) c ∧ (0 < tn i L → ∃ b : Nat, p = some ⟨b, 0, none⟩ ∧ w.heap.size ≤ b ∧ Rws w' b (tn i L) (tp f)) ∧ Below w.heap.size w w' := by
  obtain ⟨sb, so, h1, h2⟩ := hS
  by_cases ha : i < 0 ∨ 4096 < i
  · refine (rTape_arg P L cap i w ha).mono fun e w' ⟨he, hb⟩ => ?_
    rw [show te i L = 1 from if_pos ha, show tn i L = 0 from if_pos ha]
    exact ⟨_, none, 0, he, rfl, fun h => absurd h (by omega), hb⟩
  · obtain ⟨n, rfl⟩ : ∃ n : Nat, i = (n : Int) := ⟨i.toNat, by omega⟩
    by_cases hs : (L : Int) < 64 * (n : Int)
    · refine (rTape_short P L cap n w (by omega) (by omega)).mono fun e w' ⟨he, hb⟩ => ?_
      rw [show te n L = 5 by unfold te; rw [if_neg ha, if_pos hs], show tn n L = 0 by unfold tn; rw [if_neg ha, if_pos hs]]
      exact ⟨_, none, 0, he, rfl, fun h => absurd h (by omega), hb⟩
    · refine (rTape_in P sb so L cap n f w (fun hn => h1 (by omega)) (by omega) (by omega) hL (fun hn => h2 (by omega))).mono fun e w' ⟨v, p, c, he, hv, hr, hbl⟩ => ?_
      rw [show te n L = 0 by unfold te; rw [if_neg ha, if_neg hs], show tn n L = n by unfold tn; rw [if_neg ha, if_neg hs]; omega]
      exact ⟨v, p, c, he, hv, hr, hbl⟩
end Go.Proofs.YtcenphihmggfkaaDoor
