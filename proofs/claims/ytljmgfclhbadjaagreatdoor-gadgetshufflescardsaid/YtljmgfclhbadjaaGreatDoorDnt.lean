import Derived.Test.YtljmgfclhbadjaaGreatDoorDns
namespace Go.Proofs.YtljmgfclhbadjaaGreatDoor
open Go.RowKit
set_option linter.unusedVariables false
namespace Ci
theorem shuffles_law (P0 P1 P2 : Option Addr) (L0 c0 L1 c1 L2 c2 : Nat) (g0 g1 g2 : Nat → E4) (x : World) (hT : Tb x) (s0 : (⟨P0, L0, c0, g0⟩ : Sl).at x) (s1 : (⟨P1, L1, c1, g1⟩ : Sl).at x) (s2 : (⟨P2, L2, c2, g2⟩ : Sl).at x) (u0 : L0 ≤ c0) (n0 : P0 = none → L0 = 0 ∧ c0 = 0) (u1 : L1 ≤ c1) (n1 : P1 = none → L1 = 0 ∧ c1 = 0) (h2 : L2 ≤ 4398046511104) :
  Calls Tryz.prog 3 #[.slice P0 L0 c0, .slice P1 L1 c1, .slice P2 L2 c2] x fun e w' => GsP x e w' := by
 have some1 : 0 < L1 → ∃ p1, P1 = some p1 := fun h => by
  cases P1 with
  | none => have := n1 rfl; omega
  | some p1 => exact ⟨p1, rfl⟩
 cases P0 with
 | none =>
  obtain ⟨rfl, rfl⟩ := n0 rfl
  by_cases e : L1 = 0
  ·subst e
   exact law_e P1 P2 c1 L2 c2 g0 g1 g2 x hT s0 s1 s2 h2
  ·obtain ⟨p1, rfl⟩ := some1 (by omega)
   exact law_f p1 P2 L1 c1 L2 c2 g0 g1 g2 x hT s0 s1 s2 (by omega) u1 h2
 | some p0 =>
  by_cases a : L0 ≤ 32
  ·by_cases b : L1 ≤ L0
   ·exact law_a p0 P1 P2 L0 c0 L1 c1 L2 c2 g0 g1 g2 x hT s0 s1 s2 a b u0 u1 h2
   ·obtain ⟨p1, rfl⟩ := some1 (by omega)
    exact law_b p0 p1 P2 L0 c0 L1 c1 L2 c2 g0 g1 g2 x hT s0 s1 s2 a (by omega) u0 u1 h2
  ·by_cases b : L1 ≤ 32
   ·exact law_c p0 P1 P2 L0 c0 L1 c1 L2 c2 g0 g1 g2 x hT s0 s1 s2 (by omega) b u0 u1 h2
   ·obtain ⟨p1, rfl⟩ := some1 (by omega)
    exact law_d p0 p1 P2 L0 c0 L1 c1 L2 c2 g0 g1 g2 x hT s0 s1 s2 (by omega) (by omega) u0 u1 h2
end Ci
end Go.Proofs.YtljmgfclhbadjaaGreatDoor
