import Derived.Test.YtlijigolfggcfaaDoorHx
import Derived.Test.YtlijigolfggcfaaDoorHw
namespace Go.Proofs.YtlijigolfggcfaaDoor
open Go.RowKit
set_option linter.unusedVariables false
/-- what the program's Part answers -/
structure QX (B : Nat) (w : World) (b f q : E4) (gG gH : Nat → E4) (x : List Value) (e : Int) (F M : Nat) : Prop where
  len : x.length = 14
  one : x.toArray.all (·.oneCell') = true
  no : e ≠ 0 → x = zs14
  yes : e = 0 → ∃ (P1 P2 : Option Addr) (c1 c2 : Nat), x = gs14 b f q (.slice P1 M c1) (.slice P2 M c2) ∧ w.ownsRow B 29 4 (.slice P1 M c1) M (svs M fun k => gG (F + k)) ∧ w.ownsRow B 29 4 (.slice P2 M c2) M (svs M fun k => gH (F + k))
/-- what the document's Part answers -/
structure QY (B : Nat) (w : World) (y0 y1 y2 : E4) (gG gH : Nat → E4) (x : List Value) (e : Int) (F M : Nat) : Prop where
  len : x.length = 81
  one : x.toArray.all (·.oneCell') = true
  no : e ≠ 0 → x = zs
  yes : e = 0 → ∃ (P1 P2 : Option Addr) (c1 c2 : Nat), x = hdl y0 y1 y2 ++ [Value.slice P1 M c1, Value.slice P2 M c2] ∧ w.ownsRow B 44 26 (.slice P1 M c1) M (evs M (lf fun k => gG (F + k))) ∧ w.ownsRow B 44 26 (.slice P2 M c2) M (evs M (lf fun k => gH (F + k)))
theorem QX.zero {B : Nat} {w : World} {b f q : E4} {gG gH : Nat → E4} {e : Int} {F M : Nat} (he : e ≠ 0) : QX B w b f q gG gH zs14 e F M := ⟨rfl, gs14_one _ _ _ none none 0 0 0 0, fun _ => rfl, fun h => absurd h he⟩
theorem QY.zero {B : Nat} {w : World} {b f q : E4} {gG gH : Nat → E4} {e : Int} {F M : Nat} (he : e ≠ 0) : QY B w b f q gG gH zs e F M := ⟨rfl, zs_one, fun _ => rfl, fun h => absurd h he⟩
theorem part_both (b f q : E4) (LG LH : Nat) (gG gH : Nat → E4) (fr n : Int) (hG : LG ≤ 1048576) (hH : LH ≤ 1048576) (hfr : -9223372036854775808 ≤ fr ∧ fr ≤ 9223372036854775807) (hn : -9223372036854775808 ≤ n ∧ n ≤ 9223372036854775807) :
    ∃ (e : Int) (F M : Nat), (e = 0 → F + M ≤ LG ∧ F + M ≤ LH)
      ∧ (∀ (w : World) (g h cg ch : Nat), LG + 2 ≤ cg → LH + 2 ≤ ch → Rl w g 0 LG gG → Rl w h 0 LH gH → Calls Tryd.prog 6 #[.agg (gs14 b f q (.slice (some ⟨g, 0, none⟩) LG cg) (.slice (some ⟨h, 0, none⟩) LH ch)).toArray, .int .i64 fr, .int .i64 n] w fun r w' => ∃ x, r = .returned (.tuple #[.agg x.toArray, .int .i64 e]) ∧ QX w.heap.size w' b f q gG gH x e F M ∧ Below w.heap.size w w')
      ∧ (∀ (w : World) (PG PH : Option Addr) (B cG cH : Nat), w.ownsRow B 44 26 (.slice PG LG cG) LG (evs LG (lf gG)) → w.ownsRow B 44 26 (.slice PH LH cH) LH (evs LH (lf gH)) → Calls Tryd.prog 7 #[.agg (hdl (lst b.n) (lst f.n) (lst q.n) ++ [Value.slice PG LG cG, Value.slice PH LH cH]).toArray, .int .i64 fr, .int .i64 n] w fun r w' => ∃ x, r = .returned (.tuple #[.agg x.toArray, .int .i64 e]) ∧ QY w.heap.size w' (lst b.n) (lst f.n) (lst q.n) gG gH x e F M ∧ Below w.heap.size w w') := by
  by_cases hA : fr < 0 ∨ n < 0
  · refine ⟨1, 0, 0, fun h => by simp at h, fun w g h cg ch _ _ _ _ => (part_no b f q g h cg ch LG LH fr n w hA).mono fun r w' ⟨h1, h2⟩ => ⟨zs14, h1, QX.zero (by decide), h2⟩, fun w PG PH B cG cH _ _ => (rpart_no _ _ _ PG PH LG cG LH cH fr n w hA).mono fun r w' ⟨h1, h2⟩ => ⟨zs, h1, QY.zero (by decide), h2⟩⟩
  · by_cases hB : fr + n ≤ (LG : Int) ∧ fr + n ≤ (LH : Int)
    · obtain ⟨F, rfl⟩ : ∃ F : Nat, fr = (F : Int) := ⟨fr.toNat, by omega⟩
      obtain ⟨M, rfl⟩ : ∃ M : Nat, n = (M : Int) := ⟨n.toNat, by omega⟩
      refine ⟨0, F, M, fun _ => by omega, fun w g h cg ch hcg hch r1 r2 => (part_in b f q g h cg ch LG LH F M gG gH w hG hH hcg hch (by omega) (by omega) r1 r2).mono fun r w' ⟨v1, v2, h1, h2, h3, h4⟩ => ?_, fun w PG PH B cG cH o1 o2 => (rpart_in _ _ _ PG PH B LG cG LH cH F M (lf gG) (lf gH) w hG hH (by omega) (by omega) o1 o2).mono fun r w' ⟨P1, P2, c1, c2, h1, h2, h3, h4⟩ => ?_⟩
      · obtain ⟨P1, c1, rfl⟩ := own_shapeP8 h2
        obtain ⟨P2, c2, rfl⟩ := own_shapeP8 h3
        exact ⟨_, h1, ⟨rfl, gs14_one _ _ _ _ _ _ _ _ _, fun h => absurd rfl h, fun _ => ⟨P1, P2, c1, c2, rfl, h2, h3⟩⟩, h4⟩
      · exact ⟨_, h1, ⟨rfl, hdl_oneW _ _ _ _ _ _ _ _ _, fun h => absurd rfl h, fun _ => ⟨P1, P2, c1, c2, rfl, h2, h3⟩⟩, h4⟩
    · refine ⟨2, 0, 0, fun h => by simp at h, fun w g h cg ch _ _ _ _ => (part_short b f q g h cg ch LG LH fr n w hG hH (by omega) (by omega) (by omega)).mono fun r w' ⟨h1, h2⟩ => ⟨zs14, h1, QX.zero (by decide), h2⟩, fun w PG PH B cG cH _ _ => (rpart_short _ _ _ PG PH LG cG LH cH fr n w hG hH (by omega) (by omega) (by omega)).mono fun r w' ⟨h1, h2⟩ => ⟨zs, h1, QY.zero (by decide), h2⟩⟩
end Go.Proofs.YtlijigolfggcfaaDoor
