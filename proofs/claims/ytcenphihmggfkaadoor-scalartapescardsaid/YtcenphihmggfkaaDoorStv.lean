import Derived.Test.YtcenphihmggfkaaDoorStq
import Derived.Test.YtcenphihmggfkaaDoorSar
import Derived.Laws.OwnMore
import Derived.Maps.AppendAt
namespace Go.Proofs.YtcenphihmggfkaaDoor
open Go.RowKit
/-- what lies where in the law: a stream's copy with three bytes more in block g; lists that were answered (block, length, scalars) -/
structure Ts (w0 : World) (g L : Nat) (h : Nat → Int) (rs : List (Nat × Nat × (Nat → E4))) (w : World) : Prop where
  c : ∀ j, j < L + 3 → w.cell? ⟨g, j, none⟩ = some (.int .u8 (h j))
  fr : ∀ j, j < L + 3 → w.frozen? ⟨g, j, none⟩ = false
  r : ∀ j, j < L + 3 → 0 ≤ h j ∧ h j ≤ 255
  g0 : w0.heap.size ≤ g
  bel : Below w0.heap.size w0 w
  rows : ∀ x ∈ rs, 0 < x.2.1 → g < x.1 ∧ Rws w x.1 x.2.1 x.2.2
  pw : rs.Pairwise fun x y => 0 < x.2.1 → 0 < y.2.1 → x.1 ≠ y.1
theorem Ts.lt {w0 : World} {g L : Nat} {h : Nat → Int} {rs : List (Nat × Nat × (Nat → E4))} {w : World} (t : Ts w0 g L h rs w) : g < w.heap.size := World.block_lt_of_cell? w ⟨g, 0, none⟩ (t.c 0 (by omega))
theorem Ts.keep {w0 : World} {g L : Nat} {h : Nat → Int} {rs : List (Nat × Nat × (Nat → E4))} {w w' : World} (t : Ts w0 g L h rs w) (hb : Below w.heap.size w w') : Ts w0 g L h rs w' :=
  ⟨fun j hj => cell_keep (t.c j hj) hb, fun j hj => (hb.frozen (p := ⟨g, j, none⟩) t.lt).trans (t.fr j hj), t.r, t.g0, bl_trans t.bel hb, fun x hx hm => ⟨(t.rows x hx hm).1, (t.rows x hx hm).2.keep hb⟩, t.pw⟩
theorem Ts.new {w0 : World} {g L : Nat} {h : Nat → Int} {rs : List (Nat × Nat × (Nat → E4))} {w w' : World} (t : Ts w0 g L h rs w) (hb : Below w.heap.size w w') (b m : Nat) (gg : Nat → E4) (hn : 0 < m → w.heap.size ≤ b ∧ Rws w' b m gg) :
    Ts w0 g L h ((b, m, gg) :: rs) w' := by
  have t' := t.keep hb
  refine ⟨t'.c, t'.fr, t'.r, t'.g0, t'.bel, fun x hx hm => ?_, List.pairwise_cons.2 ⟨fun x hx h1 h2 => ?_, t.pw⟩⟩
  · rcases List.mem_cons.1 hx with rfl | hx
    · exact ⟨Nat.lt_of_lt_of_le t.lt (hn hm).1, (hn hm).2⟩
    · exact t'.rows x hx hm
  · have := (t.rows x hx h2).2.lt
    have := (hn h1).1
    show b ≠ x.1
    omega
theorem Ts.put {w0 : World} {g L : Nat} {h : Nat → Int} {rs : List (Nat × Nat × (Nat → E4))} {w : World} (t : Ts w0 g L h rs w) (k : Nat) (hk : k < L + 3) (v : Int) (hv : 0 ≤ v ∧ v ≤ 255) :
    Ts w0 g L (fun j => if j = k then v else h j) rs (w.setCell ⟨g, k, none⟩ (.int .u8 v)) := by
  refine ⟨fun j hj => ?_, fun j hj => by rw [World.frozen?_setCell]; exact t.fr j hj, fun j hj => ?_, t.g0, t.bel.setCell t.g0 _, fun x hx hm => ⟨(t.rows x hx hm).1, (t.rows x hx hm).2.far (by have := (t.rows x hx hm).1; omega) _ _⟩, t.pw⟩
  · by_cases hjk : j = k
    · subst hjk
      have hb := t.c j hj
      rw [if_pos rfl]
      go_simp
    · rw [if_neg hjk, World.cell?_setCell_other w _ _ _ (by intro e; exact hjk (congrArg Addr.off e).symm)]
      exact t.c j hj
  · by_cases hjk : j = k
    · rw [if_pos hjk]; exact hv
    · rw [if_neg hjk]; exact t.r j hj
theorem Ts.congr {w0 : World} {g L : Nat} {h f : Nat → Int} {rs : List (Nat × Nat × (Nat → E4))} {w : World} (t : Ts w0 g L h rs w) (e : ∀ j, j < L + 3 → h j = f j) : Ts w0 g L f rs w :=
  ⟨fun j hj => by rw [← e j hj]; exact t.c j hj, t.fr, fun j hj => by rw [← e j hj]; exact t.r j hj, t.g0, t.bel, t.rows, t.pw⟩
theorem Ts.stm {w0 : World} {g L : Nat} {h f : Nat → Int} {rs : List (Nat × Nat × (Nat → E4))} {w : World} (t : Ts w0 g L h rs w) (e : ∀ j, j < L → h j = f j) : Stm w (some ⟨g, 0, none⟩) L f :=
  ⟨g, 0, fun _ => rfl, fun _ => ⟨fun j hj => by rw [← e j hj, Nat.zero_add]; exact t.c j (by omega), fun j hj => by rw [← e j hj]; exact t.r j (by omega)⟩⟩
/-- the two Tapes, on the copy and on the stream -/
theorem Tape_ts {w0 : World} {g L : Nat} {h : Nat → Int} {rs : List (Nat × Nat × (Nat → E4))} {w : World} (t : Ts w0 g L h rs w) (hT : Tb w0) (hL : L < 9223372036854775807) (P : Option Addr) (cap : Nat) (i : Int) (f : Nat → Int) (hcap : L ≤ cap) (hS : Stm w P L f) :
    Calls Tryd.prog 5 #[.slice P L cap, .int .i64 i] w fun e w' => ∃ (p : Option Addr) (b : Nat), e = .returned (.tuple #[.slice p (tn i L) (tn i L), .int .i64 (te i L)]) ∧ (0 < tn i L → p = some ⟨b, 0, none⟩) ∧ (tn i L = 0 → p = none ∨ ∃ x, p = some ⟨x, 0, none⟩) ∧ Ts w0 g L h ((b, tn i L, tp f) :: rs) w' := by
  refine (Tape_all P L cap i f w (hT.keep t.bel) hL hcap hS).mono fun e w' ⟨v, p, he, hl, hb⟩ => ?_
  obtain ⟨rfl, h1, h2⟩ := hl
  by_cases hm : 0 < tn i L
  · obtain ⟨b, hp, hs, hr⟩ := h1 hm
    exact ⟨p, b, he, fun _ => hp, h2, t.new hb b _ _ fun _ => ⟨hs, hr⟩⟩
  · exact ⟨p, 0, he, fun h => absurd h hm, h2, t.new hb 0 _ _ fun h => absurd h hm⟩
theorem rTape_ts {w0 : World} {g L : Nat} {h : Nat → Int} {rs : List (Nat × Nat × (Nat → E4))} {w : World} (t : Ts w0 g L h rs w) (hL : L < 9223372036854775807) (P : Option Addr) (cap : Nat) (i : Int) (f : Nat → Int) (hS : Stm w P L f) :
    Calls Tryd.prog 6 #[.slice P L cap, .int .i64 i] w fun e w' => ∃ (p : Option Addr) (b c : Nat), e = .returned (.tuple #[.slice p (tn i L) c, .int .i64 (te i L)]) ∧ (0 < tn i L → p = some ⟨b, 0, none⟩) ∧ Ts w0 g L h ((b, tn i L, tp f) :: rs) w' := by
  refine (rTape_all P L cap i f w hL hS).mono fun e w' ⟨v, p, c, he, hv, h1, hb⟩ => ?_
  subst hv
  by_cases hm : 0 < tn i L
  · obtain ⟨b, hp, hs, hr⟩ := h1 hm
    exact ⟨p, b, c, he, fun _ => hp, t.new hb b _ _ fun _ => ⟨hs, hr⟩⟩
  · exact ⟨p, 0, c, he, fun h => absurd h hm, t.new hb 0 _ _ fun h => absurd h hm⟩
/-- bytes as values; the copy with its three bytes more -/
def blv (f : Nat → Int) (L : Nat) : List Value := (List.range L).map fun j => .int .u8 (f j)
def f3 (f : Nat → Int) (L : Nat) (j : Nat) : Int := if j < L then f j else 201 + ((j : Int) - L)
theorem Ts.start {w0 w : World} {v : Value} {L : Nat} {e : TypeId} {f : Nat → Int} (hb : Below w0.heap.size w0 w) (hr : ∀ j, j < L → 0 ≤ f j ∧ f j ≤ 255)
    (how : w.ownsRow w0.heap.size e 1 v (L + 3) (blv f L ++ [.int .u8 201, .int .u8 202, .int .u8 203])) :
    ∃ g cap : Nat, v = .slice (some ⟨g, 0, none⟩) (L + 3) cap ∧ L + 3 ≤ cap ∧ Ts w0 g L (f3 f L) [] w := by
  rcases how.2 with ⟨_, h0⟩ | ⟨g, cap, cur, rfl, hg, _, hnc, _, _, _⟩
  · omega
  · refine ⟨g, cap, rfl, hnc, ⟨fun j hj => ?_, fun j _ => how.frozenAt j, fun j hj => ?_, hg, hb, fun x hx => (by cases hx), List.Pairwise.nil⟩⟩
    · rw [how.cellAt j (by omega)]
      by_cases hl : j < L
      · rw [List.getElem?_append_left (by simpa [blv] using hl)]
        simp [blv, hl, f3]
      · obtain ⟨k, rfl⟩ : ∃ k, j = L + k := ⟨j - L, by omega⟩
        have hk : k = 0 ∨ k = 1 ∨ k = 2 := by omega
        rw [List.getElem?_append_right (by simp [blv])]
        rcases hk with rfl | rfl | rfl
        · simp [blv, f3]
        · simp [blv, f3]; omega
        · simp [blv, f3]; omega
    · unfold f3
      split
      · exact hr j (by assumption)
      · omega
end Go.Proofs.YtcenphihmggfkaaDoor
