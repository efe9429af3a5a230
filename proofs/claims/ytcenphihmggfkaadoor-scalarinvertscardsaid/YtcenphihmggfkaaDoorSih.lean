import Derived.Test.YtcenphihmggfkaaDoorSia
import Derived.Test.YtcenphihmggfkaaDoorStr
import Derived.Test.YtcenphihmggfkaaDoorSix
import Derived.Test.YtcenphihmggfkaaDoorSsb
import Derived.Maps.AppendAt
namespace Go.Proofs.YtcenphihmggfkaaDoor
open Go.RowKit
/-- limbs that lie from an address on -/
structure Rl (w : World) (b o n : Nat) (g : Nat → E4) : Prop where
  c0 : ∀ k, k < n → w.cell? ⟨b, o + k * 4, none⟩ = some (.int .u64 (g k).x0)
  c1 : ∀ k, k < n → w.cell? ⟨b, o + k * 4 + 1, none⟩ = some (.int .u64 (g k).x1)
  c2 : ∀ k, k < n → w.cell? ⟨b, o + k * 4 + 2, none⟩ = some (.int .u64 (g k).x2)
  c3 : ∀ k, k < n → w.cell? ⟨b, o + k * 4 + 3, none⟩ = some (.int .u64 (g k).x3)
theorem Rl.keep {w1 w2 : World} {b o n : Nat} {g : Nat → E4} (h : Rl w1 b o n g) (hb : Below w1.heap.size w1 w2) : Rl w2 b o n g :=
  ⟨fun k hk => cell_keep (h.c0 k hk) hb, fun k hk => cell_keep (h.c1 k hk) hb, fun k hk => cell_keep (h.c2 k hk) hb, fun k hk => cell_keep (h.c3 k hk) hb⟩
theorem Rl.less {w : World} {b o n m : Nat} {g : Nat → E4} (h : Rl w b o n g) (hm : m ≤ n) : Rl w b o m g :=
  ⟨fun k hk => h.c0 k (by omega), fun k hk => h.c1 k (by omega), fun k hk => h.c2 k (by omega), fun k hk => h.c3 k (by omega)⟩
theorem Rws.rl {w : World} {b n : Nat} {g : Nat → E4} (h : Rws w b n g) : Rl w b 0 n g :=
  ⟨fun k hk => by rw [Nat.zero_add]; exact h.c0 k hk, fun k hk => by rw [Nat.zero_add]; exact h.c1 k hk, fun k hk => by rw [Nat.zero_add]; exact h.c2 k hk, fun k hk => by rw [Nat.zero_add]; exact h.c3 k hk⟩
/-- a list of limbs -/
def Lm (w : World) (P : Option Addr) (n : Nat) (g : Nat → E4) : Prop := ∃ sb so : Nat, (0 < n → P = some ⟨sb, so, none⟩) ∧ (0 < n → Rl w sb so n g)
theorem Lm.keep {w1 w2 : World} {P : Option Addr} {n : Nat} {g : Nat → E4} (h : Lm w1 P n g) (hb : Below w1.heap.size w1 w2) : Lm w2 P n g := by
  obtain ⟨sb, so, h1, h2⟩ := h
  exact ⟨sb, so, h1, fun hl => (h2 hl).keep hb⟩
theorem Lm.less {w : World} {P : Option Addr} {n m : Nat} {g : Nat → E4} (h : Lm w P n g) (hm : m ≤ n) : Lm w P m g := by
  obtain ⟨sb, so, h1, h2⟩ := h
  exact ⟨sb, so, fun hl => h1 (by omega), fun hl => (h2 (by omega)).less hm⟩
theorem Rws.less {w : World} {b n m : Nat} {g : Nat → E4} (h : Rws w b n g) (hm : m ≤ n) : Rws w b m g :=
  ⟨fun k hk => h.c0 k (by omega), fun k hk => h.c1 k (by omega), fun k hk => h.c2 k (by omega), fun k hk => h.c3 k (by omega), fun k hk => h.fr k (by omega), h.lt⟩
/-- with two marks behind -/
def g77 (g : Nat → E4) (L k : Nat) : E4 := if k < L then g k else if k = L then ⟨77, 0, 0, 0⟩ else ⟨78, 0, 0, 0⟩
theorem svs_congr {n : Nat} {f g : Nat → E4} (h : ∀ k, k < n → f k = g k) : svs n f = svs n g := by
  induction n with
  | zero => rfl
  | succ n ih => rw [svs_succ, svs_succ, ih (fun k hk => h k (by omega)), h n (by omega)]
theorem svs_77 (g : Nat → E4) (L : Nat) : svs L g ++ [.int .u64 77, .int .u64 0, .int .u64 0, .int .u64 0, .int .u64 78, .int .u64 0, .int .u64 0, .int .u64 0] = svs (L + 2) (g77 g L) := by
  rw [svs_succ, svs_succ, svs_congr (f := g77 g L) (g := g) (fun k hk => if_pos hk), show g77 g L L = ⟨77, 0, 0, 0⟩ by unfold g77; rw [if_neg (by omega), if_pos rfl], show g77 g L (L + 1) = ⟨78, 0, 0, 0⟩ by unfold g77; rw [if_neg (by omega), if_neg (by omega)]]
  simp
set_option maxRecDepth 100000 in
set_option maxHeartbeats 16000000 in
theorem handed_any (P : Option Addr) (L cap : Nat) (g : Nat → E4) (w : World) (hL : L ≤ 4398046510976) (hS : Lm w P L g) :
    Calls Tryd.prog 9 #[.slice P L cap] w fun e w' => ∃ b c : Nat, e = .returned (.slice (some ⟨b, 0, none⟩) (L + 2) c) ∧ L + 2 ≤ c ∧ w.heap.size ≤ b ∧ Rws w' b (L + 2) (g77 g L) ∧ Below w.heap.size w w' := by
  have HS := hidden hS
  have HL := hidden hL
  have nn0 : (0 : Int) ≤ (L : Int) := by omega
  obtain ⟨i0, hi, hz0, hz1, hz2⟩ := info_parts sinfo
  have HI := hidden hi
  have HZ0 := hidden hz0
  have HZ1 := hidden hz1
  have HZ2 := hidden hz2
  have HU : Hid (Tryd.prog.underlying 23 = some (.slice 33)) := hidden (by kernel_rfl)
  clear hS hL hi hz0 hz1 hz2
  go_enter Tryd.func9, Tryd.ntmps9
  go_wp2_with fail
  go_loopw [3, 4] (fun ov iv w' => ∃ i : Nat, i ≤ L ∧ iv = .int .i64 i ∧ Hid (w'.ownsRow w.heap.size 33 4 ov i (svs i g)) ∧ Hid (Below w.heap.size w w')) (fun _ i _ => L - (intOf i).toNat)
  case atStart => exact ⟨0, by omega, rfl, hidden (World.ownsRow_nil _ _ _ _), hidden (Below.refl _ _)⟩
  case round =>
    obtain ⟨i, hi, rfl, how, hbl⟩ := hrel
    by_cases hin : i < L
    · obtain ⟨sb, so, h1, h2⟩ := HS.out
      obtain rfl := h1 (by omega)
      have rx := (h2 (by omega)).keep hbl.out
      have ii0 : (0 : Int) ≤ (i : Int) := by omega
      have ii1 : (i : Int) < (L : Int) := by omega
      have w9 : IntKind.i64.wrap ((i : Int) + 1) = (i : Int) + 1 := IntWalk.i64_in _ (by have := HL.out; omega)
      have x0 := rx.c0 i hin
      have x1 := rx.c1 i hin
      have x2 := rx.c2 i hin
      have x3 := rx.c3 i hin
      obtain ⟨z, hz⟩ : ∃ z, g i = z := ⟨_, rfl⟩
      rw [hz] at x0 x1 x2 x3
      have HZ := hidden hz
      have hsz := hbl.out.size
      have a1 := hidden (how.out.alloc (.cells #[.int .u64 z.x0, .int .u64 z.x1, .int .u64 z.x2, .int .u64 z.x3] 33))
      have a2 := hidden (cells_new wr [.int .u64 z.x0, .int .u64 z.x1, .int .u64 z.x2, .int .u64 z.x3] 33)
      have a3 : Hid (∀ u ∈ [Value.int .u64 z.x0, .int .u64 z.x1, .int .u64 z.x2, .int .u64 z.x3], u.oneCell' = true) := hidden (by simp [Value.oneCell'])
      have a4 : Hid (i + 1 ≤ maxLen) := hidden (by have := HL.out; unfold maxLen; omega)
      have a5 : Hid ((i + 1) * 32 ≤ 140737488355328) := hidden (by have := HL.out; omega)
      have a6 : Hid (w.heap.size ≤ (wr.alloc (.cells #[.int .u64 z.x0, .int .u64 z.x1, .int .u64 z.x2, .int .u64 z.x3] 33)).heap.size) := hidden (by simp; omega)
      have b6 := hidden (bl_trans hbl.out (bl_alloc wr (.cells #[.int .u64 z.x0, .int .u64 z.x1, .int .u64 z.x2, .int .u64 z.x3] 33)))
      clear rx hz h1 h2 hsz how hbl
      go_wp2_with (first | (at_builtin; refine wpList_append_moreS _ rfl _ _ 23 rfl w.heap.size 33 i0 (.agg #[.int .u64 0, .int .u64 0, .int .u64 0, .int .u64 0]) 32 HU.out HI.out HZ0.out HZ1.out HZ2.out rfl _ _ _ rfl (Or.inl a1.out) ⟨wr.heap.size, 0, none⟩ [.int .u64 z.x0, .int .u64 z.x1, .int .u64 z.x2, .int .u64 z.x3] rfl rfl a2.out a3.out a4.out a5.out a6.out ?_; intro v' w3 hown hb3; have HO := hidden hown; have HB := hidden (below_trans b6.out hb3); clear hown hb3))
      go_roundw
      case rel => exact ⟨i + 1, by omega, by go_num, hidden (by rw [svs_succ, HZ.out]; exact HO.out), HB⟩
      case measure => simp [intOf]; omega
    · have hii : L = i := by omega
      subst hii
      have lq : ¬ (L : Int) < (L : Int) := by omega
      have hsz := hbl.out.size
      have a1 := hidden (how.out.alloc (.cells #[.int .u64 77, .int .u64 0, .int .u64 0, .int .u64 0, .int .u64 78, .int .u64 0, .int .u64 0, .int .u64 0] 33))
      have a2 := hidden (cells_new wr [.int .u64 77, .int .u64 0, .int .u64 0, .int .u64 0, .int .u64 78, .int .u64 0, .int .u64 0, .int .u64 0] 33)
      have a3 : Hid (∀ u ∈ [Value.int .u64 77, .int .u64 0, .int .u64 0, .int .u64 0, .int .u64 78, .int .u64 0, .int .u64 0, .int .u64 0], u.oneCell' = true) := hidden (by simp [Value.oneCell'])
      have a4 : Hid (L + 2 ≤ maxLen) := hidden (by have := HL.out; unfold maxLen; omega)
      have a5 : Hid ((L + 2) * 32 ≤ 140737488355328) := hidden (by have := HL.out; omega)
      have a6 : Hid (w.heap.size ≤ (wr.alloc (.cells #[.int .u64 77, .int .u64 0, .int .u64 0, .int .u64 0, .int .u64 78, .int .u64 0, .int .u64 0, .int .u64 0] 33)).heap.size) := hidden (by simp; omega)
      have b6 := hidden (bl_trans hbl.out (bl_alloc wr (.cells #[.int .u64 77, .int .u64 0, .int .u64 0, .int .u64 0, .int .u64 78, .int .u64 0, .int .u64 0, .int .u64 0] 33)))
      clear hsz how hbl
      go_wp2_with (first | (at_builtin; refine wpList_append_own_at _ rfl _ _ 23 rfl w.heap.size 33 i0 (.agg #[.int .u64 0, .int .u64 0, .int .u64 0, .int .u64 0]) 4 32 HU.out HI.out HZ0.out HZ1.out HZ2.out rfl (by decide) _ _ _ rfl a1.out ⟨wr.heap.size, 0, none⟩ 2 2 [.int .u64 77, .int .u64 0, .int .u64 0, .int .u64 0, .int .u64 78, .int .u64 0, .int .u64 0, .int .u64 0] rfl rfl a2.out a3.out a4.out a5.out a6.out ?_; intro v' w3 hown hgr hnil hat; have HO := hidden hown; have HB := hidden (below_trans b6.out (below_grown hgr a6.out (fun k hk => (a1.out.lt k hk).1))); clear hown hgr hnil hat))
      rw [svs_77] at HO
      rcases HO.out.2 with ⟨_, h0⟩ | ⟨gg, cap2, cur, rfl, hg, _, hnc, _, _, _⟩
      · omega
      refine bodyPost_ret (v := .slice (some ⟨gg, 0, none⟩) (L + 2) cap2) (by simp [results, Tryd.results9, go_sem]) rfl ⟨gg, cap2, rfl, hnc, hg, Rws.own HO.out, HB.out⟩
end Go.Proofs.YtcenphihmggfkaaDoor
