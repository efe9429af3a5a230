import Derived.Test.YtcenphihmggfkaaDoorSia
import Derived.Test.YtcenphihmggfkaaDoorStr
import Derived.Test.YtcenphihmggfkaaDoorSix
import Derived.Test.YtcenphihmggfkaaDoorSsb
import Derived.Maps.AppendAt
import Derived.Laws.AppendOwnNone
namespace Go.Proofs.YtcenphihmggfkaaDoor
open Go.RowKit
/-- limbs that lie from an address on -/
structure Rl (w : World) (b o n : Nat) (g : Nat → E4) : Prop where
  c0 : ∀ k, k < n → w.cell? ⟨b, o + k * 4, none⟩ = some (.int .u64 (g k).x0)
  c1 : ∀ k, k < n → w.cell? ⟨b, o + k * 4 + 1, none⟩ = some (.int .u64 (g k).x1)
  c2 : ∀ k, k < n → w.cell? ⟨b, o + k * 4 + 2, none⟩ = some (.int .u64 (g k).x2)
  c3 : ∀ k, k < n → w.cell? ⟨b, o + k * 4 + 3, none⟩ = some (.int .u64 (g k).x3)
theorem Rl.keep {w1 w2 : World} {b o n : Nat} {g : Nat → E4} (h : Rl w1 b o n g) (hb : Below w1.heap.size w1 w2) : Rl w2 b o n g :=
  ⟨fun k hk => cell_keep (h.c0 k hk) hb, fun k hk => cell_keep (h.c1 k hk) hb, fun k hk => cell_keep (h.c2 k hk) hb, fun k hk => cell_keep (h.c3 k hk) hb⟩
theorem Rl.less {w : World} {b o n m : Nat} {g : Nat → E4} (h : Rl w b o n g) (hm : m ≤ n) : Rl w b o m g :=
  ⟨fun k hk => h.c0 k (by omega), fun k hk => h.c1 k (by omega), fun k hk => h.c2 k (by omega), fun k hk => h.c3 k (by omega)⟩
theorem Rws.rl {w : World} {b n : Nat} {g : Nat → E4} (h : Rws w b n g) : Rl w b 0 n g :=
  ⟨fun k hk => by rw [Nat.zero_add]; exact h.c0 k hk, fun k hk => by rw [Nat.zero_add]; exact h.c1 k hk, fun k hk => by rw [Nat.zero_add]; exact h.c2 k hk, fun k hk => by rw [Nat.zero_add]; exact h.c3 k hk⟩
/-- a list of limbs -/
def Lm (w : World) (P : Option Addr) (n : Nat) (g : Nat → E4) : Prop := ∃ sb so : Nat, (0 < n → P = some ⟨sb, so, none⟩) ∧ (0 < n → Rl w sb so n g)
theorem Lm.keep {w1 w2 : World} {P : Option Addr} {n : Nat} {g : Nat → E4} (h : Lm w1 P n g) (hb : Below w1.heap.size w1 w2) : Lm w2 P n g := by
  obtain ⟨sb, so, h1, h2⟩ := h
  exact ⟨sb, so, h1, fun hl => (h2 hl).keep hb⟩
theorem Lm.less {w : World} {P : Option Addr} {n m : Nat} {g : Nat → E4} (h : Lm w P n g) (hm : m ≤ n) : Lm w P m g := by
  obtain ⟨sb, so, h1, h2⟩ := h
  exact ⟨sb, so, fun hl => h1 (by omega), fun hl => (h2 (by omega)).less hm⟩
theorem Rws.less {w : World} {b n m : Nat} {g : Nat → E4} (h : Rws w b n g) (hm : m ≤ n) : Rws w b m g :=
  ⟨fun k hk => h.c0 k (by omega), fun k hk => h.c1 k (by omega), fun k hk => h.c2 k (by omega), fun k hk => h.c3 k (by omega), fun k hk => h.fr k (by omega), h.lt⟩
/-- with two marks behind -/
def g77 (g : Nat → E4) (L k : Nat) : E4 := if k < L then g k else if k = L then ⟨77, 0, 0, 0⟩ else ⟨78, 0, 0, 0⟩
theorem svs_congr {n : Nat} {f g : Nat → E4} (h : ∀ k, k < n → f k = g k) : svs n f = svs n g := by
  induction n with
  | zero => rfl
  | succ n ih => rw [svs_succ, svs_succ, ih (fun k hk => h k (by omega)), h n (by omega)]
theorem svs_77 (g : Nat → E4) (L : Nat) : svs L g ++ [.int .u64 77, .int .u64 0, .int .u64 0, .int .u64 0, .int .u64 78, .int .u64 0, .int .u64 0, .int .u64 0] = svs (L + 2) (g77 g L) := by
  rw [svs_succ, svs_succ, svs_congr (f := g77 g L) (g := g) (fun k hk => if_pos hk), show g77 g L L = ⟨77, 0, 0, 0⟩ by unfold g77; rw [if_neg (by omega), if_pos rfl], show g77 g L (L + 1) = ⟨78, 0, 0, 0⟩ by unfold g77; rw [if_neg (by omega), if_neg (by omega)]]
  simp
set_option maxRecDepth 100000 in
set_option maxHeartbeats 16000000 in
theorem handed_any (P : Option Addr) (L cap : Nat) (g : Nat → E4) (w : World) (hL : L ≤ 4398046510976) (hS : Lm w P L g) :
    Calls Tryd.prog 9 #[.slice P L cap] w fun e w' => ∃ b c : Nat, e = .returned (.slice (some ⟨b, 0, none⟩) (L + 2) c) ∧ L + 2 ≤ c ∧ w.heap.size ≤ b ∧ Rws w' b (L + 2) (g77 g L) ∧ Below w.heap.size w w' := by
  have HS := hidden hS
  have HL := hidden hL
  have nn0 : (0 : Int) ≤ (L : Int) := by omega
  obtain ⟨i0, hi, hz0, hz1, hz2⟩ := info_parts sinfo
  have HI := hidden hi
  have HZ0 := hidden hz0
  have HZ1 := hidden hz1
  have HZ2 := hidden hz2
  have HU : Hid (Tryd.prog.underlying 23 = some (.slice 33)) := hidden (by kernel_rfl)
  clear hS hL hi hz0 hz1 hz2
  go_enter Tryd.func9, Tryd.ntmps9
  go_wp2_with fail
  go_loopw [3, 4] (fun ov iv w' => ∃ i : Nat, i ≤ L ∧ iv = .int .i64 i ∧ Hid (w'.ownsRow w.heap.size 33 4 ov i (svs i g)) ∧ Hid (Below w.heap.size w w')) (fun _ i _ => L - (intOf i).toNat)
  case atStart => exact ⟨0, by omega, rfl, hidden (World.ownsRow_nil _ _ _ _), hidden (Below.refl _ _)⟩
  case round =>
    obtain ⟨i, hi, rfl, how, hbl⟩ := hrel
    by_cases hin : i < L
    · obtain ⟨sb, so, h1, h2⟩ := HS.out
      obtain rfl := h1 (by omega)
      have rx := (h2 (by omega)).keep hbl.out
      have ii0 : (0 : Int) ≤ (i : Int) := by omega
      have ii1 : (i : Int) < (L : Int) := by omega
      have w9 : IntKind.i64.wrap ((i : Int) + 1) = (i : Int) + 1 := IntWalk.i64_in _ (by have := HL.out; omega)
      have x0 := rx.c0 i hin
      have x1 := rx.c1 i hin
      have x2 := rx.c2 i hin
      have x3 := rx.c3 i hin
      obtain ⟨z, hz⟩ : ∃ z, g i = z := ⟨_, rfl⟩
      rw [hz] at x0 x1 x2 x3
      have HZ := hidden hz
      have hsz := hbl.out.size
      have a1 := hidden (how.out.alloc (.cells #[.int .u64 z.x0, .int .u64 z.x1, .int .u64 z.x2, .int .u64 z.x3] 33))
      have a2 := hidden (cells_new wr [.int .u64 z.x0, .int .u64 z.x1, .int .u64 z.x2, .int .u64 z.x3] 33)
      have a3 : Hid (∀ u ∈ [Value.int .u64 z.x0, .int .u64 z.x1, .int .u64 z.x2, .int .u64 z.x3], u.oneCell' = true) := hidden (by simp [Value.oneCell'])
      have a4 : Hid (i + 1 ≤ maxLen) := hidden (by have := HL.out; unfold maxLen; omega)
      have a5 : Hid ((i + 1) * 32 ≤ 140737488355328) := hidden (by have := HL.out; omega)
      have a6 : Hid (w.heap.size ≤ (wr.alloc (.cells #[.int .u64 z.x0, .int .u64 z.x1, .int .u64 z.x2, .int .u64 z.x3] 33)).heap.size) := hidden (by simp; omega)
      have b6 := hidden (bl_trans hbl.out (bl_alloc wr (.cells #[.int .u64 z.x0, .int .u64 z.x1, .int .u64 z.x2, .int .u64 z.x3] 33)))
      clear rx hz h1 h2 hsz how hbl
      go_wp2_with (first | (at_builtin; refine wpList_append_moreS _ rfl _ _ 23 rfl w.heap.size 33 i0 (.agg #[.int .u64 0, .int .u64 0, .int .u64 0, .int .u64 0]) 32 HU.out HI.out HZ0.out HZ1.out HZ2.out rfl _ _ _ rfl (Or.inl a1.out) ⟨wr.heap.size, 0, none⟩ [.int .u64 z.x0, .int .u64 z.x1, .int .u64 z.x2, .int .u64 z.x3] rfl rfl a2.out a3.out a4.out a5.out a6.out ?_; intro v' w3 hown hb3; have HO := hidden hown; have HB := hidden (below_trans b6.out hb3); clear hown hb3))
      go_roundw
      case rel => exact ⟨i + 1, by omega, by go_num, hidden (by rw [svs_succ, HZ.out]; exact HO.out), HB⟩
      case measure => simp [intOf]; omega
    · have hii : L = i := by omega
      subst hii
      have lq : ¬ (L : Int) < (L : Int) := by omega
      have hsz := hbl.out.size
      have a1 := hidden (how.out.alloc (.cells #[.int .u64 77, .int .u64 0, .int .u64 0, .int .u64 0, .int .u64 78, .int .u64 0, .int .u64 0, .int .u64 0] 33))
      have a2 := hidden (cells_new wr [.int .u64 77, .int .u64 0, .int .u64 0, .int .u64 0, .int .u64 78, .int .u64 0, .int .u64 0, .int .u64 0] 33)
      have a3 : Hid (∀ u ∈ [Value.int .u64 77, .int .u64 0, .int .u64 0, .int .u64 0, .int .u64 78, .int .u64 0, .int .u64 0, .int .u64 0], u.oneCell' = true) := hidden (by simp [Value.oneCell'])
      have a4 : Hid (L + 2 ≤ maxLen) := hidden (by have := HL.out; unfold maxLen; omega)
      have a5 : Hid ((L + 2) * 32 ≤ 140737488355328) := hidden (by have := HL.out; omega)
      have a6 : Hid (w.heap.size ≤ (wr.alloc (.cells #[.int .u64 77, .int .u64 0, .int .u64 0, .int .u64 0, .int .u64 78, .int .u64 0, .int .u64 0, .int .u64 0] 33)).heap.size) := hidden (by simp; omega)
      have b6 := hidden (bl_trans hbl.out (bl_alloc wr (.cells #[.int .u64 77, .int .u64 0, .int .u64 0, .int .u64 0, .int .u64 78, .int .u64 0, .int .u64 0, .int .u64 0] 33)))
      clear hsz how hbl
      go_wp2_with (first | (at_builtin; refine wpList_append_own_at _ rfl _ _ 23 rfl w.heap.size 33 i0 (.agg #[.int .u64 0, .int .u64 0, .int .u64 0, .int .u64 0]) 4 32 HU.out HI.out HZ0.out HZ1.out HZ2.out rfl (by decide) _ _ _ rfl a1.out ⟨wr.heap.size, 0, none⟩ 2 2 [.int .u64 77, .int .u64 0, .int .u64 0, .int .u64 0, .int .u64 78, .int .u64 0, .int .u64 0, .int .u64 0] rfl rfl a2.out a3.out a4.out a5.out a6.out ?_; intro v' w3 hown hgr hnil hat; have HO := hidden hown; have HB := hidden (below_trans b6.out (below_grown hgr a6.out (fun k hk => (a1.out.lt k hk).1))); clear hown hgr hnil hat))
      rw [svs_77] at HO
      rcases HO.out.2 with ⟨_, h0⟩ | ⟨gg, cap2, cur, rfl, hg, _, hnc, _, _, _⟩
      · omega
      refine bodyPost_ret (v := .slice (some ⟨gg, 0, none⟩) (L + 2) cap2) (by simp [results, Tryd.results9, go_sem]) rfl ⟨gg, cap2, rfl, hnc, hg, Rws.own HO.out, HB.out⟩

theorem eq4L (a b : E4) (w : World) : (Op.equalIn 10000 43 a.v b.v).run Tryd.prog w = .ok (a.same b) w := by
  have hi : Tryd.prog.info? 31 = some (Tryd.prog.info? 31).get! := by kernel_rfl
  have hc : Tryd.prog.cellsOf 31 = 1 := by kernel_rfl
  unfold E4.v
  rw [run_equalIn_array w 9999 _ _ (by kernel_rfl : Tryd.prog.underlying 43 = some (.array 4 31)) hi, hc]
  rw [eqItems_ints w (k := .u64) 9998 (by kernel_rfl) (by kernel_rfl) _ _ (fun i => [a.x0, a.x1, a.x2, a.x3].getD i 0) (fun i => [b.x0, b.x1, b.x2, b.x3].getD i 0)]
  · rw [show List.range 4 = [0, 1, 2, 3] from rfl]
    simp only [List.all_cons, List.all_nil, Bool.and_true]
    rfl
  · intro i hi
    have : i < 4 := List.mem_range.1 hi
    match i, this with
    | 0, _ => exact ⟨rfl, rfl⟩
    | 1, _ => exact ⟨rfl, rfl⟩
    | 2, _ => exact ⟨rfl, rfl⟩
    | 3, _ => exact ⟨rfl, rfl⟩
set_option maxRecDepth 100000 in
set_option maxHeartbeats 16000000 in
theorem stays_any (b c : Nat) (P : Option Addr) (L cap : Nat) (g : Nat → E4) (w : World) (hL : L ≤ 4398046510976) (hR : Rws w b (L + 2) (g77 g L)) (hS : Lm w P L g) :
    Calls Tryd.prog 12 #[.slice (some ⟨b, 0, none⟩) (L + 2) c, .slice P L cap] w fun e w' => e = .returned (.bool true) ∧ Below w.heap.size w w' := by
  have HS := hidden hS
  have HR := hidden hR
  have HL := hidden hL
  have nn0 : (0 : Int) ≤ (L : Int) := by omega
  clear hS hL hR
  go_enter Tryd.func12, Tryd.ntmps12
  go_wp2_with fail
  go_loopw [5] (fun iv w' => ∃ i : Nat, i ≤ L ∧ iv = .int .i64 i ∧ Hid (Below w.heap.size w w')) (fun i _ => L - (intOf i).toNat)
  case atStart => exact ⟨0, by omega, rfl, hidden (Below.refl _ _)⟩
  case round =>
    obtain ⟨i, hi, rfl, hbl⟩ := hrel
    by_cases hin : i < L
    · obtain ⟨sb, so, h1, h2⟩ := HS.out
      obtain rfl := h1 (by omega)
      have bd := bl_trans hbl.out (drew_blS wr)
      have rx := (h2 (by omega)).keep bd
      have ry := HR.out.keep bd
      have ii0 : (0 : Int) ≤ (i : Int) := by omega
      have ii1 : (i : Int) < (L : Int) := by omega
      have ii2 : (i : Int) < ((L + 2 : Nat) : Int) := by omega
      have w9 : IntKind.i64.wrap ((i : Int) + 1) = (i : Int) + 1 := IntWalk.i64_in _ (by have := HL.out; omega)
      have x0 := rx.c0 i hin
      have x1 := rx.c1 i hin
      have x2 := rx.c2 i hin
      have x3 := rx.c3 i hin
      have y0 := ry.c0 i (by omega)
      have y1 := ry.c1 i (by omega)
      have y2 := ry.c2 i (by omega)
      have y3 := ry.c3 i (by omega)
      rw [show g77 g L i = g i from if_pos hin] at y0 y1 y2 y3
      have BD := hidden bd
      generalize g i = z at x0 x1 x2 x3 y0 y1 y2 y3
      have hq : ∀ w, (Op.equalIn 10000 43 (.agg #[.int .u64 z.x0, .int .u64 z.x1, .int .u64 z.x2, .int .u64 z.x3]) (.agg #[.int .u64 z.x0, .int .u64 z.x1, .int .u64 z.x2, .int .u64 z.x3])).run Tryd.prog w = .ok true w := fun w => (eq4L z z w).trans (by rw [E4.same_self])
      clear rx ry h1 h2 hbl bd
      go_upto_region 4 with fail
      go_cut [20] (fun v wx => v = .bool false ∧ Below w.heap.size w wx)
      case first =>
        go_region_with fail
        all_goals
          clear x0 x1 x2 x3 y0 y1 y2 y3
          go_wp2_with fail
          go_meet
          exact ⟨rfl, BD.out⟩
      case rest =>
      obtain ⟨rfl, hb3⟩ := hcut
      have B3 := hidden hb3
      clear hb3 x0 x1 x2 x3 y0 y1 y2 y3 BD
      go_wp2_with fail
      go_roundw
      case rel => exact ⟨i + 1, by omega, by go_num, B3⟩
      case measure => simp [intOf]; omega
    · have hii : L = i := by omega
      subst hii
      have lq : ¬ (L : Int) < (L : Int) := by omega
      have ry := HR.out.keep hbl.out
      have y0 := ry.c0 L (by omega)
      have y1 := ry.c1 L (by omega)
      have y2 := ry.c2 L (by omega)
      have y3 := ry.c3 L (by omega)
      rw [show g77 g L L = ⟨77, 0, 0, 0⟩ by unfold g77; rw [if_neg (by omega), if_pos rfl]] at y0 y1 y2 y3
      have x0 := ry.c0 (L + 1) (by omega)
      have x1 := ry.c1 (L + 1) (by omega)
      have x2 := ry.c2 (L + 1) (by omega)
      have x3 := ry.c3 (L + 1) (by omega)
      rw [show g77 g L (L + 1) = ⟨78, 0, 0, 0⟩ by unfold g77; rw [if_neg (by omega), if_neg (by omega)]] at x0 x1 x2 x3
      have e1 : IntKind.i64.wrap ((L : Int) + 1) = (L : Int) + 1 := IntWalk.i64_in _ (by have := HL.out; omega)
      have e3 : (L : Int) < (L : Int) + 2 := by omega
      have e4 : (L : Int) + 1 < (L : Int) + 2 := by omega
      have e6 : ((L : Int) + 1).toNat = L + 1 := by omega
      have e8 : (0 : Int) ≤ (L : Int) + 1 := by omega
      have e10 : ((L + 2 : Nat) : Int) = (L : Int) + 2 := by omega
      have q7 : ∀ w, (Op.equalIn 10000 33 (.agg #[.int .u64 77, .int .u64 0, .int .u64 0, .int .u64 0]) (.agg #[.int .u64 77, .int .u64 0, .int .u64 0, .int .u64 0])).run Tryd.prog w = .ok true w := fun w => (eq4 ⟨77, 0, 0, 0⟩ ⟨77, 0, 0, 0⟩ w).trans (by rw [E4.same_self])
      have q8 : ∀ w, (Op.equalIn 10000 33 (.agg #[.int .u64 78, .int .u64 0, .int .u64 0, .int .u64 0]) (.agg #[.int .u64 78, .int .u64 0, .int .u64 0, .int .u64 0])).run Tryd.prog w = .ok true w := fun w => (eq4 ⟨78, 0, 0, 0⟩ ⟨78, 0, 0, 0⟩ w).trans (by rw [E4.same_self])
      clear ry
      go_wp2_with fail
      refine bodyPost_ret (v := .bool true) (by simp [results, Tryd.results12, go_sem]) rfl ⟨rfl, hbl.out⟩
set_option maxRecDepth 100000 in
set_option maxHeartbeats 16000000 in
theorem inverses_any (b c : Nat) (P : Option Addr) (n cap : Nat) (g : Nat → E4) (w : World) (hn : n ≤ 4398046510976) (hg : ∀ k, k < n → (g k).ok) (hR : Rws w b n (fun k => iv (g k).n)) (hS : Lm w P n g) :
    Calls Tryd.prog 11 #[.slice (some ⟨b, 0, none⟩) n c, .slice P n cap] w fun e w' => e = .returned (.bool true) ∧ Below w.heap.size w w' := by
  have HS := hidden hS
  have HR := hidden hR
  have HN := hidden hn
  have HG := hidden hg
  have nn0 : (0 : Int) ≤ (n : Int) := by omega
  clear hS hn hR hg
  go_enter Tryd.func11, Tryd.ntmps11
  go_wp2_with fail
  go_loopw [5] (fun iv w' => ∃ i : Nat, i ≤ n ∧ iv = .int .i64 i ∧ Hid (Below w.heap.size w w')) (fun i _ => n - (intOf i).toNat)
  case atStart => exact ⟨0, by omega, rfl, hidden (Below.refl _ _)⟩
  case round =>
    obtain ⟨i, hi, rfl, hbl⟩ := hrel
    by_cases hin : i < n
    · obtain ⟨sb, so, h1, h2⟩ := HS.out
      obtain rfl := h1 (by omega)
      have rl := h2 (by omega)
      have zok := HG.out i hin
      obtain ⟨z, hz⟩ : ∃ z, g i = z := ⟨_, rfl⟩
      rw [hz] at zok
      obtain ⟨q, hq⟩ : ∃ q, lst z.n = q := ⟨_, rfl⟩
      obtain ⟨u, hu⟩ : ∃ u, iv z.n = u := ⟨_, rfl⟩
      have OF : Hid (∀ w, Calls Tryd.prog 19 #[z.v] w fun e w' => e = .returned q.v ∧ Below w.heap.size w w') := hidden (fun w => by rw [← hq]; exact of_any z w zok)
      have IV : Hid (∀ w, Calls Tryd.prog 20 #[q.v] w fun e w' => e = .returned u.v ∧ Below w.heap.size w w') := hidden (fun w => by rw [← hq, ← hu]; exact rInvert_any z.n w)
      have IS := hidden (fun w => is_any u w)
      simp only [E4.v] at OF IV IS
      have ii0 : (0 : Int) ≤ (i : Int) := by omega
      have ii1 : (i : Int) < (n : Int) := by omega
      have w9 : IntKind.i64.wrap ((i : Int) + 1) = (i : Int) + 1 := IntWalk.i64_in _ (by have := HN.out; omega)
      have KS : Hid (∀ w', Below w.heap.size w w' → (fun w' => Below w.heap.size w w' ∧ w'.cell? ⟨b, i * 4, none⟩ = some (.int .u64 u.x0) ∧ w'.cell? ⟨b, i * 4 + 1, none⟩ = some (.int .u64 u.x1) ∧ w'.cell? ⟨b, i * 4 + 2, none⟩ = some (.int .u64 u.x2) ∧ w'.cell? ⟨b, i * 4 + 3, none⟩ = some (.int .u64 u.x3) ∧ w'.cell? ⟨sb, so + i * 4, none⟩ = some (.int .u64 z.x0) ∧ w'.cell? ⟨sb, so + i * 4 + 1, none⟩ = some (.int .u64 z.x1) ∧ w'.cell? ⟨sb, so + i * 4 + 2, none⟩ = some (.int .u64 z.x2) ∧ w'.cell? ⟨sb, so + i * 4 + 3, none⟩ = some (.int .u64 z.x3)) w') := hidden (fun w' h => by
        have r1 := HR.out.keep h
        have r2 := rl.keep h
        have y0 := r1.c0 i hin
        have y1 := r1.c1 i hin
        have y2 := r1.c2 i hin
        have y3 := r1.c3 i hin
        have x0 := r2.c0 i hin
        have x1 := r2.c1 i hin
        have x2 := r2.c2 i hin
        have x3 := r2.c3 i hin
        simp only [hz, hu] at y0 y1 y2 y3 x0 x1 x2 x3
        exact ⟨h, y0, y1, y2, y3, x0, x1, x2, x3⟩)
      have K0 := hidden (KS.out _ (bl_trans hbl.out (drew_blS wr)))
      clear hz hq hu zok rl h1 h2 hbl
      go_upto_region 6 with fail
      go_cut [28] (fun v wx => v = .bool false ∧ Below w.heap.size w wx)
      case first =>
        go_region_held3 (fun w' => Below w.heap.size w w' ∧ w'.cell? ⟨b, i * 4, none⟩ = some (.int .u64 u.x0) ∧ w'.cell? ⟨b, i * 4 + 1, none⟩ = some (.int .u64 u.x1) ∧ w'.cell? ⟨b, i * 4 + 2, none⟩ = some (.int .u64 u.x2) ∧ w'.cell? ⟨b, i * 4 + 3, none⟩ = some (.int .u64 u.x3) ∧ w'.cell? ⟨sb, so + i * 4, none⟩ = some (.int .u64 z.x0) ∧ w'.cell? ⟨sb, so + i * 4 + 1, none⟩ = some (.int .u64 z.x1) ∧ w'.cell? ⟨sb, so + i * 4 + 2, none⟩ = some (.int .u64 z.x2) ∧ w'.cell? ⟨sb, so + i * 4 + 3, none⟩ = some (.int .u64 z.x3)) (first | with_reducible exact K0.out | with_reducible exact hk.out)
          (first | (go_at_call 19; with_reducible refine (OF.out _).mono ?_; rintro e wn ⟨rfl, hb⟩; have hk := hidden (KS.out _ (bl_trans (show Below w.heap.size w _ from And.left (by assumption)) hb))) | (go_at_call 20; with_reducible refine (IV.out _).mono ?_; rintro e wn ⟨rfl, hb⟩; have hk := hidden (KS.out _ (bl_trans (show Below w.heap.size w _ from And.left (by assumption)) hb))) | (go_at_call 7; with_reducible refine (IS.out _).mono ?_; rintro e wn ⟨rfl, hb⟩; have hk := hidden (KS.out _ (bl_trans (show Below w.heap.size w _ from And.left (by assumption)) hb))))
        go_wp2_with fail
        go_meet
        exact ⟨rfl, hk.out.1⟩
      case rest =>
      obtain ⟨rfl, hb3⟩ := hcut
      have B3 := hidden hb3
      clear hb3 K0 KS OF IV IS
      go_wp2_with fail
      go_roundw
      case rel => exact ⟨i + 1, by omega, by go_num, B3⟩
      case measure => simp [intOf]; omega
    · have hii : n = i := by omega
      subst hii
      have lq : ¬ (n : Int) < (n : Int) := by omega
      go_wp2_with fail
      refine bodyPost_ret (v := .bool true) (by simp [results, Tryd.results11, go_sem]) rfl ⟨rfl, hbl.out⟩

/-- lists of inverses that were answered: block, length -/
structure Iw (w1 : World) (rs : List (Nat × Nat)) (g : Nat → E4) (w : World) : Prop where
  bel : Below w1.heap.size w1 w
  rows : ∀ x ∈ rs, w1.heap.size ≤ x.1 ∧ Rws w x.1 x.2 (fun k => iv (g k).n)
  pw : rs.Pairwise fun x y => x.1 ≠ y.1
theorem Iw.keep {w1 : World} {rs : List (Nat × Nat)} {g : Nat → E4} {w w' : World} (t : Iw w1 rs g w) (hb : Below w.heap.size w w') : Iw w1 rs g w' :=
  ⟨bl_trans t.bel hb, fun x hx => ⟨(t.rows x hx).1, (t.rows x hx).2.keep hb⟩, t.pw⟩
theorem Iw.new {w1 : World} {rs : List (Nat × Nat)} {g : Nat → E4} {w w' : World} (t : Iw w1 rs g w) (hb : Below w.heap.size w w') (b m : Nat) (h : w.heap.size ≤ b) (r : Rws w' b m (fun k => iv (g k).n)) : Iw w1 ((b, m) :: rs) g w' := by
  have t' := t.keep hb
  have hs := t.bel.size
  refine ⟨t'.bel, fun x hx => ?_, List.pairwise_cons.2 ⟨fun x hx => ?_, t.pw⟩⟩
  · rcases List.mem_cons.1 hx with rfl | hx
    · exact ⟨by simp only; omega, r⟩
    · exact t'.rows x hx
  · have := (t.rows x hx).2.lt
    show b ≠ x.1
    omega
theorem Iw.start (w : World) (g : Nat → E4) : Iw w [] g w := ⟨Below.refl _ _, fun x hx => (by cases hx), List.Pairwise.nil⟩
def nf3 (L h : Nat) : Nat → Nat
  | 1 => h
  | _ => L
def bf3 (b0 b1 b2 : Nat) : Nat → Nat
  | 0 => b0
  | 1 => b1
  | _ => b2
/-- the three lists that the law hands to apart -/
theorem inv_apart {w1 : World} {L h b0 b1 b2 : Nat} {g : Nat → E4} {w : World} (t : Iw w1 [(b2, L), (b1, h), (b0, L)] g w) (hL : L ≤ 4398046510976) (hh : h ≤ L) (ty : TypeId) :
    As3 w1 w.heap.size 3 (nf3 L h) (fun i => some ⟨bf3 b0 b1 b2 i, 0, none⟩) (bf3 b0 b1 b2) ∧
    AsW w1 w.heap.size 3 (nf3 L h) (fun i => some ⟨bf3 b0 b1 b2 i, 0, none⟩) (bf3 b0 b1 b2) (fun _ k => iv (g k).n) (w.alloc (.cells #[.slice (some ⟨b0, 0, none⟩) L L, .slice (some ⟨b1, 0, none⟩) h h, .slice (some ⟨b2, 0, none⟩) L L] ty)) := by
  have i3 : ∀ i, i < 3 → i = 0 ∨ i = 1 ∨ i = 2 := by omega
  have r2 := t.rows (b2, L) (by simp)
  have r1 := t.rows (b1, h) (by simp)
  have r0 := t.rows (b0, L) (by simp)
  simp only at r0 r1 r2
  have pw := t.pw
  simp only [List.pairwise_cons, List.mem_cons, List.not_mem_nil, or_false, forall_eq_or_imp, forall_eq] at pw
  obtain ⟨⟨p21, p20⟩, p10, _⟩ := pw
  refine ⟨⟨by omega, fun i hi => ?_, fun i hi hp => rfl, fun i hi hz => Or.inr ⟨_, rfl⟩, fun i j hi hj h1 h2 hne => ?_, fun i hi hp => ?_, fun i hi hp => ?_⟩, ⟨bl_trans t.bel (bl_alloc _ _), fun i hi => ?_, fun i hi hp => ?_⟩⟩
  · rcases i3 i hi with rfl | rfl | rfl <;> simp only [nf3] <;> omega
  · rcases i3 i hi with rfl | rfl | rfl <;> rcases i3 j hj with rfl | rfl | rfl <;> simp only [bf3] <;> first | exact absurd rfl hne | exact p21 | exact p21.symm | exact p20 | exact p20.symm | exact p10 | exact p10.symm
  · rcases i3 i hi with rfl | rfl | rfl <;> simp only [bf3]
    · have := r0.2.lt; omega
    · have := r1.2.lt; omega
    · have := r2.2.lt; omega
  · rcases i3 i hi with rfl | rfl | rfl <;> simp only [bf3]
    · exact r0.1
    · exact r1.1
    · exact r2.1
  · rcases i3 i hi with rfl | rfl | rfl <;> (rw [World.cell?_alloc_mark]; rfl)
  · rcases i3 i hi with rfl | rfl | rfl
    · exact r0.2.keep (bl_alloc _ _)
    · exact r1.2.keep (bl_alloc _ _)
    · exact r2.2.keep (bl_alloc _ _)
theorem Rws.one (w : World) (r : E4) (t : TypeId) : Rws (w.alloc (.cells #[.int .u64 r.x0, .int .u64 r.x1, .int .u64 r.x2, .int .u64 r.x3] t)) w.heap.size 1 (fun _ => r) := by
  have b := Blc.new w r t
  have f := Wrt.new w r t
  refine ⟨fun k hk => ?_, fun k hk => ?_, fun k hk => ?_, fun k hk => ?_, fun k hk => ?_, b.lt⟩
  · obtain rfl : k = 0 := by omega
    exact b.c0
  · obtain rfl : k = 0 := by omega
    exact b.c1
  · obtain rfl : k = 0 := by omega
    exact b.c2
  · obtain rfl : k = 0 := by omega
    exact b.c3
  · obtain rfl | rfl | rfl | rfl : k = 0 ∨ k = 1 ∨ k = 2 ∨ k = 3 := by omega
    · exact f.f0
    · exact f.f1
    · exact f.f2
    · exact f.f3
theorem iv_one : iv 1 = k1 := by unfold iv; rw [Int.one_pow, lst1]
theorem Rws.farS {w : World} {b n : Nat} {g : Nat → E4} (h : Rws w b n g) {c : Nat} (hne : c ≠ b) (o : Nat) (s : E4) : Rws (setS w c o s) b n g := (((h.far hne o _).far hne (o + 1) _).far hne (o + 2) _).far hne (o + 3) _
theorem rl_cells {w : World} {b o m : Nat} {g : Nat → E4} (h : Rl w b o m g) (n : Nat) (hn : n ≤ m) : ∀ j u, (svs n g)[j]? = some u → w.cell? ⟨b, o + j, none⟩ = some u := by
  induction n with
  | zero => intro j u hu; simp [svs] at hu
  | succ n ih =>
    intro j u hu
    rw [svs_succ] at hu
    by_cases hj : j < n * 4
    · rw [List.getElem?_append_left (by rw [svs_len]; exact hj)] at hu
      exact ih (by omega) j u hu
    · rw [List.getElem?_append_right (by rw [svs_len]; omega), svs_len] at hu
      obtain ⟨d, hd⟩ : ∃ d, j = n * 4 + d := ⟨j - n * 4, by omega⟩
      subst hd
      rw [show n * 4 + d - n * 4 = d by omega] at hu
      match d, hu with
      | 0, hu => simp at hu; rw [← hu]; exact h.c0 n (by omega)
      | 1, hu => simp at hu; rw [← hu]; exact h.c1 n (by omega)
      | 2, hu => simp at hu; rw [← hu]; exact h.c2 n (by omega)
      | 3, hu => simp at hu; rw [← hu]; exact h.c3 n (by omega)
theorem svs_one (g : Nat → E4) (n : Nat) : ∀ u ∈ svs n g, u.oneCell' = true := by
  induction n with
  | zero => intro u hu; simp [svs] at hu
  | succ n ih =>
    intro u hu
    rw [svs_succ] at hu
    rcases List.mem_append.1 hu with h | h
    · exact ih u h
    · simp only [List.mem_cons, List.not_mem_nil, or_false] at h
      rcases h with rfl | rfl | rfl | rfl <;> rfl
theorem linfo : (Tryd.prog.info? 43).map (fun i => (i.zero, i.size, i.bytes)) = some (some (.agg #[.int .u64 0, .int .u64 0, .int .u64 0, .int .u64 0]), 4, 32) := by kernel_rfl
/-- what the list is written over with -/
def gc (g : Nat → E4) (k : Nat) : E4 := ⟨(k : Int) + 3, (g k).x1, 0, 0⟩
def fgc (g : Nat → E4) (L i k : Nat) : E4 := if k < i then gc g k else g77 g L k
def cgc (g : Nat → E4) (i k : Nat) : E4 := if k < i then gc g k else g k
theorem gc_ok {g : Nat → E4} {k : Nat} (h : (g k).ok) (hk : k ≤ 4398046510976) : (gc g k).ok := ⟨by unfold Sm.Wd gc; simp only; omega, h.2.1, by unfold Sm.Wd gc; simp, by unfold Sm.Wd gc; simp⟩
theorem fgc_next (g : Nat → E4) (L i j : Nat) : (if j = i then gc g i else fgc g L i j) = fgc g L (i + 1) j := by
  unfold fgc
  by_cases h : j = i
  · subst h; rw [if_pos rfl, if_pos (by omega)]
  · rw [if_neg h]
    by_cases hl : j < i
    · rw [if_pos hl, if_pos (by omega)]
    · rw [if_neg hl, if_neg (by omega)]
theorem cgc_next (g : Nat → E4) (i j : Nat) : (if j = i then gc g i else cgc g i j) = cgc g (i + 1) j := by
  unfold cgc
  by_cases h : j = i
  · subst h; rw [if_pos rfl, if_pos (by omega)]
  · rw [if_neg h]
    by_cases hl : j < i
    · rw [if_pos hl, if_pos (by omega)]
    · rw [if_neg hl, if_neg (by omega)]
end Go.Proofs.YtcenphihmggfkaaDoor
