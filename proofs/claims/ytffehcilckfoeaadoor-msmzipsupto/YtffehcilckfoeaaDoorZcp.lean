import Derived.Test.YtffehcilckfoeaaDoorZrw
namespace Go.Proofs.YtffehcilckfoeaaDoor
open Go.RowKit
theorem rl_own {w : World} {base n : Nat} {e : TypeId} {v : Value} {g : Nat → E4} (h : w.ownsRow base e 4 v n (svs n g)) : (v = .slice none 0 0 ∧ n = 0) ∨ ∃ gg cap : Nat, v = .slice (some ⟨gg, 0, none⟩) n cap ∧ n ≤ cap ∧ base ≤ gg ∧ Rl w gg 0 n g := by
  rcases h.2 with ⟨h1, h0⟩ | ⟨gg, cap2, cur, rfl, hg, _, hnc, _, _, _⟩
  · exact Or.inl ⟨h1, h0⟩
  · exact Or.inr ⟨gg, cap2, rfl, hnc, hg, own_rl h⟩
set_option maxRecDepth 100000 in
set_option maxHeartbeats 8000000 in
theorem copied_any (P : Option Addr) (L cap : Nat) (g : Nat → E4) (w : World) (hL : L ≤ 1048576) (hNN : P = none → L = 0 ∧ cap = 0) (hS : Lm w P L g) :
    Calls Tryd.prog 6 #[.slice P L cap] w fun e w' => ∃ b c : Nat, e = .returned (.slice (some ⟨b, 0, none⟩) L c) ∧ L + 1 ≤ c ∧ w.heap.size ≤ b ∧ Rl w' b 0 (L + 1) (g7 g L) ∧ Below w.heap.size w w' := by
  have HS := hidden hS
  have HL := hidden hL
  have HNN := hidden hNN
  have nn0 : (0 : Int) ≤ (L : Int) := by omega
  obtain ⟨i0, hi, hz0, hz1, hz2⟩ := info_parts sinfoZ
  have HI := hidden hi
  have HZ0 := hidden hz0
  have HZ1 := hidden hz1
  have HZ2 := hidden hz2
  have HU : Hid (Tryd.prog.underlying 22 = some (.slice 27)) := hidden (by kernel_rfl)
  clear hS hL hi hz0 hz1 hz2 hNN
  cases P with
  | none =>
    obtain ⟨rfl, rfl⟩ := HNN.out rfl
    have O0 := hidden (World.ownsRow_nil (base := w.heap.size) (e := 27) (size := 4) w)
    have HO : Hid (w.ownsRow w.heap.size 27 4 (.slice none 0 0) 0 (svs 0 g)) := O0
    have HB := hidden (Below.refl w.heap.size w)
    go_enter Tryd.func6, Tryd.ntmps6
    go_wp2_with (first | (at_builtin; refine wpList_append_own_none rfl _ _ 22 rfl w.heap.size 27 i0 4 HU.out HI.out _ 0 [] rfl O0.out rfl ?_) | (at_builtin; refine wpList_append_own_at _ rfl _ _ 22 rfl w.heap.size 27 i0 (.agg #[.int .u64 0, .int .u64 0, .int .u64 0, .int .u64 0]) 4 32 HU.out HI.out HZ0.out HZ1.out HZ2.out rfl (by decide) _ 0 (svs 0 g) rfl (HO.out.alloc (.cells #[.int .u64 77, .int .u64 0, .int .u64 0, .int .u64 0] 27)) ⟨w.heap.size, 0, none⟩ 1 1 [.int .u64 77, .int .u64 0, .int .u64 0, .int .u64 0] rfl rfl (cells_new w [.int .u64 77, .int .u64 0, .int .u64 0, .int .u64 0] 27) (by simp [Value.oneCell']) (by have := HL.out; unfold maxLen; omega) (by have := HL.out; omega) (by simp) ?_; intro v4 w4 how4 hgr4 hnil4 hat4; have HO4 := hidden how4; have HB4 := hidden (below_trans (bl_trans HB.out (bl_alloc w (.cells #[.int .u64 77, .int .u64 0, .int .u64 0, .int .u64 0] 27))) (below_grown hgr4 (by simp) (fun k hk => ((HO.out.alloc (.cells #[.int .u64 77, .int .u64 0, .int .u64 0, .int .u64 0] 27)).lt k hk).1))); clear how4 hgr4 hnil4 hat4; have HO5 : Hid (w4.ownsRow w.heap.size 27 4 v4 (0 + 1) (svs (0 + 1) (g7 g 0))) := hidden (by rw [← svs_7]; exact HO4.out); obtain ⟨gg, cap2, rfl, hnc, hg, hr⟩ : ∃ gg cap : Nat, v4 = .slice (some ⟨gg, 0, none⟩) (0 + 1) cap ∧ 0 + 1 ≤ cap ∧ w.heap.size ≤ gg ∧ Rl w4 gg 0 (0 + 1) (g7 g 0) := (rl_own HO5.out).resolve_left (fun h => absurd h.2 (by omega)); have s1 : (0 : Int) ≤ (cap2 : Int) := (by omega); have s2 : ¬ cap2 = 0 := (by omega)))
    refine bodyPost_ret (v := .slice (some ⟨gg, 0, none⟩) 0 cap2) (by simp [results, Tryd.results6, go_sem]) rfl ⟨gg, cap2, rfl, hnc, hg, hr, HB4.out⟩
  | some ad =>
    have HC : Hid (∀ j u, (svs L g)[j]? = some u → w.cell? (ad.add j) = some u) := hidden (fun j u hu => by
      have hj : j < L * 4 := by
        have := (List.getElem?_eq_some_iff.1 hu).1
        rwa [svs_len] at this
      obtain ⟨sb, so, h1, h2⟩ := HS.out
      obtain rfl := Option.some.inj (h1 (by omega))
      rw [Addr.add_lit]
      exact rl_cells (h2 (by omega)) L (Nat.le_refl _) j u hu)
    have O0 := hidden (World.ownsRow_nil (base := w.heap.size) (e := 27) (size := 4) w)
    go_enter Tryd.func6, Tryd.ntmps6
    go_wp2_with (first | (at_builtin; refine wpList_append_own_at _ rfl _ _ 22 rfl w.heap.size 27 i0 (.agg #[.int .u64 0, .int .u64 0, .int .u64 0, .int .u64 0]) 4 32 HU.out HI.out HZ0.out HZ1.out HZ2.out rfl (by decide) _ 0 [] rfl O0.out ad L cap (svs L g) rfl (svs_len _ _) HC.out (svs_one g L) (by have := HL.out; unfold maxLen; omega) (by have := HL.out; omega) (Nat.le_refl _) ?_; intro v1 w3 how hgr hnil hat; have HO := hidden how; have HB := hidden (below_grown hgr (Nat.le_refl _) (fun k hk => (O0.out.lt k hk).1)); clear how hgr hnil hat; rw [Nat.zero_add, List.nil_append] at HO) | (at_builtin; refine wpList_append_own_at _ rfl _ _ 22 rfl w.heap.size 27 i0 (.agg #[.int .u64 0, .int .u64 0, .int .u64 0, .int .u64 0]) 4 32 HU.out HI.out HZ0.out HZ1.out HZ2.out rfl (by decide) _ L (svs L g) rfl (HO.out.alloc (.cells #[.int .u64 77, .int .u64 0, .int .u64 0, .int .u64 0] 27)) ⟨w3.heap.size, 0, none⟩ 1 1 [.int .u64 77, .int .u64 0, .int .u64 0, .int .u64 0] rfl rfl (cells_new w3 [.int .u64 77, .int .u64 0, .int .u64 0, .int .u64 0] 27) (by simp [Value.oneCell']) (by have := HL.out; unfold maxLen; omega) (by have := HL.out; omega) (by have := HB.out.size; simp; omega) ?_; intro v4 w4 how4 hgr4 hnil4 hat4; have HO4 := hidden how4; have HB4 := hidden (below_trans (bl_trans HB.out (bl_alloc w3 (.cells #[.int .u64 77, .int .u64 0, .int .u64 0, .int .u64 0] 27))) (below_grown hgr4 (by have := HB.out.size; simp; omega) (fun k hk => ((HO.out.alloc (.cells #[.int .u64 77, .int .u64 0, .int .u64 0, .int .u64 0] 27)).lt k hk).1))); clear how4 hgr4 hnil4 hat4; have HO5 : Hid (w4.ownsRow w.heap.size 27 4 v4 (L + 1) (svs (L + 1) (g7 g L))) := hidden (by rw [← svs_7]; exact HO4.out); obtain ⟨gg, cap2, rfl, hnc, hg, hr⟩ : ∃ gg cap : Nat, v4 = .slice (some ⟨gg, 0, none⟩) (L + 1) cap ∧ L + 1 ≤ cap ∧ w.heap.size ≤ gg ∧ Rl w4 gg 0 (L + 1) (g7 g L) := (rl_own HO5.out).resolve_left (fun h => absurd h.2 (by omega)); have s1 : (L : Int) ≤ (cap2 : Int) := (by omega); have s2 : ¬ cap2 = 0 := (by omega)))
    refine bodyPost_ret (v := .slice (some ⟨gg, 0, none⟩) L cap2) (by simp [results, Tryd.results6, go_sem]) rfl ⟨gg, cap2, rfl, hnc, hg, hr, HB4.out⟩
end Go.Proofs.YtffehcilckfoeaaDoor
