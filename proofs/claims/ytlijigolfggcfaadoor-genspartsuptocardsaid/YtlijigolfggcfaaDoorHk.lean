import Derived.Test.YtlijigolfggcfaaDoorHj
namespace Go.Proofs.YtlijigolfggcfaaDoor
open Go.RowKit
set_option linter.unusedVariables false
/-- the first three of all -/
def f3 (b f q : E4) : Nat → E4
  | 0 => b | 1 => f | _ => q
theorem svs_3 (b f q : E4) : svs 3 (f3 b f q) = [.int .u64 b.x0, .int .u64 b.x1, .int .u64 b.x2, .int .u64 b.x3, .int .u64 f.x0, .int .u64 f.x1, .int .u64 f.x2, .int .u64 f.x3, .int .u64 q.x0, .int .u64 q.x1, .int .u64 q.x2, .int .u64 q.x3] := rfl
theorem rl_new (w : World) (n : Nat) (g : Nat → E4) (t : TypeId) : Rl (w.alloc (.cells (svs n g).toArray t)) w.heap.size 0 n g := by
  have hr := range_newM w (svs n g) t
  have hs : ∀ k d, k < n → d < 4 → (svs n g)[k * 4 + d]? = some ([Value.int .u64 (g k).x0, .int .u64 (g k).x1, .int .u64 (g k).x2, .int .u64 (g k).x3].getD d undef) := by
    intro k d hk hd
    clear hr
    induction n with
    | zero => omega
    | succ n ih =>
      rw [svs_succ]
      by_cases hkn : k < n
      · rw [List.getElem?_append_left (by rw [svs_len]; omega)]
        exact ih hkn
      · have : k = n := by omega
        subst this
        rw [List.getElem?_append_right (by rw [svs_len]; omega), svs_len, show k * 4 + d - k * 4 = d by omega]
        obtain rfl | rfl | rfl | rfl : d = 0 ∨ d = 1 ∨ d = 2 ∨ d = 3 := by omega
        all_goals rfl
  exact ⟨fun k hk => hr _ _ (hs k 0 hk (by omega)), fun k hk => by rw [Nat.add_assoc]; exact hr _ _ (hs k 1 hk (by omega)), fun k hk => by rw [Nat.add_assoc]; exact hr _ _ (hs k 2 hk (by omega)), fun k hk => by rw [Nat.add_assoc]; exact hr _ _ (hs k 3 hk (by omega))⟩
set_option maxRecDepth 100000 in
set_option maxHeartbeats 8000000 in
theorem all_any (b f q : E4) (g h cg ch LG LH : Nat) (fG fH : Nat → E4) (w : World) (hG : LG ≤ 1048576) (hH : LH ≤ 1048576) (r1 : Rl w g 0 LG fG) (r2 : Rl w h 0 LH fH) :
    Calls Tryd.prog 9 #[.agg (gs14 b f q (.slice (some ⟨g, 0, none⟩) LG cg) (.slice (some ⟨h, 0, none⟩) LH ch)).toArray] w fun e w' => ∃ v : Value, e = .returned v ∧ w'.ownsRow w.heap.size 29 4 v (3 + LG + LH) (svs 3 (f3 b f q) ++ svs LG fG ++ svs LH fH) ∧ Below w.heap.size w w' := by
  obtain ⟨cs, hcs⟩ : ∃ l, l = gs14 b f q (.slice (some ⟨g, 0, none⟩) LG cg) (.slice (some ⟨h, 0, none⟩) LH ch) := ⟨_, rfl⟩
  have BW := bl_alloc w (.cells cs.toArray 32)
  have M1 := Bx1.new w cs 32
  have SZ : (w.alloc (.cells cs.toArray 32)).heap.size = w.heap.size + 1 := by simp
  rw [← hcs]
  generalize hW : w.alloc (.cells cs.toArray 32) = W at BW M1 SZ
  have e0 : W.cell? ⟨w.heap.size, 0, none⟩ = some (.int .u64 b.x0) := by have := M1.r 0 (.int .u64 b.x0) (by rw [hcs]; rfl); simpa using this
  have e1 : W.cell? ⟨w.heap.size, 1, none⟩ = some (.int .u64 b.x1) := by have := M1.r 1 (.int .u64 b.x1) (by rw [hcs]; rfl); simpa using this
  have e2 : W.cell? ⟨w.heap.size, 2, none⟩ = some (.int .u64 b.x2) := by have := M1.r 2 (.int .u64 b.x2) (by rw [hcs]; rfl); simpa using this
  have e3 : W.cell? ⟨w.heap.size, 3, none⟩ = some (.int .u64 b.x3) := by have := M1.r 3 (.int .u64 b.x3) (by rw [hcs]; rfl); simpa using this
  have e4 : W.cell? ⟨w.heap.size, 4, none⟩ = some (.int .u64 f.x0) := by have := M1.r 4 (.int .u64 f.x0) (by rw [hcs]; rfl); simpa using this
  have e5 : W.cell? ⟨w.heap.size, 5, none⟩ = some (.int .u64 f.x1) := by have := M1.r 5 (.int .u64 f.x1) (by rw [hcs]; rfl); simpa using this
  have e6 : W.cell? ⟨w.heap.size, 6, none⟩ = some (.int .u64 f.x2) := by have := M1.r 6 (.int .u64 f.x2) (by rw [hcs]; rfl); simpa using this
  have e7 : W.cell? ⟨w.heap.size, 7, none⟩ = some (.int .u64 f.x3) := by have := M1.r 7 (.int .u64 f.x3) (by rw [hcs]; rfl); simpa using this
  have e8 : W.cell? ⟨w.heap.size, 8, none⟩ = some (.int .u64 q.x0) := by have := M1.r 8 (.int .u64 q.x0) (by rw [hcs]; rfl); simpa using this
  have e9 : W.cell? ⟨w.heap.size, 9, none⟩ = some (.int .u64 q.x1) := by have := M1.r 9 (.int .u64 q.x1) (by rw [hcs]; rfl); simpa using this
  have e10 : W.cell? ⟨w.heap.size, 10, none⟩ = some (.int .u64 q.x2) := by have := M1.r 10 (.int .u64 q.x2) (by rw [hcs]; rfl); simpa using this
  have e11 : W.cell? ⟨w.heap.size, 11, none⟩ = some (.int .u64 q.x3) := by have := M1.r 11 (.int .u64 q.x3) (by rw [hcs]; rfl); simpa using this
  have E12 : W.cell? ⟨w.heap.size, 12, none⟩ = some (.slice (some ⟨g, 0, none⟩) LG cg) := by have := M1.r 12 (.slice (some ⟨g, 0, none⟩) LG cg) (by rw [hcs]; rfl); simpa using this
  have E13 : W.cell? ⟨w.heap.size, 13, none⟩ = some (.slice (some ⟨h, 0, none⟩) LH ch) := by have := M1.r 13 (.slice (some ⟨h, 0, none⟩) LH ch) (by rw [hcs]; rfl); simpa using this
  have e12 : (W.alloc (.cells #[.int .u64 b.x0, .int .u64 b.x1, .int .u64 b.x2, .int .u64 b.x3, .int .u64 f.x0, .int .u64 f.x1, .int .u64 f.x2, .int .u64 f.x3, .int .u64 q.x0, .int .u64 q.x1, .int .u64 q.x2, .int .u64 q.x3] 29)).cell? ⟨w.heap.size, 12, none⟩ = some (.slice (some ⟨g, 0, none⟩) LG cg) := cell_keep E12 (bl_alloc _ _)
  have e13 : (W.alloc (.cells #[.int .u64 b.x0, .int .u64 b.x1, .int .u64 b.x2, .int .u64 b.x3, .int .u64 f.x0, .int .u64 f.x1, .int .u64 f.x2, .int .u64 f.x3, .int .u64 q.x0, .int .u64 q.x1, .int .u64 q.x2, .int .u64 q.x3] 29)).cell? ⟨w.heap.size, 13, none⟩ = some (.slice (some ⟨h, 0, none⟩) LH ch) := cell_keep E13 (bl_alloc _ _)
  have R0 : Rl (W.alloc (.cells #[.int .u64 b.x0, .int .u64 b.x1, .int .u64 b.x2, .int .u64 b.x3, .int .u64 f.x0, .int .u64 f.x1, .int .u64 f.x2, .int .u64 f.x3, .int .u64 q.x0, .int .u64 q.x1, .int .u64 q.x2, .int .u64 q.x3] 29)) (w.heap.size + 1) 0 3 (f3 b f q) := by have := rl_new W 3 (f3 b f q) 29; rw [SZ] at this; exact this
  have B2 := bl_alloc (W.alloc (.cells #[.int .u64 b.x0, .int .u64 b.x1, .int .u64 b.x2, .int .u64 b.x3, .int .u64 f.x0, .int .u64 f.x1, .int .u64 f.x2, .int .u64 f.x3, .int .u64 q.x0, .int .u64 q.x1, .int .u64 q.x2, .int .u64 q.x3] 29)) (.cells #[Value.slice (some ⟨w.heap.size + 1, 0, none⟩) 3 3, Value.slice (some ⟨g, 0, none⟩) LG cg, Value.slice (some ⟨h, 0, none⟩) LH ch] 30)
  have B1 := bl_trans (bl_trans BW (bl_alloc W (.cells #[.int .u64 b.x0, .int .u64 b.x1, .int .u64 b.x2, .int .u64 b.x3, .int .u64 f.x0, .int .u64 f.x1, .int .u64 f.x2, .int .u64 f.x3, .int .u64 q.x0, .int .u64 q.x1, .int .u64 q.x2, .int .u64 q.x3] 29))) B2
  have X := range_newM (W.alloc (.cells #[.int .u64 b.x0, .int .u64 b.x1, .int .u64 b.x2, .int .u64 b.x3, .int .u64 f.x0, .int .u64 f.x1, .int .u64 f.x2, .int .u64 f.x3, .int .u64 q.x0, .int .u64 q.x1, .int .u64 q.x2, .int .u64 q.x3] 29)) #[Value.slice (some ⟨w.heap.size + 1, 0, none⟩) 3 3, Value.slice (some ⟨g, 0, none⟩) LG cg, Value.slice (some ⟨h, 0, none⟩) LH ch].toList 30
  have SX : (W.alloc (.cells #[.int .u64 b.x0, .int .u64 b.x1, .int .u64 b.x2, .int .u64 b.x3, .int .u64 f.x0, .int .u64 f.x1, .int .u64 f.x2, .int .u64 f.x3, .int .u64 q.x0, .int .u64 q.x1, .int .u64 q.x2, .int .u64 q.x3] 29)).heap.size = w.heap.size + 1 + 1 := by simp [SZ]
  rw [SX] at X
  have C := hidden (lconcat_any (w.heap.size + 1 + 1) 3 (w.heap.size + 1) g h 3 cg ch LG LH (f3 b f q) fG fH _ hG hH (X 0 _ rfl) (X 1 _ rfl) (X 2 _ rfl) (R0.keep B2) (r1.keep B1) (r2.keep B1))
  have BH := hidden B1
  clear hcs hG hH r1 r2 M1 BW R0 B2 B1 X E12 E13
  go_enter Tryd.func9, Tryd.ntmps9
  go_wp2_with (first | (go_at_call 16; refine (C.out).mono ?_; rintro e wb ⟨v, rfl, ho, hb⟩; have HO := hidden (own_less ho BH.out.size); have HB := hidden (bl_trans BH.out hb); clear ho hb))
  refine bodyPost_ret (v := v) (by simp [results, Tryd.results9, go_sem]) rfl ⟨v, rfl, HO.out, HB.out⟩
end Go.Proofs.YtlijigolfggcfaaDoor
