import Derived.Test.YtpldkolphmbahaaDoorKc
namespace Go.Proofs.YtpldkolphmbahaaDoor
open Go.RowKit
set_option linter.unusedVariables false
theorem rl_of {w : World} {b n : Nat} {g : Nat → E4} (hr : w.rangeAt b 0 (svs n g)) : Rl w b 0 n g := by
  have hs : ∀ k d, k < n → d < 4 → (svs n g)[k * 4 + d]? = some ([Value.int .u64 (g k).x0, .int .u64 (g k).x1, .int .u64 (g k).x2, .int .u64 (g k).x3].getD d undef) := by
    intro k d hk hd
    clear hr
    induction n with
    | zero => omega
    | succ n ih =>
      rw [svs_succ]
      by_cases hkn : k < n
      · rw [List.getElem?_append_left (by rw [svs_len]; omega)]
        exact ih hkn
      · have : k = n := by omega
        subst this
        rw [List.getElem?_append_right (by rw [svs_len]; omega), svs_len, show k * 4 + d - k * 4 = d by omega]
        obtain rfl | rfl | rfl | rfl : d = 0 ∨ d = 1 ∨ d = 2 ∨ d = 3 := by omega
        all_goals rfl
  exact ⟨fun k hk => hr _ _ (hs k 0 hk (by omega)), fun k hk => by rw [Nat.add_assoc]; exact hr _ _ (hs k 1 hk (by omega)), fun k hk => by rw [Nat.add_assoc]; exact hr _ _ (hs k 2 hk (by omega)), fun k hk => by rw [Nat.add_assoc]; exact hr _ _ (hs k 3 hk (by omega))⟩
/-- one, two or three elements -/
def e1 (a : E4) : Nat → E4 := fun _ => a
def e2 (a b : E4) : Nat → E4
  | 0 => a | _ => b
def e3 (a b c : E4) : Nat → E4
  | 0 => a | 1 => b | _ => c
/-- two rows -/
def r2 (f g : Nat → E4) : Nat → Nat → E4
  | 0 => f | _ => g
theorem svs_e1 (a : E4) : svs 1 (e1 a) = [.int .u64 a.x0, .int .u64 a.x1, .int .u64 a.x2, .int .u64 a.x3] := rfl
theorem svs_e2 (a b : E4) : svs 2 (e2 a b) = [.int .u64 a.x0, .int .u64 a.x1, .int .u64 a.x2, .int .u64 a.x3, .int .u64 b.x0, .int .u64 b.x1, .int .u64 b.x2, .int .u64 b.x3] := rfl
theorem svs_e3 (a b c : E4) : svs 3 (e3 a b c) = [.int .u64 a.x0, .int .u64 a.x1, .int .u64 a.x2, .int .u64 a.x3, .int .u64 b.x0, .int .u64 b.x1, .int .u64 b.x2, .int .u64 b.x3, .int .u64 c.x0, .int .u64 c.x1, .int .u64 c.x2, .int .u64 c.x3] := rfl
set_option maxRecDepth 100000 in
set_option maxHeartbeats 8000000 in
theorem key_any (p q : E4) (w : World) :
    Calls Tryd.prog 7 #[p.v, q.v] w fun e w' => ∃ v, e = .returned v ∧ PC w' v 1 1 (fun _ => e1 p) (e1 q) ∧ Below w.heap.size w w' := by
  unfold E4.v
  have M := ((((((Mw.start w).new [.int .u64 p.x0, .int .u64 p.x1, .int .u64 p.x2, .int .u64 p.x3] 26).new [.int .u64 q.x0, .int .u64 q.x1, .int .u64 q.x2, .int .u64 q.x3] 26).new [.slice (some ⟨w.heap.size + 1 + 1 + 1 + 1, 0, none⟩) 1 1, .slice (some ⟨w.heap.size + 1 + 1 + 1 + 1 + 1, 0, none⟩) 1 1] 48).new [.int .u64 p.x0, .int .u64 p.x1, .int .u64 p.x2, .int .u64 p.x3] 26).new [.slice (some ⟨w.heap.size + 1 + 1 + 1, 0, none⟩) 1 1] 27).new [.int .u64 q.x0, .int .u64 q.x1, .int .u64 q.x2, .int .u64 q.x3] 26
  simp only [World.size_alloc] at M
  have HM := hidden M
  clear M
  go_enter Tryd.func7, Tryd.ntmps7
  go_wp2_with fail
  have M := HM.out
  refine bodyPost_ret (v := .agg #[.slice (some ⟨w.heap.size + 1 + 1 + 1 + 1, 0, none⟩) 1 1, .slice (some ⟨w.heap.size + 1 + 1 + 1 + 1 + 1, 0, none⟩) 1 1]) (by simp [results, Tryd.results7, go_sem]) rfl ⟨_, rfl, ⟨w.heap.size + 1 + 1 + 1 + 1, w.heap.size + 1 + 1 + 1 + 1 + 1, fun _ => w.heap.size + 1 + 1 + 1, rfl, fun k hk => (by
      obtain rfl : k = 0 := (by omega)
      exact (M.r (w.heap.size + 1 + 1 + 1 + 1, [.slice (some ⟨w.heap.size + 1 + 1 + 1, 0, none⟩) 1 1]) (by simp)).1 0 _ rfl), fun k hk => rl_of (b := w.heap.size + 1 + 1 + 1) (n := 1) (g := e1 p) (M.r (w.heap.size + 1 + 1 + 1, svs 1 (e1 p)) (by simp [svs_e1])).1, rl_of (b := w.heap.size + 1 + 1 + 1 + 1 + 1) (n := 1) (g := e1 q) (M.r (w.heap.size + 1 + 1 + 1 + 1 + 1, svs 1 (e1 q)) (by simp [svs_e1])).1⟩, M.bel⟩
set_option maxRecDepth 100000 in
set_option maxHeartbeats 8000000 in
theorem opening_any (b f p : E4) (w : World) :
    Calls Tryd.prog 9 #[.agg #[.int .u64 b.x0, .int .u64 b.x1, .int .u64 b.x2, .int .u64 b.x3, .int .u64 f.x0, .int .u64 f.x1, .int .u64 f.x2, .int .u64 f.x3, .int .u64 0, .int .u64 0, .int .u64 0, .int .u64 0, .slice none 0 0, .slice none 0 0], p.v] w fun e w' => ∃ v, e = .returned v ∧ PC w' v 1 2 (fun _ => e2 b f) (e1 p) ∧ Below w.heap.size w w' := by
  unfold E4.v
  have M := ((((((Mw.start w).new [.int .u64 b.x0, .int .u64 b.x1, .int .u64 b.x2, .int .u64 b.x3, .int .u64 f.x0, .int .u64 f.x1, .int .u64 f.x2, .int .u64 f.x3, .int .u64 0, .int .u64 0, .int .u64 0, .int .u64 0, .slice none 0 0, .slice none 0 0] 29).new [.int .u64 p.x0, .int .u64 p.x1, .int .u64 p.x2, .int .u64 p.x3] 26).new [.slice (some ⟨w.heap.size + 1 + 1 + 1 + 1, 0, none⟩) 1 1, .slice (some ⟨w.heap.size + 1 + 1 + 1 + 1 + 1, 0, none⟩) 1 1] 48).new [.int .u64 b.x0, .int .u64 b.x1, .int .u64 b.x2, .int .u64 b.x3, .int .u64 f.x0, .int .u64 f.x1, .int .u64 f.x2, .int .u64 f.x3] 26).new [.slice (some ⟨w.heap.size + 1 + 1 + 1, 0, none⟩) 2 2] 27).new [.int .u64 p.x0, .int .u64 p.x1, .int .u64 p.x2, .int .u64 p.x3] 26
  simp only [World.size_alloc] at M
  have HM := hidden M
  clear M
  go_enter Tryd.func9, Tryd.ntmps9
  go_wp2_with fail
  have M := HM.out
  refine bodyPost_ret (v := .agg #[.slice (some ⟨w.heap.size + 1 + 1 + 1 + 1, 0, none⟩) 1 1, .slice (some ⟨w.heap.size + 1 + 1 + 1 + 1 + 1, 0, none⟩) 1 1]) (by simp [results, Tryd.results9, go_sem]) rfl ⟨_, rfl, ⟨w.heap.size + 1 + 1 + 1 + 1, w.heap.size + 1 + 1 + 1 + 1 + 1, fun _ => w.heap.size + 1 + 1 + 1, rfl, fun k hk => (by
      obtain rfl : k = 0 := (by omega)
      exact (M.r (w.heap.size + 1 + 1 + 1 + 1, [.slice (some ⟨w.heap.size + 1 + 1 + 1, 0, none⟩) 2 2]) (by simp)).1 0 _ rfl), fun k hk => rl_of (b := w.heap.size + 1 + 1 + 1) (n := 2) (g := e2 b f) (M.r (w.heap.size + 1 + 1 + 1, svs 2 (e2 b f)) (by simp [svs_e2])).1, rl_of (b := w.heap.size + 1 + 1 + 1 + 1 + 1) (n := 1) (g := e1 p) (M.r (w.heap.size + 1 + 1 + 1 + 1 + 1, svs 1 (e1 p)) (by simp [svs_e1])).1⟩, M.bel⟩
set_option maxRecDepth 100000 in
set_option maxHeartbeats 8000000 in
theorem equal_any (b f p q : E4) (w : World) :
    Calls Tryd.prog 11 #[.agg #[.int .u64 b.x0, .int .u64 b.x1, .int .u64 b.x2, .int .u64 b.x3, .int .u64 f.x0, .int .u64 f.x1, .int .u64 f.x2, .int .u64 f.x3, .int .u64 0, .int .u64 0, .int .u64 0, .int .u64 0, .slice none 0 0, .slice none 0 0], p.v, q.v] w fun e w' => ∃ v, e = .returned v ∧ PC w' v 2 3 (r2 (e3 b f ⟨0, 0, 0, 0⟩) (e3 b ⟨0, 0, 0, 0⟩ f)) (e2 p q) ∧ Below w.heap.size w w' := by
  unfold E4.v
  have M := (((((((((Mw.start w).new [.int .u64 b.x0, .int .u64 b.x1, .int .u64 b.x2, .int .u64 b.x3, .int .u64 f.x0, .int .u64 f.x1, .int .u64 f.x2, .int .u64 f.x3, .int .u64 0, .int .u64 0, .int .u64 0, .int .u64 0, .slice none 0 0, .slice none 0 0] 29).new [.int .u64 p.x0, .int .u64 p.x1, .int .u64 p.x2, .int .u64 p.x3] 26).new [.int .u64 q.x0, .int .u64 q.x1, .int .u64 q.x2, .int .u64 q.x3] 26).new [.slice (some ⟨w.heap.size + 1 + 1 + 1 + 1 + 1 + 1 + 1, 0, none⟩) 2 2, .slice (some ⟨w.heap.size + 1 + 1 + 1 + 1 + 1 + 1 + 1 + 1, 0, none⟩) 2 2] 48).new [.int .u64 0, .int .u64 0, .int .u64 0, .int .u64 0] 26).new [.int .u64 b.x0, .int .u64 b.x1, .int .u64 b.x2, .int .u64 b.x3, .int .u64 f.x0, .int .u64 f.x1, .int .u64 f.x2, .int .u64 f.x3, .int .u64 0, .int .u64 0, .int .u64 0, .int .u64 0] 26).new [.int .u64 b.x0, .int .u64 b.x1, .int .u64 b.x2, .int .u64 b.x3, .int .u64 0, .int .u64 0, .int .u64 0, .int .u64 0, .int .u64 f.x0, .int .u64 f.x1, .int .u64 f.x2, .int .u64 f.x3] 26).new [.slice (some ⟨w.heap.size + 1 + 1 + 1 + 1 + 1, 0, none⟩) 3 3, .slice (some ⟨w.heap.size + 1 + 1 + 1 + 1 + 1 + 1, 0, none⟩) 3 3] 27).new [.int .u64 p.x0, .int .u64 p.x1, .int .u64 p.x2, .int .u64 p.x3, .int .u64 q.x0, .int .u64 q.x1, .int .u64 q.x2, .int .u64 q.x3] 26
  simp only [World.size_alloc] at M
  have HM := hidden M
  clear M
  go_enter Tryd.func11, Tryd.ntmps11
  go_wp2_with fail
  have M := HM.out
  refine bodyPost_ret (v := .agg #[.slice (some ⟨w.heap.size + 1 + 1 + 1 + 1 + 1 + 1 + 1, 0, none⟩) 2 2, .slice (some ⟨w.heap.size + 1 + 1 + 1 + 1 + 1 + 1 + 1 + 1, 0, none⟩) 2 2]) (by simp [results, Tryd.results11, go_sem]) rfl ⟨_, rfl, ⟨w.heap.size + 1 + 1 + 1 + 1 + 1 + 1 + 1, w.heap.size + 1 + 1 + 1 + 1 + 1 + 1 + 1 + 1, fun k => if k = 0 then w.heap.size + 1 + 1 + 1 + 1 + 1 else w.heap.size + 1 + 1 + 1 + 1 + 1 + 1, rfl, fun k hk => (by
      have h7 := (M.r (w.heap.size + 1 + 1 + 1 + 1 + 1 + 1 + 1, [.slice (some ⟨w.heap.size + 1 + 1 + 1 + 1 + 1, 0, none⟩) 3 3, .slice (some ⟨w.heap.size + 1 + 1 + 1 + 1 + 1 + 1, 0, none⟩) 3 3]) (by simp)).1
      obtain rfl | rfl : k = 0 ∨ k = 1 := (by omega)
      · exact h7 0 _ rfl
      · exact h7 1 _ rfl), fun k hk => (by
      obtain rfl | rfl : k = 0 ∨ k = 1 := (by omega)
      · exact rl_of (b := w.heap.size + 1 + 1 + 1 + 1 + 1) (n := 3) (g := e3 b f ⟨0, 0, 0, 0⟩) (M.r (w.heap.size + 1 + 1 + 1 + 1 + 1, svs 3 (e3 b f ⟨0, 0, 0, 0⟩)) (by simp [svs_e3])).1
      · exact rl_of (b := w.heap.size + 1 + 1 + 1 + 1 + 1 + 1) (n := 3) (g := e3 b ⟨0, 0, 0, 0⟩ f) (M.r (w.heap.size + 1 + 1 + 1 + 1 + 1 + 1, svs 3 (e3 b ⟨0, 0, 0, 0⟩ f)) (by simp [svs_e3])).1), rl_of (b := w.heap.size + 1 + 1 + 1 + 1 + 1 + 1 + 1 + 1) (n := 2) (g := e2 p q) (M.r (w.heap.size + 1 + 1 + 1 + 1 + 1 + 1 + 1 + 1, svs 2 (e2 p q)) (by simp [svs_e2])).1⟩, M.bel⟩
end Go.Proofs.YtpldkolphmbahaaDoor
