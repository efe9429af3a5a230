import Derived.Test.YthlohkbicnicjaaGreatDoorGb
namespace Go.Proofs.YthlohkbicnicjaaGreatDoor
open Go.RowKit
/-- an element with 1 in a place: it lies in a block from B on -/
def Uv (B : Nat) (w : World) (v : Value) (p : Nat) : Prop := ∃ b : Nat, v = .agg #[.slice (some ⟨b, 0, none⟩) (p + 1) (p + 1)] ∧ B ≤ b ∧ Rl w b 0 (p + 1) (uf p)
theorem Uv.keep {B : Nat} {w w' : World} {v : Value} {p : Nat} (h : Uv B w v p) (hb : Below w.heap.size w w') : Uv B w' v p := by
  obtain ⟨b, h1, h2, h3⟩ := h
  exact ⟨b, h1, h2, h3.keep hb⟩
theorem Uv.less {B C : Nat} {w : World} {v : Value} {p : Nat} (h : Uv B w v p) (hb : C ≤ B) : Uv C w v p := by
  obtain ⟨b, h1, h2, h3⟩ := h
  exact ⟨b, h1, by omega, h3⟩
set_option maxRecDepth 100000 in
set_option maxHeartbeats 4000000 in
theorem gclo (k i n : Int) (p X : Nat) (w : World) (hp : p ≤ 200) (hX : w.cell? ⟨X, 0, none⟩ = some (.int .i64 n)) (hpl : ∀ w, Calls Tryz.prog 15 #[.agg #[.int .i64 k, .int .i64 i], .int .i64 n] w fun e w' => e = .returned (.int .i64 (p : Int)) ∧ Below w.heap.size w w') :
    Calls Tryz.prog 13 #[.int .i64 k, .int .i64 i, .pointer (some ⟨X, 0, none⟩)] w fun e w' => ∃ v, e = .returned v ∧ Uv w.heap.size w' v p ∧ Below w.heap.size w w' := by
  have C1 := hidden hpl
  have C2 := hidden (fun w => unit_any p w hp)
  have x0 := cell_keep hX (bl_alloc w (.cells #[.slice none 0 0] 27))
  have K0 : Hid ((w.alloc (.cells #[.slice none 0 0] 27)).cell? ⟨w.heap.size, 0, none⟩ = some (.slice none 0 0)) := hidden (by rw [cell_of_row _ _ _ _ _ (0, 0) (heap_alloc_new w _)]; rfl)
  have KF : Hid ((w.alloc (.cells #[.slice none 0 0] 27)).frozen? ⟨w.heap.size, 0, none⟩ = false) := hidden (by go_simp)
  have B0 := hidden (bl_alloc w (.cells #[.slice none 0 0] 27))
  have S0 := hidden (show w.heap.size < (w.alloc (.cells #[.slice none 0 0] 27)).heap.size by simp)
  clear hpl hX hp
  go_enter Tryz.func13, Tryz.ntmps13
  go_wp2_with (first | (go_at_call 15; refine (C1.out _).mono ?_; rintro e wa ⟨rfl, ha⟩; have HA := hidden ha; clear ha) | (go_at_call 14; refine (C2.out _).mono ?_; rintro e wb ⟨b, rfl, hbb, hr, hb⟩; have HB := bl_trans HA.out hb; have k0 := cell_keep K0.out HB; have kf := ((bcell HB).2 w.heap.size 0 S0.out).trans KF.out; have BB := hidden (bl_trans B0.out HB); have RR := hidden hr; have BG := hidden (show w.heap.size < b from Nat.lt_of_lt_of_le S0.out (Nat.le_trans HA.out.size hbb)); clear hb hr HB hbb))
  refine bodyPost_ret (v := .agg #[.slice (some ⟨b, 0, none⟩) (p + 1) (p + 1)]) (by simp [results, Tryz.results13, go_sem, k0]) rfl ⟨_, rfl, ⟨b, rfl, Nat.le_of_lt BG.out, RR.out.far _ (by have := BG.out; simp; omega)⟩, BB.out.setCell (Nat.le_refl _) _⟩
theorem gclo123 (k : Nat) (n : Int) (X : Nat) (w : World) (hk : 1 ≤ k ∧ k ≤ 3) (hX : w.cell? ⟨X, 0, none⟩ = some (.int .i64 n)) :
    Calls Tryz.prog 13 #[.int .i64 (k : Int), .int .i64 0, .pointer (some ⟨X, 0, none⟩)] w fun e w' => ∃ v, e = .returned v ∧ Uv w.heap.size w' v (k - 1) ∧ Below w.heap.size w w' :=
  gclo k 0 n (k - 1) X w (by omega) hX (fun w => by have := place123 k 0 n w (by omega); rwa [show (k : Int) - 1 = ((k - 1 : Nat) : Int) by omega] at this)
theorem gclo4 (i n X : Nat) (w : World) (hi : i < n) (hn : n ≤ 64) (hX : w.cell? ⟨X, 0, none⟩ = some (.int .i64 (n : Int))) :
    Calls Tryz.prog 13 #[.int .i64 4, .int .i64 (i : Int), .pointer (some ⟨X, 0, none⟩)] w fun e w' => ∃ v, e = .returned v ∧ Uv w.heap.size w' v (3 + i) ∧ Below w.heap.size w w' :=
  gclo 4 i n (3 + i) X w (by omega) hX (fun w => by have := place4 i n w (by omega); rwa [show (3 : Int) + (i : Int) = ((3 + i : Nat) : Int) by omega] at this)
theorem gclo5 (i n X : Nat) (w : World) (hi : i < n) (hn : n ≤ 64) (hX : w.cell? ⟨X, 0, none⟩ = some (.int .i64 (n : Int))) :
    Calls Tryz.prog 13 #[.int .i64 5, .int .i64 (i : Int), .pointer (some ⟨X, 0, none⟩)] w fun e w' => ∃ v, e = .returned v ∧ Uv w.heap.size w' v (3 + n + i) ∧ Below w.heap.size w w' :=
  gclo 5 i n (3 + n + i) X w (by omega) hX (fun w => by have := place5 i n w (by omega) (by omega); rwa [show (3 : Int) + (n : Int) + (i : Int) = ((3 + n + i : Nat) : Int) by omega] at this)
/-- cells in a block, that may be written -/
structure Gs (w : World) (b n : Nat) (f : Nat → Value) : Prop where
  lt : b < w.heap.size
  c : ∀ k, k < n → w.cell? ⟨b, k, none⟩ = some (f k)
  fr : ∀ k, k < n → w.frozen? ⟨b, k, none⟩ = false
theorem Gs.keep {w w' : World} {b n : Nat} {f : Nat → Value} (h : Gs w b n f) (hb : Below w.heap.size w w') : Gs w' b n f :=
  ⟨Nat.lt_of_lt_of_le h.lt hb.size, fun k hk => cell_keep (h.c k hk) hb, fun k hk => ((bcell hb).2 _ _ h.lt).trans (h.fr k hk)⟩
theorem Gs.far {w : World} {b n : Nat} {f : Nat → Value} (h : Gs w b n f) {a : Addr} (v : Value) (hn : a.block ≠ b) : Gs (w.setCell a v) b n f :=
  ⟨by simpa using h.lt, fun k hk => (World.cell?_setCell_far _ _ _ _ hn).trans (h.c k hk), fun k hk => by rw [World.frozen?_setCell]; exact h.fr k hk⟩
theorem Gs.set {w : World} {b n : Nat} {f : Nat → Value} (h : Gs w b n f) (k : Nat) (hk : k < n) (v : Value) : Gs (w.setCell ⟨b, k, none⟩ v) b n (fun j => if j = k then v else f j) :=
  ⟨by simpa using h.lt, fun j hj => by
    by_cases e : j = k
    · subst e
      rw [if_pos rfl]
      have := h.c j hj
      go_simp
    · rw [if_neg e, setC_neG _ _ _ _ _ e]
      exact h.c j hj, fun k hk => by rw [World.frozen?_setCell]; exact h.fr k hk⟩
theorem Gs.made (w : World) (n : Nat) (t : TypeId) : Gs (w.alloc (.cells (madeCells #[.slice none 0 0] n) t)) w.heap.size n (fun _ => .slice none 0 0) :=
  ⟨by simp, fun k hk => by
    rw [cell_of_row (w.alloc (.cells (madeCells #[.slice none 0 0] n) t)) w.heap.size k _ t (0, 0) (heap_alloc_new w _)]
    simp [madeCells, hk, Nat.mod_one], fun k hk => by go_simp⟩
theorem Gs.five (w : World) (t : TypeId) : Gs (w.alloc (.cells #[.slice none 0 0, .slice none 0 0, .slice none 0 0, .slice none 0 0, .slice none 0 0] t)) w.heap.size 5 (fun _ => .slice none 0 0) :=
  ⟨by simp, fun k hk => by
    rw [cell_of_row _ w.heap.size k _ t (0, 0) (heap_alloc_new w _)]
    match k, hk with
    | 0, _ => rfl | 1, _ => rfl | 2, _ => rfl | 3, _ => rfl | 4, _ => rfl, fun k hk => by go_simp⟩
/-- a made list of n elements, none yet; a made set -/
def Mv (B : Nat) (w : World) (v : Value) (n : Nat) : Prop := ∃ g : Nat, v = .slice (some ⟨g, 0, none⟩) n n ∧ B ≤ g ∧ Gs w g n (fun _ => .slice none 0 0)
def Av (B : Nat) (w : World) (v : Value) : Prop := ∃ g : Nat, v = .pointer (some ⟨g, 0, none⟩) ∧ B ≤ g ∧ Gs w g 5 (fun _ => .slice none 0 0)
def bkOf : Value → Nat
  | .slice (some a) _ _ => a.block
  | .pointer (some a) => a.block
  | _ => 0
theorem Mv.keep {B : Nat} {w w' : World} {v : Value} {n : Nat} (h : Mv B w v n) (hb : Below w.heap.size w w') : Mv B w' v n := by
  obtain ⟨b, h1, h2, h3⟩ := h
  exact ⟨b, h1, h2, h3.keep hb⟩
theorem Av.keep {B : Nat} {w w' : World} {v : Value} (h : Av B w v) (hb : Below w.heap.size w w') : Av B w' v := by
  obtain ⟨b, h1, h2, h3⟩ := h
  exact ⟨b, h1, h2, h3.keep hb⟩
theorem Mv.lt {B : Nat} {w : World} {v : Value} {n : Nat} (h : Mv B w v n) : bkOf v < w.heap.size := by
  obtain ⟨b, rfl, h2, h3⟩ := h
  exact h3.lt
theorem Av.lt {B : Nat} {w : World} {v : Value} (h : Av B w v) : bkOf v < w.heap.size := by
  obtain ⟨b, rfl, h2, h3⟩ := h
  exact h3.lt
end Go.Proofs.YthlohkbicnicjaaGreatDoor
