import Derived.Test.YtapieajkmpnmoaaGreatDoorGa
namespace Go.Proofs.YtapieajkmpnmoaaGreatDoor
open Go.RowKit
/-- a scalar is written -/
def setS (w : World) (b o : Nat) (x : E4) : World := (((w.setCell ⟨b, o, none⟩ (.int .u64 x.x0)).setCell ⟨b, o + 1, none⟩ (.int .u64 x.x1)).setCell ⟨b, o + 2, none⟩ (.int .u64 x.x2)).setCell ⟨b, o + 3, none⟩ (.int .u64 x.x3)
theorem setS_size (w : World) (b o : Nat) (x : E4) : (setS w b o x).heap.size = w.heap.size := by unfold setS; simp
theorem setS_frozen (w : World) (b o : Nat) (x : E4) (a : Addr) : (setS w b o x).frozen? a = w.frozen? a := by unfold setS; simp only [World.frozen?_setCell]
theorem setC_neG (W : World) (b x k : Nat) (v : Value) (h : k ≠ x) : (W.setCell ⟨b, x, none⟩ v).cell? ⟨b, k, none⟩ = W.cell? ⟨b, k, none⟩ := World.cell?_setCell_other _ _ _ _ (fun e => h (congrArg Addr.off e).symm)
theorem setS_out (w : World) (b o : Nat) (x : E4) {k : Nat} (h : k < o ∨ o + 4 ≤ k) : (setS w b o x).cell? ⟨b, k, none⟩ = w.cell? ⟨b, k, none⟩ := by
  unfold setS
  rw [setC_neG _ _ _ _ _ (by omega), setC_neG _ _ _ _ _ (by omega), setC_neG _ _ _ _ _ (by omega), setC_neG _ _ _ _ _ (by omega)]
theorem setS_in (w : World) (b o : Nat) (x : E4) {v0 v1 v2 v3 : Value} (h0 : w.cell? ⟨b, o, none⟩ = some v0) (h1 : w.cell? ⟨b, o + 1, none⟩ = some v1) (h2 : w.cell? ⟨b, o + 2, none⟩ = some v2) (h3 : w.cell? ⟨b, o + 3, none⟩ = some v3) :
    (setS w b o x).cell? ⟨b, o, none⟩ = some (.int .u64 x.x0) ∧ (setS w b o x).cell? ⟨b, o + 1, none⟩ = some (.int .u64 x.x1) ∧ (setS w b o x).cell? ⟨b, o + 2, none⟩ = some (.int .u64 x.x2) ∧ (setS w b o x).cell? ⟨b, o + 3, none⟩ = some (.int .u64 x.x3) := by
  unfold setS
  refine ⟨?_, ?_, ?_, ?_⟩ <;> go_simp
theorem setS_bel {w0 w : World} {m b o : Nat} {x : E4} (h : Below m w0 w) (hb : m ≤ b) : Below m w0 (setS w b o x) := by
  unfold setS
  exact (((h.setCell hb _).setCell hb _).setCell hb _).setCell hb _
/-- scalars in a block, that may be written -/
structure Rm (w : World) (b n : Nat) (g : Nat → E4) : Prop where
  lt : b < w.heap.size
  r : Rl w b 0 n g
  fr : ∀ k, k < n * 4 → w.frozen? ⟨b, k, none⟩ = false
theorem Rm.keep {w w' : World} {b n : Nat} {g : Nat → E4} (h : Rm w b n g) (hb : Below w.heap.size w w') : Rm w' b n g :=
  ⟨Nat.lt_of_lt_of_le h.lt hb.size, h.r.keep hb, fun k hk => ((bcell hb).2 _ _ h.lt).trans (h.fr k hk)⟩
theorem Rm.made (w : World) (n : Nat) (t : TypeId) : Rm (w.alloc (.cells (madeCells #[.int .u64 0, .int .u64 0, .int .u64 0, .int .u64 0] (n * 4)) t)) w.heap.size n (fun _ => ⟨0, 0, 0, 0⟩) := by
  have hc : ∀ j, j < n * 4 → (w.alloc (.cells (madeCells #[.int .u64 0, .int .u64 0, .int .u64 0, .int .u64 0] (n * 4)) t)).cell? ⟨w.heap.size, j, none⟩ = some (.int .u64 0) := fun j hj => by
    rw [cell_of_row (w.alloc (.cells (madeCells #[.int .u64 0, .int .u64 0, .int .u64 0, .int .u64 0] (n * 4)) t)) w.heap.size j _ t (0, 0) (heap_alloc_new w _)]
    have h2 : j % 4 = 0 ∨ j % 4 = 1 ∨ j % 4 = 2 ∨ j % 4 = 3 := by omega
    rcases h2 with h2 | h2 | h2 | h2 <;> simp [madeCells, hj, h2]
  exact ⟨by simp, ⟨fun k hk => hc _ (by omega), fun k hk => hc _ (by omega), fun k hk => hc _ (by omega), fun k hk => hc _ (by omega)⟩, fun k hk => by go_simp⟩
theorem Rm.set {w : World} {b n : Nat} {g : Nat → E4} (r : Rm w b n g) (k : Nat) (hk : k < n) (x : E4) : Rm (setS w b (k * 4) x) b n (fun j => if j = k then x else g j) := by
  have c0 := r.r.c0 k hk; have c1 := r.r.c1 k hk; have c2 := r.r.c2 k hk; have c3 := r.r.c3 k hk
  rw [Nat.zero_add] at c0 c1 c2 c3
  obtain ⟨e0, e1, e2, e3⟩ := setS_in w b (k * 4) x c0 c1 c2 c3
  have out : ∀ i, i ≠ k → ∀ d, d < 4 → (setS w b (k * 4) x).cell? ⟨b, i * 4 + d, none⟩ = w.cell? ⟨b, i * 4 + d, none⟩ := fun i hi d hd => setS_out _ _ _ _ (by omega)
  refine ⟨by rw [setS_size]; exact r.lt, ⟨fun i hi => ?_, fun i hi => ?_, fun i hi => ?_, fun i hi => ?_⟩, fun j hj => by rw [setS_frozen]; exact r.fr j hj⟩
  · rw [Nat.zero_add]
    by_cases e : i = k
    · rw [if_pos e, e]; exact e0
    · rw [if_neg e, ← Nat.add_zero (i * 4), out i e 0 (by omega), Nat.add_zero, ← Nat.zero_add (i * 4)]; exact r.r.c0 i hi
  · rw [Nat.zero_add]
    by_cases e : i = k
    · rw [if_pos e, e]; exact e1
    · rw [if_neg e, out i e 1 (by omega), ← Nat.zero_add (i * 4)]; exact r.r.c1 i hi
  · rw [Nat.zero_add]
    by_cases e : i = k
    · rw [if_pos e, e]; exact e2
    · rw [if_neg e, out i e 2 (by omega), ← Nat.zero_add (i * 4)]; exact r.r.c2 i hi
  · rw [Nat.zero_add]
    by_cases e : i = k
    · rw [if_pos e, e]; exact e3
    · rw [if_neg e, out i e 3 (by omega), ← Nat.zero_add (i * 4)]; exact r.r.c3 i hi
theorem Rl.far {w : World} {b o n : Nat} {g : Nat → E4} (r : Rl w b o n g) {a : Addr} (v : Value) (h : a.block ≠ b) : Rl (w.setCell a v) b o n g :=
  ⟨fun k hk => (World.cell?_setCell_far _ _ _ _ h).trans (r.c0 k hk), fun k hk => (World.cell?_setCell_far _ _ _ _ h).trans (r.c1 k hk), fun k hk => (World.cell?_setCell_far _ _ _ _ h).trans (r.c2 k hk), fun k hk => (World.cell?_setCell_far _ _ _ _ h).trans (r.c3 k hk)⟩
/-- 1 in a place -/
def uf (p k : Nat) : E4 := if k = p then ⟨1, 0, 0, 0⟩ else ⟨0, 0, 0, 0⟩
theorem uf_ok (p k : Nat) : (uf p k).ok := by
  unfold uf
  split <;> exact ⟨⟨by decide, by decide⟩, ⟨by decide, by decide⟩, ⟨by decide, by decide⟩, ⟨by decide, by decide⟩⟩
theorem uf_least (p k : Nat) : lst (uf p k).n = uf p k := by
  unfold uf
  split <;> kernel_rfl
set_option maxRecDepth 100000 in
set_option maxHeartbeats 4000000 in
theorem int1_any (w : World) : Calls Tryz.prog 4 #[.int .u64 1] w fun e w' => e = .returned (.agg #[.int .u64 1, .int .u64 0, .int .u64 0, .int .u64 0]) ∧ Below w.heap.size w w' := by
  go_enter Tryz.func4, Tryz.ntmps4
  go_wp2_with fail
  refine bodyPost_ret (v := .agg #[.int .u64 1, .int .u64 0, .int .u64 0, .int .u64 0]) (by simp [results, Tryz.results4, go_sem]) rfl ⟨rfl, bl_alloc w _⟩
end Go.Proofs.YtapieajkmpnmoaaGreatDoor
