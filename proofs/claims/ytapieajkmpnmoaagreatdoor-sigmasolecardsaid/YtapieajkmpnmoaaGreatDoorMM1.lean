import Derived.Test.YtapieajkmpnmoaaGreatDoorLM2
import Derived.Test.YtapieajkmpnmoaaGreatDoorBM1
import Derived.Test.YtapieajkmpnmoaaGreatDoorBM4
namespace Go.Proofs.YtapieajkmpnmoaaGreatDoor.Li
open Go.RowKit Go.Shelf
attribute [local go_sem] Oper.semAt_some
set_option linter.unusedVariables false
/-- between two pieces -/
structure Sn (w W : World) (X : Int) (b : Bool) : Prop where
  t2 : W.rangeAt (w.heap.size) 0 [.int .u64 0, .int .u64 0, .int .u64 0, .int .u64 0]
  f2 : ∀ j, j < 4 → W.frozen? ⟨w.heap.size, j, none⟩ = false
  t3 : W.cell? ⟨w.heap.size + 1, 0, none⟩ = some (.int .i64 0)
  f3 : W.frozen? ⟨w.heap.size + 1, 0, none⟩ = false
  u3 : W.cell? ⟨w.heap.size + 1, 1, none⟩ = some (.int .i64 0)
  g3 : W.frozen? ⟨w.heap.size + 1, 1, none⟩ = false
  hd : Hd W (w.heap.size + 1 + 1)
  t5 : ∃ z : E4, W.rangeAt (w.heap.size + 1 + 1 + 1) 0 [.int .u64 z.x0, .int .u64 z.x1, .int .u64 z.x2, .int .u64 z.x3] ∧ (b = false → z = zero4) ∧ (b = true → z = lst X)
  f5 : ∀ j, j < 4 → W.frozen? ⟨w.heap.size + 1 + 1 + 1, j, none⟩ = false
  bl : Below w.heap.size w W
theorem Sn.own {w W W' : World} {X : Int} {b : Bool} {row : Option Nat} (h : Sn w W X b) (hg : W.grownBy W' row) (hr : ∀ r, row = some r → w.heap.size ≤ r ∧ ∃ o : Obj, W.heap[r]? = some o ∧ o.isCells = false) : Sn w W' X b := by
  have hr2 : ∀ r, row = some r → ∃ o : Obj, W.heap[r]? = some o ∧ o.isCells = false := fun r e => (hr r e).2
  have k : ∀ (a : Addr) (v : Value), W.cell? a = some v → W'.cell? a = some v := fun a v hv => cell_kept hv hg hr2
  have fk : ∀ (a : Addr) (v : Value), W.cell? a = some v → W'.frozen? a = W.frozen? a := fun a v hv => frozen_kept hv hg hr2
  have rk : ∀ {b o : Nat} {cs : List Value}, W.rangeAt b o cs → W'.rangeAt b o cs := fun hh j v hv => k _ _ (hh j v hv)
  have fs : ∀ {b j : Nat}, (W.cell? ⟨b, j, none⟩).isSome = true → W'.frozen? ⟨b, j, none⟩ = W.frozen? ⟨b, j, none⟩ := fun hh => by
    obtain ⟨v, hv⟩ := Option.isSome_iff_exists.1 hh
    exact fk _ _ hv
  obtain ⟨z, h7, h7f⟩ := h.t5
  have hb : ∀ k, k < w.heap.size → some k ≠ row := fun k hk e => by have := (hr k e.symm).1; omega
  refine ⟨rk h.t2, fun j hj => (fs (some4 h.t2 hj)).trans (h.f2 j hj), k _ _ h.t3, (fk _ _ h.t3).trans h.f3, k _ _ h.u3, (fk _ _ h.u3).trans h.g3, ?_, ⟨z, rk h7, h7f⟩, fun j hj => (fs (some4 h7 hj)).trans (h.f5 j hj), ?_⟩
  · obtain ⟨x, z, a0, a1, b0, b1, a2⟩ := h.hd
    have hB : W'.heap[w.heap.size + 1 + 1]? = W.heap[w.heap.size + 1 + 1]? := by
      refine hg.block _ h.hd.lt (fun e => ?_)
      obtain ⟨o, ho, hc⟩ := hr2 _ e.symm
      rw [World.cell?, ho] at a0
      cases o <;> simp_all [Obj.isCells]
    exact ⟨x, z, k _ _ a0, k _ _ a1, (fk _ _ a0).trans b0, (fk _ _ a1).trans b1, fun o ho => (World.cell?_of_block hB).trans (a2 o ho)⟩
  · have a := h.bl
    exact ⟨hg.os.trans a.os, hg.tape.trans a.tape, hg.output.trans a.output, Nat.le_trans a.size hg.size, fun q hq => (hg.block q (Nat.lt_of_lt_of_le hq a.size) (hb q hq)).trans (a.block q hq)⟩
theorem Sn.put {w W wb : World} {X : Int} {r : E4} (h : Sn w W X false) (hg : W.grownBy wb (some (w.heap.size + 1 + 1))) (hd : Hd wb (w.heap.size + 1 + 1)) (hr : r = lst X) : Sn w (setS wb (w.heap.size + 1 + 1 + 1) 0 r) X true := by
  have k0 : ∀ (a : Addr) (v : Value), a.block ≠ w.heap.size + 1 + 1 → W.cell? a = some v → wb.cell? a = some v := fun a v ha hv => hg.cell hv (fun e => ha (Option.some.inj e))
  have k1 : ∀ (q o : Nat), q ≠ w.heap.size + 1 + 1 → (W.cell? ⟨q, o, none⟩).isSome = true → wb.frozen? ⟨q, o, none⟩ = W.frozen? ⟨q, o, none⟩ := fun q o ha hv => gb_frozen_some hg hv ha
  obtain ⟨z, h7, -⟩ := h.t5
  have s7 : wb.rangeAt (w.heap.size + 1 + 1 + 1) 0 [.int .u64 z.x0, .int .u64 z.x1, .int .u64 z.x2, .int .u64 z.x3] := range_gb h7 hg (by omega)
  have th : wb.there (w.heap.size + 1 + 1 + 1) 0 4 := there4 s7 (fun j hj => by rw [Nat.zero_add, k1 _ _ (by omega) (some4 h7 hj)]; exact h.f5 j hj)
  have o7 : ∀ (a : Addr) (v : Value), a.block ≠ w.heap.size + 1 + 1 + 1 → wb.cell? a = some v → (setS wb (w.heap.size + 1 + 1 + 1) 0 r).cell? a = some v := fun a v hq hv => by rw [setS_far0 _ _ _ _ _ hq]; exact hv
  have n3 : w.heap.size + 1 + 1 + 1 ≠ w.heap.size + 1 + 1 := by omega
  refine ⟨fun j v hv => o7 _ _ (by simp only; omega) (k0 _ _ (by simp only; omega) (h.t2 j v hv)), fun j hj => by rw [setS_frozen, k1 _ _ (by omega) (some4 h.t2 hj)]; exact h.f2 j hj, o7 _ _ (by simp only; omega) (k0 _ _ (by simp only; omega) h.t3), by rw [setS_frozen, k1 _ _ (by omega) (by rw [h.t3]; rfl)]; exact h.f3, o7 _ _ (by simp only; omega) (k0 _ _ (by simp only; omega) h.u3), by rw [setS_frozen, k1 _ _ (by omega) (by rw [h.u3]; rfl)]; exact h.g3, ?_, ⟨r, World.rangeAt_setCells_same wb (w.heap.size + 1 + 1 + 1) 0 [.int .u64 r.x0, .int .u64 r.x1, .int .u64 r.x2, .int .u64 r.x3] th, fun e => by simp at e, fun _ => hr⟩, fun j hj => by rw [setS_frozen, k1 _ _ (by omega) (some4 h7 hj)]; exact h.f5 j hj, ?_⟩
  · unfold setS; exact (((hd.far n3).far n3).far n3).far n3
  · unfold setS
    exact ((((h.bl.grown hg h.bl.size (fun j hj => by obtain rfl := Option.some.inj hj; omega)).setCell (by simp only; omega) _).setCell (by simp only; omega) _).setCell (by simp only; omega) _).setCell (by simp only; omega) _
theorem sn_drew {w W : World} {X : Int} {b : Bool} (h : Sn w W X b) : Sn w W.drew X b := h.own (gbI (bl_drew W) none) (fun r e => by cases e)
theorem def_set {W : World} {Dd : Nat} (h : W.heap[Dd]? = some (.deferred (some []))) (a : Addr) (v : Value) : (W.setCell a v).heap[Dd]? = some (.deferred (some [])) := (KeepsOthers.setCell W a v).same Dd _ h rfl
theorem def_drew {W : World} {Dd : Nat} (h : W.heap[Dd]? = some (.deferred (some []))) : W.drew.heap[Dd]? = some (.deferred (some [])) := h
theorem KB.setS4 {B1 B2 q o : Nat} {W : World} {r : E4} (h1 : q ≠ B1) (h2 : q ≠ B2) : KB B1 B2 W (setS W q o r) := ⟨setS_far0 _ _ _ _ _ (fun e => h1 e.symm), setS_far0 _ _ _ _ _ (fun e => h2 e.symm)⟩
set_option maxRecDepth 100000 in
set_option maxHeartbeats 2000000 in
theorem fsum_any (L lo N cap : Nat) (ks : Nat → E4) (fs : Nat → Nat → Int) (w : World) (hN0 : 1 ≤ N) (hN : N ≤ 50) (hcap : N ≤ cap) (hT : Tb w) (hTm : Tm w L lo N ks fs) :
    Calls Tryz.prog 45 #[.slice (some ⟨L, lo, none⟩) N cap] w fun e w' => ∃ z1 z2 : Int, e = .returned (.tuple #[(lst (tot (fun q => (ks q).n * fs q 0) N)).v, .agg #[.int .i64 z1, .int .i64 z2]]) ∧ Below w.heap.size w w' := by
  have BC := hidden (fun x => callsIn_wide (n := 2) |>.2 (chunk_any L lo N cap x))
  refine callsIn_wide (n := 3) |>.1 ?_
  refine callsIn_of_wp_marks Tryz.func45 rfl trivial ?_ rfl
  simp only [Tryz.ntmps45, List.size_toArray, List.length_cons, List.length_nil, Nat.reduceAdd, Nat.reduceSub, Array.replicate_succ, Array.replicate_zero, List.push_toArray, List.append_toArray, List.nil_append, List.cons_append]
  gi_wp2_with (refine ⟨trivial, ?_⟩; gi_at_call 54; refine (BC.out _).mono ?_; rintro e w' ⟨rfl, rfl⟩)
  have hsz : ((((((w.alloc (.cells #[.int .u64 0, .int .u64 0, .int .u64 0, .int .u64 0] 51)).alloc (.cells #[.int .i64 0, .int .i64 0] 83)).alloc (.cells #[.int .i64 0, .int .i64 0] 114)).alloc (.cells #[.int .u64 0, .int .u64 0, .int .u64 0, .int .u64 0] 51)).alloc (.cells #[.slice (some ⟨L, lo, none⟩) N cap] 86)).alloc (.cells #[.int .i64 8192] 3)).heap.size = w.heap.size + 1 + 1 + 1 + 1 + 1 + 1 := by simp only [World.size_alloc]

  have a0 : ((((((w.alloc (.cells #[.int .u64 0, .int .u64 0, .int .u64 0, .int .u64 0] 51)).alloc (.cells #[.int .i64 0, .int .i64 0] 83)).alloc (.cells #[.int .i64 0, .int .i64 0] 114)).alloc (.cells #[.int .u64 0, .int .u64 0, .int .u64 0, .int .u64 0] 51)).alloc (.cells #[.slice (some ⟨L, lo, none⟩) N cap] 86)).alloc (.cells #[.int .i64 8192] 3)).cell? ⟨w.heap.size, 0, none⟩ = some (.int .u64 0) := by go_simp
  have a1 : ((((((w.alloc (.cells #[.int .u64 0, .int .u64 0, .int .u64 0, .int .u64 0] 51)).alloc (.cells #[.int .i64 0, .int .i64 0] 83)).alloc (.cells #[.int .i64 0, .int .i64 0] 114)).alloc (.cells #[.int .u64 0, .int .u64 0, .int .u64 0, .int .u64 0] 51)).alloc (.cells #[.slice (some ⟨L, lo, none⟩) N cap] 86)).alloc (.cells #[.int .i64 8192] 3)).cell? ⟨w.heap.size, 1, none⟩ = some (.int .u64 0) := by go_simp
  have a2 : ((((((w.alloc (.cells #[.int .u64 0, .int .u64 0, .int .u64 0, .int .u64 0] 51)).alloc (.cells #[.int .i64 0, .int .i64 0] 83)).alloc (.cells #[.int .i64 0, .int .i64 0] 114)).alloc (.cells #[.int .u64 0, .int .u64 0, .int .u64 0, .int .u64 0] 51)).alloc (.cells #[.slice (some ⟨L, lo, none⟩) N cap] 86)).alloc (.cells #[.int .i64 8192] 3)).cell? ⟨w.heap.size, 2, none⟩ = some (.int .u64 0) := by go_simp
  have a3 : ((((((w.alloc (.cells #[.int .u64 0, .int .u64 0, .int .u64 0, .int .u64 0] 51)).alloc (.cells #[.int .i64 0, .int .i64 0] 83)).alloc (.cells #[.int .i64 0, .int .i64 0] 114)).alloc (.cells #[.int .u64 0, .int .u64 0, .int .u64 0, .int .u64 0] 51)).alloc (.cells #[.slice (some ⟨L, lo, none⟩) N cap] 86)).alloc (.cells #[.int .i64 8192] 3)).cell? ⟨w.heap.size, 3, none⟩ = some (.int .u64 0) := by go_simp
  have c3 : ((((((w.alloc (.cells #[.int .u64 0, .int .u64 0, .int .u64 0, .int .u64 0] 51)).alloc (.cells #[.int .i64 0, .int .i64 0] 83)).alloc (.cells #[.int .i64 0, .int .i64 0] 114)).alloc (.cells #[.int .u64 0, .int .u64 0, .int .u64 0, .int .u64 0] 51)).alloc (.cells #[.slice (some ⟨L, lo, none⟩) N cap] 86)).alloc (.cells #[.int .i64 8192] 3)).cell? ⟨w.heap.size + 1, 0, none⟩ = some (.int .i64 0) := by go_simp
  have d3 : ((((((w.alloc (.cells #[.int .u64 0, .int .u64 0, .int .u64 0, .int .u64 0] 51)).alloc (.cells #[.int .i64 0, .int .i64 0] 83)).alloc (.cells #[.int .i64 0, .int .i64 0] 114)).alloc (.cells #[.int .u64 0, .int .u64 0, .int .u64 0, .int .u64 0] 51)).alloc (.cells #[.slice (some ⟨L, lo, none⟩) N cap] 86)).alloc (.cells #[.int .i64 8192] 3)).cell? ⟨w.heap.size + 1, 1, none⟩ = some (.int .i64 0) := by go_simp
  have b0 : ((((((w.alloc (.cells #[.int .u64 0, .int .u64 0, .int .u64 0, .int .u64 0] 51)).alloc (.cells #[.int .i64 0, .int .i64 0] 83)).alloc (.cells #[.int .i64 0, .int .i64 0] 114)).alloc (.cells #[.int .u64 0, .int .u64 0, .int .u64 0, .int .u64 0] 51)).alloc (.cells #[.slice (some ⟨L, lo, none⟩) N cap] 86)).alloc (.cells #[.int .i64 8192] 3)).cell? ⟨w.heap.size + 1 + 1 + 1, 0, none⟩ = some (.int .u64 0) := by go_simp
  have b1 : ((((((w.alloc (.cells #[.int .u64 0, .int .u64 0, .int .u64 0, .int .u64 0] 51)).alloc (.cells #[.int .i64 0, .int .i64 0] 83)).alloc (.cells #[.int .i64 0, .int .i64 0] 114)).alloc (.cells #[.int .u64 0, .int .u64 0, .int .u64 0, .int .u64 0] 51)).alloc (.cells #[.slice (some ⟨L, lo, none⟩) N cap] 86)).alloc (.cells #[.int .i64 8192] 3)).cell? ⟨w.heap.size + 1 + 1 + 1, 1, none⟩ = some (.int .u64 0) := by go_simp
  have b2 : ((((((w.alloc (.cells #[.int .u64 0, .int .u64 0, .int .u64 0, .int .u64 0] 51)).alloc (.cells #[.int .i64 0, .int .i64 0] 83)).alloc (.cells #[.int .i64 0, .int .i64 0] 114)).alloc (.cells #[.int .u64 0, .int .u64 0, .int .u64 0, .int .u64 0] 51)).alloc (.cells #[.slice (some ⟨L, lo, none⟩) N cap] 86)).alloc (.cells #[.int .i64 8192] 3)).cell? ⟨w.heap.size + 1 + 1 + 1, 2, none⟩ = some (.int .u64 0) := by go_simp
  have b3 : ((((((w.alloc (.cells #[.int .u64 0, .int .u64 0, .int .u64 0, .int .u64 0] 51)).alloc (.cells #[.int .i64 0, .int .i64 0] 83)).alloc (.cells #[.int .i64 0, .int .i64 0] 114)).alloc (.cells #[.int .u64 0, .int .u64 0, .int .u64 0, .int .u64 0] 51)).alloc (.cells #[.slice (some ⟨L, lo, none⟩) N cap] 86)).alloc (.cells #[.int .i64 8192] 3)).cell? ⟨w.heap.size + 1 + 1 + 1, 3, none⟩ = some (.int .u64 0) := by go_simp
  have c6 : ((((((w.alloc (.cells #[.int .u64 0, .int .u64 0, .int .u64 0, .int .u64 0] 51)).alloc (.cells #[.int .i64 0, .int .i64 0] 83)).alloc (.cells #[.int .i64 0, .int .i64 0] 114)).alloc (.cells #[.int .u64 0, .int .u64 0, .int .u64 0, .int .u64 0] 51)).alloc (.cells #[.slice (some ⟨L, lo, none⟩) N cap] 86)).alloc (.cells #[.int .i64 8192] 3)).cell? ⟨w.heap.size + 1 + 1 + 1 + 1, 0, none⟩ = some (.slice (some ⟨L, lo, none⟩) N cap) := by go_simp
  have c7 : ((((((w.alloc (.cells #[.int .u64 0, .int .u64 0, .int .u64 0, .int .u64 0] 51)).alloc (.cells #[.int .i64 0, .int .i64 0] 83)).alloc (.cells #[.int .i64 0, .int .i64 0] 114)).alloc (.cells #[.int .u64 0, .int .u64 0, .int .u64 0, .int .u64 0] 51)).alloc (.cells #[.slice (some ⟨L, lo, none⟩) N cap] 86)).alloc (.cells #[.int .i64 8192] 3)).cell? ⟨w.heap.size + 1 + 1 + 1 + 1 + 1, 0, none⟩ = some (.int .i64 8192) := by go_simp
  have f2 : ∀ j, j < 4 → ((((((w.alloc (.cells #[.int .u64 0, .int .u64 0, .int .u64 0, .int .u64 0] 51)).alloc (.cells #[.int .i64 0, .int .i64 0] 83)).alloc (.cells #[.int .i64 0, .int .i64 0] 114)).alloc (.cells #[.int .u64 0, .int .u64 0, .int .u64 0, .int .u64 0] 51)).alloc (.cells #[.slice (some ⟨L, lo, none⟩) N cap] 86)).alloc (.cells #[.int .i64 8192] 3)).frozen? ⟨w.heap.size, j, none⟩ = false := fun j _ => by go_simp
  have f3 : ((((((w.alloc (.cells #[.int .u64 0, .int .u64 0, .int .u64 0, .int .u64 0] 51)).alloc (.cells #[.int .i64 0, .int .i64 0] 83)).alloc (.cells #[.int .i64 0, .int .i64 0] 114)).alloc (.cells #[.int .u64 0, .int .u64 0, .int .u64 0, .int .u64 0] 51)).alloc (.cells #[.slice (some ⟨L, lo, none⟩) N cap] 86)).alloc (.cells #[.int .i64 8192] 3)).frozen? ⟨w.heap.size + 1, 0, none⟩ = false := by go_simp
  have g3 : ((((((w.alloc (.cells #[.int .u64 0, .int .u64 0, .int .u64 0, .int .u64 0] 51)).alloc (.cells #[.int .i64 0, .int .i64 0] 83)).alloc (.cells #[.int .i64 0, .int .i64 0] 114)).alloc (.cells #[.int .u64 0, .int .u64 0, .int .u64 0, .int .u64 0] 51)).alloc (.cells #[.slice (some ⟨L, lo, none⟩) N cap] 86)).alloc (.cells #[.int .i64 8192] 3)).frozen? ⟨w.heap.size + 1, 1, none⟩ = false := by go_simp
  have f5 : ∀ j, j < 4 → ((((((w.alloc (.cells #[.int .u64 0, .int .u64 0, .int .u64 0, .int .u64 0] 51)).alloc (.cells #[.int .i64 0, .int .i64 0] 83)).alloc (.cells #[.int .i64 0, .int .i64 0] 114)).alloc (.cells #[.int .u64 0, .int .u64 0, .int .u64 0, .int .u64 0] 51)).alloc (.cells #[.slice (some ⟨L, lo, none⟩) N cap] 86)).alloc (.cells #[.int .i64 8192] 3)).frozen? ⟨w.heap.size + 1 + 1 + 1, j, none⟩ = false := fun j _ => by go_simp
  have H4 : Hd ((((((w.alloc (.cells #[.int .u64 0, .int .u64 0, .int .u64 0, .int .u64 0] 51)).alloc (.cells #[.int .i64 0, .int .i64 0] 83)).alloc (.cells #[.int .i64 0, .int .i64 0] 114)).alloc (.cells #[.int .u64 0, .int .u64 0, .int .u64 0, .int .u64 0] 51)).alloc (.cells #[.slice (some ⟨L, lo, none⟩) N cap] 86)).alloc (.cells #[.int .i64 8192] 3)) (w.heap.size + 1 + 1) := (Hd.new ((w.alloc (.cells #[.int .u64 0, .int .u64 0, .int .u64 0, .int .u64 0] 51)).alloc (.cells #[.int .i64 0, .int .i64 0] 83)) 114 (w.heap.size + 1 + 1) (by simp only [World.size_alloc])).keep (bl_trans (bl_trans (bl_alloc _ _) (bl_alloc _ _)) (bl_alloc _ _))
  have BB : Below w.heap.size w ((((((w.alloc (.cells #[.int .u64 0, .int .u64 0, .int .u64 0, .int .u64 0] 51)).alloc (.cells #[.int .i64 0, .int .i64 0] 83)).alloc (.cells #[.int .i64 0, .int .i64 0] 114)).alloc (.cells #[.int .u64 0, .int .u64 0, .int .u64 0, .int .u64 0] 51)).alloc (.cells #[.slice (some ⟨L, lo, none⟩) N cap] 86)).alloc (.cells #[.int .i64 8192] 3)) := bl_trans (bl_trans (bl_trans (bl_trans (bl_trans (bl_alloc w _) (bl_alloc _ _)) (bl_alloc _ _)) (bl_alloc _ _)) (bl_alloc _ _)) (bl_alloc _ _)
  obtain ⟨W0, hW0⟩ : ∃ W0, ((((((w.alloc (.cells #[.int .u64 0, .int .u64 0, .int .u64 0, .int .u64 0] 51)).alloc (.cells #[.int .i64 0, .int .i64 0] 83)).alloc (.cells #[.int .i64 0, .int .i64 0] 114)).alloc (.cells #[.int .u64 0, .int .u64 0, .int .u64 0, .int .u64 0] 51)).alloc (.cells #[.slice (some ⟨L, lo, none⟩) N cap] 86)).alloc (.cells #[.int .i64 8192] 3)) = W0 := ⟨_, rfl⟩
  rw [hW0] at hsz a0 a1 a2 a3 c3 d3 b0 b1 b2 b3 c6 c7 f3 g3 BB H4 ⊢
  simp only [hW0] at f2 f5
  clear hW0 BC
  have S0 : Sn w W0 (tot (fun q => (ks q).n * fs q 0) N) false := ⟨range4 (p := ⟨0, 0, 0, 0⟩) a0 a1 a2 a3, f2, c3, f3, d3, g3, H4, ⟨zero4, range4 (p := ⟨0, 0, 0, 0⟩) b0 b1 b2 b3, fun _ => rfl, fun e => by simp at e⟩, f5, BB⟩
  refine wpIn_rangeFunc_ownH (α := Unit) rfl (by omega) (gf := 69) (lb := #[.pointer (some ⟨w.heap.size + 1 + 1 + 1 + 1, 0, none⟩), .pointer (some ⟨w.heap.size + 1 + 1 + 1 + 1 + 1, 0, none⟩)]) rfl trivial (enters_of Tryz.func69 (by kernel_rfl) rfl)
    (chunk_stops Fence.wide 2 trivial rfl (by omega) (w.heap.size + 1 + 1 + 1 + 1) (w.heap.size + 1 + 1 + 1 + 1 + 1) L lo N cap hN0 hN hcap W0 c6 c7) (fun h1 h2 => h1.trans h2) (fun W l o o' hl _ _ _ => KB.putObj (n := W0.heap.size) (by omega) (by omega) W l o o' hl) (Below.refl _ _) (fun _ => rfl)
    (fun pre W => Sn w W (tot (fun q => (ks q).n * fs q 0) N) (!pre.isEmpty) ∧ w.heap.size + 1 + 1 + 1 + 1 + 1 + 1 ≤ W.heap.size)
    (fun _ _ _ => False)
    (fun pre X Y row hs hgr hr => ⟨hs.1.own hgr (fun r e => ⟨by have := (hr r e).1; omega, (hr r e).2⟩), Nat.le_trans hs.2 hgr.size⟩)
    (fun _ _ _ _ _ hs _ _ => hs)
    ⟨S0, by omega⟩
    (fun x a' W => a' = { tmps := #[.slice (some ⟨L, lo, none⟩) N cap, undef, .pointer (some ⟨w.heap.size, 0, none⟩), .pointer (some ⟨w.heap.size + 1, 0, none⟩), .pointer (some ⟨w.heap.size + 1 + 1, 0, none⟩), .pointer (some ⟨w.heap.size + 1 + 1 + 1, 0, none⟩), .slice (some ⟨L, lo, none⟩) N N, .slice (some ⟨L, lo, none⟩) N cap, .func (.func 69) #[] #[.pointer (some ⟨w.heap.size + 1 + 1 + 1 + 1, 0, none⟩), .pointer (some ⟨w.heap.size + 1 + 1 + 1 + 1 + 1, 0, none⟩)], .slice (some ⟨L, lo, none⟩) N N, undef, undef, undef, undef, undef, undef, undef], defers := [] })
    (fun x a' _ X Y row hs hgr hr => hs)
    ?assign ?body ?done ?stop
  case assign =>
    rintro l pre x W K0 hI hK0
    gi_wp2
    exact hK0 _ _ (KeepsFrom.refl _ _) ⟨rfl, rfl⟩ hI rfl
  case body =>
    rintro l pre x a' W hl ⟨r, hr⟩ ⟨h1, h3⟩ rfl hlt
    obtain rfl : pre = [] := by
      cases pre with
      | nil => rfl
      | cons a b => simp at hlt
    have h1d := sn_drew h1
    have B1 := bl_drew W
    have TT := hT.keep h1d.bl
    obtain ⟨z0, r5, zz, -⟩ := id h1d.t5
    obtain rfl := zz rfl
    have z50 : W.drew.cell? ⟨w.heap.size + 1 + 1 + 1, 0, none⟩ = some (.int .u64 0) := r5 0 _ rfl
    have z51 : W.drew.cell? ⟨w.heap.size + 1 + 1 + 1, 1, none⟩ = some (.int .u64 0) := r5 1 _ rfl
    have z52 : W.drew.cell? ⟨w.heap.size + 1 + 1 + 1, 2, none⟩ = some (.int .u64 0) := r5 2 _ rfl
    have z53 : W.drew.cell? ⟨w.heap.size + 1 + 1 + 1, 3, none⟩ = some (.int .u64 0) := r5 3 _ rfl
    have R5 := hidden r5
    have F5 := hidden h1d.f5
    have CA := hidden (callsIn_wide (n := 0) |>.2 (cheapest_any (w.heap.size + 1 + 1) N L lo N ks fs W.drew hN TT h1d.hd (hTm.keep h1d.bl)))
    have TB := hidden (h1d.hd.tb TT)
    have HTT := hidden TT
    have SZ : Hid (w.heap.size + 1 + 1 + 1 + 1 + 1 + 1 ≤ W.drew.heap.size) := hidden (Nat.le_trans h3 B1.size)
    have HS := hidden h1d
    have n3 : w.heap.size + 1 + 1 + 1 ≠ w.heap.size + 1 + 1 := by omega
    clear h1 h1d B1 TT zz r5
    gi_wp2
    gi_region_with (first
      | (refine ⟨trivial, ?_⟩; gi_at_call 56; refine (CallsIn.inRound l CA.out).mono ?_; rintro e wa ⟨rr, rfl, hrr, hda, hga⟩; have ra := range_gb R5.out hga n3; have u0 : wa.cell? ⟨w.heap.size + 1 + 1 + 1, 0, none⟩ = some (.int .u64 0) := ra 0 _ rfl; have u1 : wa.cell? ⟨w.heap.size + 1 + 1 + 1, 1, none⟩ = some (.int .u64 0) := ra 1 _ rfl; have u2 : wa.cell? ⟨w.heap.size + 1 + 1 + 1, 2, none⟩ = some (.int .u64 0) := ra 2 _ rfl; have u3 : wa.cell? ⟨w.heap.size + 1 + 1 + 1, 3, none⟩ = some (.int .u64 0) := ra 3 _ rfl; have CB := hidden (callsIn_wide (n := 0) |>.2 (hadd (w.heap.size + 1 + 1) zero4 rr wa (HTT.out.keep0 hga TB.out) hda z4ok hrr.1)); obtain ⟨q, hq⟩ : ∃ q, lst (zero4.n + rr.n) = q := ⟨_, rfl⟩; rw [hq] at CB; unfold E4.v zero4 at CB; have HQ : Hid (q = lst (tot (fun q => (ks q).n * fs q 0) N)) := hidden (by rw [← hq, z4n, Int.zero_add]; exact hrr.2 0); have HA := hidden hga; have RA := hidden ra; have FA : Hid (∀ j, j < 4 → wa.frozen? ⟨w.heap.size + 1 + 1 + 1, j, none⟩ = false) := hidden (fun j hj => (gb_frozen_some hga (some4 R5.out hj) n3).trans (F5.out j hj)); clear hrr hda hga CA ra hq)
      | (refine ⟨trivial, ?_⟩; gi_at_call 55; refine (CallsIn.inRound l CB.out).mono ?_; rintro e wb ⟨rfl, hdb, hgb⟩; have rb := range_gb RA.out hgb n3; have x0 : wb.cell? ⟨w.heap.size + 1 + 1 + 1, 0, none⟩ = some (.int .u64 0) := rb 0 _ rfl; have x1 : wb.cell? ⟨w.heap.size + 1 + 1 + 1, 1, none⟩ = some (.int .u64 0) := rb 1 _ rfl; have x2 : wb.cell? ⟨w.heap.size + 1 + 1 + 1, 2, none⟩ = some (.int .u64 0) := rb 2 _ rfl; have x3 : wb.cell? ⟨w.heap.size + 1 + 1 + 1, 3, none⟩ = some (.int .u64 0) := rb 3 _ rfl; have fb : ∀ j, j < 4 → wb.frozen? ⟨w.heap.size + 1 + 1 + 1, j, none⟩ = false := (fun j hj => (gb_frozen_some hgb (some4 RA.out hj) n3).trans (FA.out j hj)); have y0 := fb 0 (by omega); have y1 := fb 1 (by omega); have y2 := fb 2 (by omega); have y3 := fb 3 (by omega); have HB := hidden (And.intro hdb hgb); clear hdb hgb CB rb fb))
    all_goals
      gi_wp2
      obtain ⟨hdb, hgb⟩ := HB.out
      have gAB := HA.out.trans hgb
      have szW := SZ.out
      have hsA := HA.out.size
      have P1 := HS.out.put gAB hdb HQ.out
      have P2 : KeepsFrom W0.heap.size W (setS wb (w.heap.size + 1 + 1 + 1) 0 q) := ((KeepsFrom.of_grownBy (gbI (bl_drew W) none) (fun q e => by cases e)).trans (KeepsFrom.of_grownBy gAB (fun q e => by have := Option.some.inj e; omega))).trans (keeps_setS wb (w.heap.size + 1 + 1 + 1) 0 q W0.heap.size)
      have P3 := KB.trans (KB.trans (show KB (w.heap.size + 1 + 1 + 1 + 1) (w.heap.size + 1 + 1 + 1 + 1 + 1) W W.drew from ⟨rfl, rfl⟩) (KB.gb gAB (by omega) (by omega) (by omega) (by omega))) (KB.setS4 (q := w.heap.size + 1 + 1 + 1) (o := 0) (r := q) (by omega) (by omega))
      have P4 : w.heap.size + 1 + 1 + 1 + 1 + 1 + 1 ≤ (setS wb (w.heap.size + 1 + 1 + 1) 0 q).heap.size := by rw [setS_size]; have := gAB.size; omega
      unfold setS at P1 P2 P3 P4
      exact ⟨P2, P3, P1, P4⟩
  case done =>
    rintro Dd xs W hDd hS ⟨h1, h3⟩ hKd
    obtain rfl := hS
    obtain ⟨z, h7, -, hz⟩ := id h1.t5
    have HZ := hidden (hz rfl)
    clear hz
    have s0 : W.cell? ⟨w.heap.size + 1 + 1 + 1, 0, none⟩ = some (.int .u64 z.x0) := h7 0 _ rfl
    have s1 : W.cell? ⟨w.heap.size + 1 + 1 + 1, 1, none⟩ = some (.int .u64 z.x1) := h7 1 _ rfl
    have s2 : W.cell? ⟨w.heap.size + 1 + 1 + 1, 2, none⟩ = some (.int .u64 z.x2) := h7 2 _ rfl
    have s3 : W.cell? ⟨w.heap.size + 1 + 1 + 1, 3, none⟩ = some (.int .u64 z.x3) := h7 3 _ rfl
    have u0 : W.cell? ⟨w.heap.size, 0, none⟩ = some (.int .u64 0) := h1.t2 0 _ rfl
    have u1 : W.cell? ⟨w.heap.size, 1, none⟩ = some (.int .u64 0) := h1.t2 1 _ rfl
    have u2 : W.cell? ⟨w.heap.size, 2, none⟩ = some (.int .u64 0) := h1.t2 2 _ rfl
    have u3' : W.cell? ⟨w.heap.size, 3, none⟩ = some (.int .u64 0) := h1.t2 3 _ rfl
    have v0 := h1.f2 0 (by omega)
    have v1 := h1.f2 1 (by omega)
    have v2 := h1.f2 2 (by omega)
    have v3 := h1.f2 3 (by omega)
    have t3 := h1.t3
    have u3 := h1.u3
    have f3 := h1.f3
    have g3 := h1.g3
    obtain ⟨z1, z2, q1, q2, q3⟩ := id h1.hd
    gi_wp2
    gi_region
    all_goals
      gi_wp2
      have hK0 : (((((((W.setCell ⟨w.heap.size, 0, none⟩ (.int .u64 z.x0)).setCell ⟨w.heap.size, 1, none⟩ (.int .u64 z.x1)).setCell ⟨w.heap.size, 2, none⟩ (.int .u64 z.x2)).setCell ⟨w.heap.size, 3, none⟩ (.int .u64 z.x3)).setCell ⟨w.heap.size + 1, 0, none⟩ (.int .i64 z1)).setCell ⟨w.heap.size + 1, 1, none⟩ (.int .i64 z2))).heap[Dd]? = some (.deferred (some [])) := def_set (def_set (def_set (def_set (def_set (def_set hKd _ _) _ _) _ _) _ _) _ _) _ _
      have hK' : (((((((W.setCell ⟨w.heap.size, 0, none⟩ (.int .u64 z.x0)).setCell ⟨w.heap.size, 1, none⟩ (.int .u64 z.x1)).setCell ⟨w.heap.size, 2, none⟩ (.int .u64 z.x2)).setCell ⟨w.heap.size, 3, none⟩ (.int .u64 z.x3)).setCell ⟨w.heap.size + 1, 0, none⟩ (.int .i64 z1)).setCell ⟨w.heap.size + 1, 1, none⟩ (.int .i64 z2)).drew).heap[Dd]? = some (.deferred (some [])) := def_drew hK0
      refine ⟨by simp, .inl ⟨_, _, rfl, run_takeDeferred hK', ?_⟩⟩
      have a0 : (((((((W.setCell ⟨w.heap.size, 0, none⟩ (.int .u64 z.x0)).setCell ⟨w.heap.size, 1, none⟩ (.int .u64 z.x1)).setCell ⟨w.heap.size, 2, none⟩ (.int .u64 z.x2)).setCell ⟨w.heap.size, 3, none⟩ (.int .u64 z.x3)).setCell ⟨w.heap.size + 1, 0, none⟩ (.int .i64 z1)).setCell ⟨w.heap.size + 1, 1, none⟩ (.int .i64 z2)).drew).cell? ⟨w.heap.size, 0, none⟩ = some (.int .u64 z.x0) := by go_simp
      have a1 : (((((((W.setCell ⟨w.heap.size, 0, none⟩ (.int .u64 z.x0)).setCell ⟨w.heap.size, 1, none⟩ (.int .u64 z.x1)).setCell ⟨w.heap.size, 2, none⟩ (.int .u64 z.x2)).setCell ⟨w.heap.size, 3, none⟩ (.int .u64 z.x3)).setCell ⟨w.heap.size + 1, 0, none⟩ (.int .i64 z1)).setCell ⟨w.heap.size + 1, 1, none⟩ (.int .i64 z2)).drew).cell? ⟨w.heap.size, 1, none⟩ = some (.int .u64 z.x1) := by go_simp
      have a2 : (((((((W.setCell ⟨w.heap.size, 0, none⟩ (.int .u64 z.x0)).setCell ⟨w.heap.size, 1, none⟩ (.int .u64 z.x1)).setCell ⟨w.heap.size, 2, none⟩ (.int .u64 z.x2)).setCell ⟨w.heap.size, 3, none⟩ (.int .u64 z.x3)).setCell ⟨w.heap.size + 1, 0, none⟩ (.int .i64 z1)).setCell ⟨w.heap.size + 1, 1, none⟩ (.int .i64 z2)).drew).cell? ⟨w.heap.size, 2, none⟩ = some (.int .u64 z.x2) := by go_simp
      have a3 : (((((((W.setCell ⟨w.heap.size, 0, none⟩ (.int .u64 z.x0)).setCell ⟨w.heap.size, 1, none⟩ (.int .u64 z.x1)).setCell ⟨w.heap.size, 2, none⟩ (.int .u64 z.x2)).setCell ⟨w.heap.size, 3, none⟩ (.int .u64 z.x3)).setCell ⟨w.heap.size + 1, 0, none⟩ (.int .i64 z1)).setCell ⟨w.heap.size + 1, 1, none⟩ (.int .i64 z2)).drew).cell? ⟨w.heap.size, 3, none⟩ = some (.int .u64 z.x3) := by go_simp
      have a4 : (((((((W.setCell ⟨w.heap.size, 0, none⟩ (.int .u64 z.x0)).setCell ⟨w.heap.size, 1, none⟩ (.int .u64 z.x1)).setCell ⟨w.heap.size, 2, none⟩ (.int .u64 z.x2)).setCell ⟨w.heap.size, 3, none⟩ (.int .u64 z.x3)).setCell ⟨w.heap.size + 1, 0, none⟩ (.int .i64 z1)).setCell ⟨w.heap.size + 1, 1, none⟩ (.int .i64 z2)).drew).cell? ⟨w.heap.size + 1, 0, none⟩ = some (.int .i64 z1) := by go_simp
      have a5 : (((((((W.setCell ⟨w.heap.size, 0, none⟩ (.int .u64 z.x0)).setCell ⟨w.heap.size, 1, none⟩ (.int .u64 z.x1)).setCell ⟨w.heap.size, 2, none⟩ (.int .u64 z.x2)).setCell ⟨w.heap.size, 3, none⟩ (.int .u64 z.x3)).setCell ⟨w.heap.size + 1, 0, none⟩ (.int .i64 z1)).setCell ⟨w.heap.size + 1, 1, none⟩ (.int .i64 z2)).drew).cell? ⟨w.heap.size + 1, 1, none⟩ = some (.int .i64 z2) := by go_simp
      have B4 : Below w.heap.size w (((((((W.setCell ⟨w.heap.size, 0, none⟩ (.int .u64 z.x0)).setCell ⟨w.heap.size, 1, none⟩ (.int .u64 z.x1)).setCell ⟨w.heap.size, 2, none⟩ (.int .u64 z.x2)).setCell ⟨w.heap.size, 3, none⟩ (.int .u64 z.x3)).setCell ⟨w.heap.size + 1, 0, none⟩ (.int .i64 z1)).setCell ⟨w.heap.size + 1, 1, none⟩ (.int .i64 z2)).drew) := ((((((h1.bl.setCell (Nat.le_refl _) _).setCell (Nat.le_refl _) _).setCell (Nat.le_refl _) _).setCell (Nat.le_refl _) _).setCell (by simp only; omega) _).setCell (by simp only; omega) _).drew
      generalize (((((((W.setCell ⟨w.heap.size, 0, none⟩ (.int .u64 z.x0)).setCell ⟨w.heap.size, 1, none⟩ (.int .u64 z.x1)).setCell ⟨w.heap.size, 2, none⟩ (.int .u64 z.x2)).setCell ⟨w.heap.size, 3, none⟩ (.int .u64 z.x3)).setCell ⟨w.heap.size + 1, 0, none⟩ (.int .i64 z1)).setCell ⟨w.heap.size + 1, 1, none⟩ (.int .i64 z2)).drew) = W4 at *
      have gp := grownBy_putObj' W4 Dd (.deferred none)
      have kp : ∀ (a : Addr) (v : Value), W4.cell? a = some v → (W4.putObj Dd (.deferred none)).cell? a = some v := fun a v hv => cell_kept hv gp (fun r e => by cases e; exact ⟨_, hK', rfl⟩)
      have e0 := kp _ _ a0
      have e1 := kp _ _ a1
      have e2 := kp _ _ a2
      have e3 := kp _ _ a3
      have e4 := kp _ _ a4
      have e5 := kp _ _ a5
      rw [← HZ.out]
      unfold E4.v
      refine ⟨.tuple #[.agg #[.int .u64 z.x0, .int .u64 z.x1, .int .u64 z.x2, .int .u64 z.x3], .agg #[.int .i64 z1, .int .i64 z2]], ?_, z1, z2, rfl, B4.grown gp B4.size (fun j hj => by obtain rfl := Option.some.inj hj; omega)⟩
      simp [results, Tryz.results45, go_sem, e0, e1, e2, e3, e4, e5]
  case stop =>
    rintro Dd c pre W _ _ h _
    exact h.elim
end Go.Proofs.YtapieajkmpnmoaaGreatDoor.Li
namespace Go.Proofs.YtapieajkmpnmoaaGreatDoor
open Go.RowKit
set_option linter.unusedVariables false
set_option maxRecDepth 100000 in
set_option maxHeartbeats 8000000 in
theorem stands_F (R I g n cR cI cn : Nat) (w : World) (hn : 1 ≤ n) (hr : w.cell? ⟨R, 0, none⟩ = some (.slice (some ⟨g, 0, none⟩) n cn)) :
    Calls Tryz.prog 18 #[.agg #[.slice (some ⟨R, 0, none⟩) 1 cR, .slice (some ⟨I, 0, none⟩) 1 cI]] w fun e w' => e = .returned (.bool true) ∧ Below w.heap.size w w' := by
  have B0 := bl_alloc w (.cells #[.slice (some ⟨R, 0, none⟩) 1 cR, .slice (some ⟨I, 0, none⟩) 1 cI] 29)
  have e0 : (w.alloc (.cells #[.slice (some ⟨R, 0, none⟩) 1 cR, .slice (some ⟨I, 0, none⟩) 1 cI] 29)).cell? ⟨w.heap.size, 0, none⟩ = some (.slice (some ⟨R, 0, none⟩) 1 cR) := by go_simp
  have e1 : (w.alloc (.cells #[.slice (some ⟨R, 0, none⟩) 1 cR, .slice (some ⟨I, 0, none⟩) 1 cI] 29)).cell? ⟨w.heap.size, 1, none⟩ = some (.slice (some ⟨I, 0, none⟩) 1 cI) := by go_simp
  have r0 := cell_keep hr B0
  have n0 : ¬ (n : Int) = 0 := by omega
  have n1 : ¬ n = 0 := by omega
  clear hr
  go_enter Tryz.func18, Tryz.ntmps18
  go_upto_region 1 with fail
  generalize (w.alloc (.cells #[.slice (some ⟨R, 0, none⟩) 1 cR, .slice (some ⟨I, 0, none⟩) 1 cI] 29)) = w1 at *
  go_wp2_with fail
  go_loopw [21] (fun iv w' => ∃ i : Nat, i ≤ 1 ∧ iv = .int .i64 i ∧ w' = w1) (fun i _ => 1 - (intOf i).toNat)
  case atStart => exact ⟨0, by omega, rfl, rfl⟩
  case round =>
    obtain ⟨i, hi, rfl, rfl⟩ := hrel
    by_cases hin : i = 0
    · subst hin
      go_wp2_with fail
      go_roundw
      case rel => exact ⟨1, by omega, by go_num, by simp⟩
      case measure => simp [intOf]
    · obtain rfl : i = 1 := by omega
      go_wp2_with fail
      refine bodyPost_ret (v := .bool true) (by simp [results, Tryz.results18, go_sem]) rfl ⟨rfl, B0⟩
set_option maxRecDepth 100000 in
set_option maxHeartbeats 8000000 in
theorem fits_F (R I g n cR cI cn T cx : Nat) (Px : Option Addr) (w : World) (hn : 1 ≤ n) (hr : w.cell? ⟨R, 0, none⟩ = some (.slice (some ⟨g, 0, none⟩) n cn)) (ht : w.cell? ⟨T, 0, none⟩ = some (.slice Px n cx)) :
    Calls Tryz.prog 10 #[.agg #[.slice (some ⟨R, 0, none⟩) 1 cR, .slice (some ⟨I, 0, none⟩) 1 cI], .slice (some ⟨T, 0, none⟩) 1 1] w fun e w' => e = .returned (.bool true) ∧ Below w.heap.size w w' := by
  have B0 := bl_alloc w (.cells #[.slice (some ⟨R, 0, none⟩) 1 cR, .slice (some ⟨I, 0, none⟩) 1 cI] 29)
  have e0 : (w.alloc (.cells #[.slice (some ⟨R, 0, none⟩) 1 cR, .slice (some ⟨I, 0, none⟩) 1 cI] 29)).cell? ⟨w.heap.size, 0, none⟩ = some (.slice (some ⟨R, 0, none⟩) 1 cR) := by go_simp
  have e1 : (w.alloc (.cells #[.slice (some ⟨R, 0, none⟩) 1 cR, .slice (some ⟨I, 0, none⟩) 1 cI] 29)).cell? ⟨w.heap.size, 1, none⟩ = some (.slice (some ⟨I, 0, none⟩) 1 cI) := by go_simp
  have r0 := cell_keep hr B0
  have t0 := cell_keep ht B0
  have SC := hidden (stands_F R I g n cR cI cn (w.alloc (.cells #[.slice (some ⟨R, 0, none⟩) 1 cR, .slice (some ⟨I, 0, none⟩) 1 cI] 29)) hn r0)
  clear hr ht
  go_enter Tryz.func10, Tryz.ntmps10
  go_upto_region 1 with fail
  generalize (w.alloc (.cells #[.slice (some ⟨R, 0, none⟩) 1 cR, .slice (some ⟨I, 0, none⟩) 1 cI] 29)) = w1 at *
  go_wp2_with (first | (go_at_call 18; refine SC.out.mono ?_; rintro e wa ⟨rfl, ha⟩; have a0 := cell_keep e0 ha; have a1 := cell_keep r0 ha; have a2 := cell_keep t0 ha; have BA := hidden (bl_trans B0 ha); clear SC ha e0 e1 r0 t0))
  go_loopw [12] (fun iv w' => ∃ i : Nat, i ≤ 1 ∧ iv = .int .i64 i ∧ w' = wa) (fun i _ => 1 - (intOf i).toNat)
  case atStart => exact ⟨0, by omega, rfl, rfl⟩
  case round =>
    obtain ⟨i, hi, rfl, rfl⟩ := hrel
    by_cases hin : i = 0
    · subst hin
      go_wp2_with fail
      go_roundw
      case rel => exact ⟨1, by omega, by go_num, by simp⟩
      case measure => simp [intOf]
    · obtain rfl : i = 1 := by omega
      go_wp2_with fail
      refine bodyPost_ret (v := .bool true) (by simp [results, Tryz.results10, go_sem]) rfl ⟨rfl, BA.out⟩
set_option maxRecDepth 100000 in
set_option maxHeartbeats 8000000 in
theorem stands_L (R I g n cR cI cn : Nat) (w : World) (hn : 1 ≤ n) (hr : w.cell? ⟨R, 0, none⟩ = some (.slice (some ⟨g, 0, none⟩) n cn)) :
    Calls Tryz.prog 35 #[.agg #[.slice (some ⟨R, 0, none⟩) 1 cR, .slice (some ⟨I, 0, none⟩) 1 cI]] w fun e w' => e = .returned (.bool true) ∧ Below w.heap.size w w' := by
  have B0 := bl_alloc w (.cells #[.slice (some ⟨R, 0, none⟩) 1 cR, .slice (some ⟨I, 0, none⟩) 1 cI] 48)
  have e0 : (w.alloc (.cells #[.slice (some ⟨R, 0, none⟩) 1 cR, .slice (some ⟨I, 0, none⟩) 1 cI] 48)).cell? ⟨w.heap.size, 0, none⟩ = some (.slice (some ⟨R, 0, none⟩) 1 cR) := by go_simp
  have e1 : (w.alloc (.cells #[.slice (some ⟨R, 0, none⟩) 1 cR, .slice (some ⟨I, 0, none⟩) 1 cI] 48)).cell? ⟨w.heap.size, 1, none⟩ = some (.slice (some ⟨I, 0, none⟩) 1 cI) := by go_simp
  have r0 := cell_keep hr B0
  have n0 : ¬ (n : Int) = 0 := by omega
  have n1 : ¬ n = 0 := by omega
  clear hr
  go_enter Tryz.func35, Tryz.ntmps35
  go_upto_region 1 with fail
  generalize (w.alloc (.cells #[.slice (some ⟨R, 0, none⟩) 1 cR, .slice (some ⟨I, 0, none⟩) 1 cI] 48)) = w1 at *
  go_wp2_with fail
  go_loopw [21] (fun iv w' => ∃ i : Nat, i ≤ 1 ∧ iv = .int .i64 i ∧ w' = w1) (fun i _ => 1 - (intOf i).toNat)
  case atStart => exact ⟨0, by omega, rfl, rfl⟩
  case round =>
    obtain ⟨i, hi, rfl, rfl⟩ := hrel
    by_cases hin : i = 0
    · subst hin
      go_wp2_with fail
      go_roundw
      case rel => exact ⟨1, by omega, by go_num, by simp⟩
      case measure => simp [intOf]
    · obtain rfl : i = 1 := by omega
      go_wp2_with fail
      refine bodyPost_ret (v := .bool true) (by simp [results, Tryz.results35, go_sem]) rfl ⟨rfl, B0⟩
set_option maxRecDepth 100000 in
set_option maxHeartbeats 8000000 in
theorem fits_L (R I g n cR cI cn T cx : Nat) (Px : Option Addr) (w : World) (hn : 1 ≤ n) (hr : w.cell? ⟨R, 0, none⟩ = some (.slice (some ⟨g, 0, none⟩) n cn)) (ht : w.cell? ⟨T, 0, none⟩ = some (.slice Px n cx)) :
    Calls Tryz.prog 22 #[.agg #[.slice (some ⟨R, 0, none⟩) 1 cR, .slice (some ⟨I, 0, none⟩) 1 cI], .slice (some ⟨T, 0, none⟩) 1 1] w fun e w' => e = .returned (.bool true) ∧ Below w.heap.size w w' := by
  have B0 := bl_alloc w (.cells #[.slice (some ⟨R, 0, none⟩) 1 cR, .slice (some ⟨I, 0, none⟩) 1 cI] 48)
  have e0 : (w.alloc (.cells #[.slice (some ⟨R, 0, none⟩) 1 cR, .slice (some ⟨I, 0, none⟩) 1 cI] 48)).cell? ⟨w.heap.size, 0, none⟩ = some (.slice (some ⟨R, 0, none⟩) 1 cR) := by go_simp
  have e1 : (w.alloc (.cells #[.slice (some ⟨R, 0, none⟩) 1 cR, .slice (some ⟨I, 0, none⟩) 1 cI] 48)).cell? ⟨w.heap.size, 1, none⟩ = some (.slice (some ⟨I, 0, none⟩) 1 cI) := by go_simp
  have r0 := cell_keep hr B0
  have t0 := cell_keep ht B0
  have SC := hidden (stands_L R I g n cR cI cn (w.alloc (.cells #[.slice (some ⟨R, 0, none⟩) 1 cR, .slice (some ⟨I, 0, none⟩) 1 cI] 48)) hn r0)
  clear hr ht
  go_enter Tryz.func22, Tryz.ntmps22
  go_upto_region 1 with fail
  generalize (w.alloc (.cells #[.slice (some ⟨R, 0, none⟩) 1 cR, .slice (some ⟨I, 0, none⟩) 1 cI] 48)) = w1 at *
  go_wp2_with (first | (go_at_call 35; refine SC.out.mono ?_; rintro e wa ⟨rfl, ha⟩; have a0 := cell_keep e0 ha; have a1 := cell_keep r0 ha; have a2 := cell_keep t0 ha; have BA := hidden (bl_trans B0 ha); clear SC ha e0 e1 r0 t0))
  go_loopw [12] (fun iv w' => ∃ i : Nat, i ≤ 1 ∧ iv = .int .i64 i ∧ w' = wa) (fun i _ => 1 - (intOf i).toNat)
  case atStart => exact ⟨0, by omega, rfl, rfl⟩
  case round =>
    obtain ⟨i, hi, rfl, rfl⟩ := hrel
    by_cases hin : i = 0
    · subst hin
      go_wp2_with fail
      go_roundw
      case rel => exact ⟨1, by omega, by go_num, by simp⟩
      case measure => simp [intOf]
    · obtain rfl : i = 1 := by omega
      go_wp2_with fail
      refine bodyPost_ret (v := .bool true) (by simp [results, Tryz.results22, go_sem]) rfl ⟨rfl, BA.out⟩
set_option maxRecDepth 100000 in
set_option maxHeartbeats 8000000 in
theorem lSame_any (a b : E4) (w : World) (hT : Tb w) (ha : a.ok) (hb : b.ok) :
    Calls Tryz.prog 145 #[.agg #[.int .u64 a.x0, .int .u64 a.x1, .int .u64 a.x2, .int .u64 a.x3], .agg #[.int .u64 b.x0, .int .u64 b.x1, .int .u64 b.x2, .int .u64 b.x3]] w fun e w' => e = .returned (.bool ((lst a.n).same (lst b.n))) ∧ Below w.heap.size w w' := by
  have B0 := bl_alloc2 w (.cells #[.int .u64 a.x0, .int .u64 a.x1, .int .u64 a.x2, .int .u64 a.x3] 51) (.cells #[.int .u64 b.x0, .int .u64 b.x1, .int .u64 b.x2, .int .u64 b.x3] 51)
  have a0 : ((w.alloc (.cells #[.int .u64 a.x0, .int .u64 a.x1, .int .u64 a.x2, .int .u64 a.x3] 51)).alloc (.cells #[.int .u64 b.x0, .int .u64 b.x1, .int .u64 b.x2, .int .u64 b.x3] 51)).cell? ⟨w.heap.size, 0, none⟩ = some (.int .u64 a.x0) := by go_simp
  have a1 : ((w.alloc (.cells #[.int .u64 a.x0, .int .u64 a.x1, .int .u64 a.x2, .int .u64 a.x3] 51)).alloc (.cells #[.int .u64 b.x0, .int .u64 b.x1, .int .u64 b.x2, .int .u64 b.x3] 51)).cell? ⟨w.heap.size, 1, none⟩ = some (.int .u64 a.x1) := by go_simp
  have a2 : ((w.alloc (.cells #[.int .u64 a.x0, .int .u64 a.x1, .int .u64 a.x2, .int .u64 a.x3] 51)).alloc (.cells #[.int .u64 b.x0, .int .u64 b.x1, .int .u64 b.x2, .int .u64 b.x3] 51)).cell? ⟨w.heap.size, 2, none⟩ = some (.int .u64 a.x2) := by go_simp
  have a3 : ((w.alloc (.cells #[.int .u64 a.x0, .int .u64 a.x1, .int .u64 a.x2, .int .u64 a.x3] 51)).alloc (.cells #[.int .u64 b.x0, .int .u64 b.x1, .int .u64 b.x2, .int .u64 b.x3] 51)).cell? ⟨w.heap.size, 3, none⟩ = some (.int .u64 a.x3) := by go_simp
  have b0 : ((w.alloc (.cells #[.int .u64 a.x0, .int .u64 a.x1, .int .u64 a.x2, .int .u64 a.x3] 51)).alloc (.cells #[.int .u64 b.x0, .int .u64 b.x1, .int .u64 b.x2, .int .u64 b.x3] 51)).cell? ⟨w.heap.size + 1, 0, none⟩ = some (.int .u64 b.x0) := by go_simp
  have b1 : ((w.alloc (.cells #[.int .u64 a.x0, .int .u64 a.x1, .int .u64 a.x2, .int .u64 a.x3] 51)).alloc (.cells #[.int .u64 b.x0, .int .u64 b.x1, .int .u64 b.x2, .int .u64 b.x3] 51)).cell? ⟨w.heap.size + 1, 1, none⟩ = some (.int .u64 b.x1) := by go_simp
  have b2 : ((w.alloc (.cells #[.int .u64 a.x0, .int .u64 a.x1, .int .u64 a.x2, .int .u64 a.x3] 51)).alloc (.cells #[.int .u64 b.x0, .int .u64 b.x1, .int .u64 b.x2, .int .u64 b.x3] 51)).cell? ⟨w.heap.size + 1, 2, none⟩ = some (.int .u64 b.x2) := by go_simp
  have b3 : ((w.alloc (.cells #[.int .u64 a.x0, .int .u64 a.x1, .int .u64 a.x2, .int .u64 a.x3] 51)).alloc (.cells #[.int .u64 b.x0, .int .u64 b.x1, .int .u64 b.x2, .int .u64 b.x3] 51)).cell? ⟨w.heap.size + 1, 3, none⟩ = some (.int .u64 b.x3) := by go_simp
  have SP := hidden (Same_any a b ((w.alloc (.cells #[.int .u64 a.x0, .int .u64 a.x1, .int .u64 a.x2, .int .u64 a.x3] 51)).alloc (.cells #[.int .u64 b.x0, .int .u64 b.x1, .int .u64 b.x2, .int .u64 b.x3] 51)) (hT.keep B0) ha hb)
  generalize (lst a.n).same (lst b.n) = s at *
  unfold E4.v at SP
  go_enter Tryz.func145, Tryz.ntmps145
  go_upto_region 1 with fail
  generalize ((w.alloc (.cells #[.int .u64 a.x0, .int .u64 a.x1, .int .u64 a.x2, .int .u64 a.x3] 51)).alloc (.cells #[.int .u64 b.x0, .int .u64 b.x1, .int .u64 b.x2, .int .u64 b.x3] 51)) = w1 at *
  go_wp2_with (first | (go_at_call 5; refine SP.out.mono ?_; rintro e wa ⟨rfl, hc⟩; have BA := hidden (bl_trans B0 hc); clear hc SP))
  refine bodyPost_ret (v := .bool s) (by simp [results, Tryz.results145, go_sem]) rfl ⟨rfl, BA.out⟩
theorem mt_SameF (P : Option Addr) (n c : Nat) (w : World) : (method 318 32 (.agg #[.slice P n c]) "Same").run Tryz.prog w = .ok (132, .agg #[.slice P n c]) w := by kernel_rfl
set_option maxRecDepth 100000 in
set_option maxHeartbeats 8000000 in
theorem equal_F (A B cA cB : Nat) (P1 P2 : Option Addr) (n1 c1 n2 c2 : Nat) (b : Bool) (w : World) (ha : w.cell? ⟨A, 0, none⟩ = some (.slice P1 n1 c1)) (hb : w.cell? ⟨B, 0, none⟩ = some (.slice P2 n2 c2))
    (hS : ∀ x, Below w.heap.size w x → Calls Tryz.prog 132 #[.agg #[.slice P1 n1 c1], .agg #[.slice P2 n2 c2]] x fun e w' => e = .returned (.bool b) ∧ Below x.heap.size x w') :
    Calls Tryz.prog 16 #[.slice (some ⟨A, 0, none⟩) 1 cA, .slice (some ⟨B, 0, none⟩) 1 cB, .func (.methodOf 32 "Same") #[] #[]] w fun e w' => e = .returned (.bool b) ∧ Below w.heap.size w w' := by
  have B2 := bl_alloc2 w (.cells #[.slice P1 n1 c1] 32) (.cells #[.slice P2 n2 c2] 32)
  have CS := hidden (hS ((w.alloc (.cells #[.slice P1 n1 c1] 32)).alloc (.cells #[.slice P2 n2 c2] 32)) B2)
  have m1 := mt_SameF P1 n1 c1
  have kha := cell_keep ha (bl_alloc w (.cells #[.slice P1 n1 c1] 32))
  have khb := cell_keep hb (bl_alloc w (.cells #[.slice P1 n1 c1] 32))
  clear hS
  go_enter Tryz.func16, Tryz.ntmps16
  go_wp2_with fail
  go_loopw [17] (fun iv w' => ∃ i : Nat, (i = 0 ∧ w' = w ∨ i = 1 ∧ b = true ∧ Hid (Below w.heap.size w w')) ∧ iv = .int .i64 i) (fun i _ => 1 - (intOf i).toNat)
  case atStart => exact ⟨0, .inl ⟨rfl, rfl⟩, rfl⟩
  case round =>
    obtain ⟨i, ⟨rfl, rfl⟩ | ⟨rfl, hb1, BW⟩, rfl⟩ := hrel
    · cases b with
      | true =>
        go_wp2_with (first | (go_at_call 132; refine CS.out.mono ?_; rintro e wa ⟨rfl, hc⟩; have BA := hidden (bl_trans B2 hc); clear hc CS))
        go_roundw
        case rel => exact ⟨1, .inr ⟨rfl, by simp, BA⟩, by go_num⟩
        case measure => simp [intOf]
      | false =>
        go_wp2_with (first | (go_at_call 132; refine CS.out.mono ?_; rintro e wa ⟨rfl, hc⟩; have BA := hidden (bl_trans B2 hc); clear hc CS))
        refine bodyPost_ret (v := .bool false) (by simp [results, Tryz.results16, go_sem]) rfl ⟨rfl, BA.out⟩
    · subst hb1
      go_wp2_with fail
      refine bodyPost_ret (v := .bool true) (by simp [results, Tryz.results16, go_sem]) rfl ⟨rfl, BW.out⟩
theorem mt_SameL (p : E4) (w : World) : (method 318 51 (.agg #[.int .u64 p.x0, .int .u64 p.x1, .int .u64 p.x2, .int .u64 p.x3]) "Same").run Tryz.prog w = .ok (145, .agg #[.int .u64 p.x0, .int .u64 p.x1, .int .u64 p.x2, .int .u64 p.x3]) w := by kernel_rfl
set_option maxRecDepth 100000 in
set_option maxHeartbeats 8000000 in
theorem equal_L (A B cA cB : Nat) (p q : E4) (b : Bool) (w : World) (ha0 : w.cell? ⟨A, 0, none⟩ = some (.int .u64 p.x0)) (ha1 : w.cell? ⟨A, 1, none⟩ = some (.int .u64 p.x1)) (ha2 : w.cell? ⟨A, 2, none⟩ = some (.int .u64 p.x2)) (ha3 : w.cell? ⟨A, 3, none⟩ = some (.int .u64 p.x3)) (hb0 : w.cell? ⟨B, 0, none⟩ = some (.int .u64 q.x0)) (hb1 : w.cell? ⟨B, 1, none⟩ = some (.int .u64 q.x1)) (hb2 : w.cell? ⟨B, 2, none⟩ = some (.int .u64 q.x2)) (hb3 : w.cell? ⟨B, 3, none⟩ = some (.int .u64 q.x3))
    (hS : ∀ x, Below w.heap.size w x → Calls Tryz.prog 145 #[.agg #[.int .u64 p.x0, .int .u64 p.x1, .int .u64 p.x2, .int .u64 p.x3], .agg #[.int .u64 q.x0, .int .u64 q.x1, .int .u64 q.x2, .int .u64 q.x3]] x fun e w' => e = .returned (.bool b) ∧ Below x.heap.size x w') :
    Calls Tryz.prog 27 #[.slice (some ⟨A, 0, none⟩) 1 cA, .slice (some ⟨B, 0, none⟩) 1 cB, .func (.methodOf 51 "Same") #[] #[]] w fun e w' => e = .returned (.bool b) ∧ Below w.heap.size w w' := by
  have B2 := bl_alloc2 w (.cells #[.int .u64 p.x0, .int .u64 p.x1, .int .u64 p.x2, .int .u64 p.x3] 51) (.cells #[.int .u64 q.x0, .int .u64 q.x1, .int .u64 q.x2, .int .u64 q.x3] 51)
  have CS := hidden (hS ((w.alloc (.cells #[.int .u64 p.x0, .int .u64 p.x1, .int .u64 p.x2, .int .u64 p.x3] 51)).alloc (.cells #[.int .u64 q.x0, .int .u64 q.x1, .int .u64 q.x2, .int .u64 q.x3] 51)) B2)
  have m1 := mt_SameL p
  have kha0 := cell_keep ha0 (bl_alloc w (.cells #[.int .u64 p.x0, .int .u64 p.x1, .int .u64 p.x2, .int .u64 p.x3] 51))
  have kha1 := cell_keep ha1 (bl_alloc w (.cells #[.int .u64 p.x0, .int .u64 p.x1, .int .u64 p.x2, .int .u64 p.x3] 51))
  have kha2 := cell_keep ha2 (bl_alloc w (.cells #[.int .u64 p.x0, .int .u64 p.x1, .int .u64 p.x2, .int .u64 p.x3] 51))
  have kha3 := cell_keep ha3 (bl_alloc w (.cells #[.int .u64 p.x0, .int .u64 p.x1, .int .u64 p.x2, .int .u64 p.x3] 51))
  have khb0 := cell_keep hb0 (bl_alloc w (.cells #[.int .u64 p.x0, .int .u64 p.x1, .int .u64 p.x2, .int .u64 p.x3] 51))
  have khb1 := cell_keep hb1 (bl_alloc w (.cells #[.int .u64 p.x0, .int .u64 p.x1, .int .u64 p.x2, .int .u64 p.x3] 51))
  have khb2 := cell_keep hb2 (bl_alloc w (.cells #[.int .u64 p.x0, .int .u64 p.x1, .int .u64 p.x2, .int .u64 p.x3] 51))
  have khb3 := cell_keep hb3 (bl_alloc w (.cells #[.int .u64 p.x0, .int .u64 p.x1, .int .u64 p.x2, .int .u64 p.x3] 51))
  clear hS
  go_enter Tryz.func27, Tryz.ntmps27
  go_wp2_with fail
  go_loopw [17] (fun iv w' => ∃ i : Nat, (i = 0 ∧ w' = w ∨ i = 1 ∧ b = true ∧ Hid (Below w.heap.size w w')) ∧ iv = .int .i64 i) (fun i _ => 1 - (intOf i).toNat)
  case atStart => exact ⟨0, .inl ⟨rfl, rfl⟩, rfl⟩
  case round =>
    obtain ⟨i, ⟨rfl, rfl⟩ | ⟨rfl, hb1, BW⟩, rfl⟩ := hrel
    · cases b with
      | true =>
        go_wp2_with (first | (go_at_call 145; refine CS.out.mono ?_; rintro e wa ⟨rfl, hc⟩; have BA := hidden (bl_trans B2 hc); clear hc CS))
        go_roundw
        case rel => exact ⟨1, .inr ⟨rfl, by simp, BA⟩, by go_num⟩
        case measure => simp [intOf]
      | false =>
        go_wp2_with (first | (go_at_call 145; refine CS.out.mono ?_; rintro e wa ⟨rfl, hc⟩; have BA := hidden (bl_trans B2 hc); clear hc CS))
        refine bodyPost_ret (v := .bool false) (by simp [results, Tryz.results27, go_sem]) rfl ⟨rfl, BA.out⟩
    · subst hb1
      go_wp2_with fail
      refine bodyPost_ret (v := .bool true) (by simp [results, Tryz.results27, go_sem]) rfl ⟨rfl, BW.out⟩
end Go.Proofs.YtapieajkmpnmoaaGreatDoor
namespace Go.Proofs.YtapieajkmpnmoaaGreatDoor.Li
open Go.RowKit
set_option linter.unusedVariables false
/-- the cells of a list of terms -/
def tvl (K G : Nat → E4) (j : Nat) : Value := if j % 8 = 0 then .int .u64 (K (j / 8)).x0 else if j % 8 = 1 then .int .u64 (K (j / 8)).x1 else if j % 8 = 2 then .int .u64 (K (j / 8)).x2 else if j % 8 = 3 then .int .u64 (K (j / 8)).x3 else if j % 8 = 4 then .int .u64 (G (j / 8)).x0 else if j % 8 = 5 then .int .u64 (G (j / 8)).x1 else if j % 8 = 6 then .int .u64 (G (j / 8)).x2 else .int .u64 (G (j / 8)).x3
theorem tvl0 (K G : Nat → E4) (k : Nat) : tvl K G (k * 8) = .int .u64 (K k).x0 := by unfold tvl; rw [if_pos (by omega), show (k * 8) / 8 = k by omega]
theorem tvl1 (K G : Nat → E4) (k : Nat) : tvl K G (k * 8 + 1) = .int .u64 (K k).x1 := by unfold tvl; rw [if_neg (by omega), if_pos (by omega), show (k * 8 + 1) / 8 = k by omega]
theorem tvl2 (K G : Nat → E4) (k : Nat) : tvl K G (k * 8 + 2) = .int .u64 (K k).x2 := by unfold tvl; rw [if_neg (by omega), if_neg (by omega), if_pos (by omega), show (k * 8 + 2) / 8 = k by omega]
theorem tvl3 (K G : Nat → E4) (k : Nat) : tvl K G (k * 8 + 3) = .int .u64 (K k).x3 := by unfold tvl; rw [if_neg (by omega), if_neg (by omega), if_neg (by omega), if_pos (by omega), show (k * 8 + 3) / 8 = k by omega]
theorem tvl4 (K G : Nat → E4) (k : Nat) : tvl K G (k * 8 + 4) = .int .u64 (G k).x0 := by unfold tvl; rw [if_neg (by omega), if_neg (by omega), if_neg (by omega), if_neg (by omega), if_pos (by omega), show (k * 8 + 4) / 8 = k by omega]
theorem tvl5 (K G : Nat → E4) (k : Nat) : tvl K G (k * 8 + 5) = .int .u64 (G k).x1 := by unfold tvl; rw [if_neg (by omega), if_neg (by omega), if_neg (by omega), if_neg (by omega), if_neg (by omega), if_pos (by omega), show (k * 8 + 5) / 8 = k by omega]
theorem tvl6 (K G : Nat → E4) (k : Nat) : tvl K G (k * 8 + 6) = .int .u64 (G k).x2 := by unfold tvl; rw [if_neg (by omega), if_neg (by omega), if_neg (by omega), if_neg (by omega), if_neg (by omega), if_neg (by omega), if_pos (by omega), show (k * 8 + 6) / 8 = k by omega]
theorem tvl7 (K G : Nat → E4) (k : Nat) : tvl K G (k * 8 + 7) = .int .u64 (G k).x3 := by unfold tvl; rw [if_neg (by omega), if_neg (by omega), if_neg (by omega), if_neg (by omega), if_neg (by omega), if_neg (by omega), if_neg (by omega), show (k * 8 + 7) / 8 = k by omega]
theorem tvl_step (K G : Nat → E4) (f : Nat → Value) (k : Nat) (h : ∀ j, j < k * 8 → f j = tvl K G j) (j : Nat) (hj : j < (k + 1) * 8) : (if j = k * 8 + 7 then .int .u64 (G k).x3 else if j = k * 8 + 6 then .int .u64 (G k).x2 else if j = k * 8 + 5 then .int .u64 (G k).x1 else if j = k * 8 + 4 then .int .u64 (G k).x0 else if j = k * 8 + 3 then .int .u64 (K k).x3 else if j = k * 8 + 2 then .int .u64 (K k).x2 else if j = k * 8 + 1 then .int .u64 (K k).x1 else if j = k * 8 then .int .u64 (K k).x0 else f j) = tvl K G j := by
  by_cases e7 : j = k * 8 + 7
  · rw [if_pos e7, e7, tvl7]
  · rw [if_neg e7]
    by_cases e6 : j = k * 8 + 6
    · rw [if_pos e6, e6, tvl6]
    · rw [if_neg e6]
      by_cases e5 : j = k * 8 + 5
      · rw [if_pos e5, e5, tvl5]
      · rw [if_neg e5]
        by_cases e4 : j = k * 8 + 4
        · rw [if_pos e4, e4, tvl4]
        · rw [if_neg e4]
          by_cases e3 : j = k * 8 + 3
          · rw [if_pos e3, e3, tvl3]
          · rw [if_neg e3]
            by_cases e2 : j = k * 8 + 2
            · rw [if_pos e2, e2, tvl2]
            · rw [if_neg e2]
              by_cases e1 : j = k * 8 + 1
              · rw [if_pos e1, e1, tvl1]
              · rw [if_neg e1]
                by_cases e0 : j = k * 8
                · rw [if_pos e0, e0, tvl0]
                · rw [if_neg e0]
                  exact h j (by omega)
theorem tinfoL : (Tryz.prog.info? 93).map (fun i => (i.zero, i.size, i.bytes)) = some (some (.agg #[.int .u64 0, .int .u64 0, .int .u64 0, .int .u64 0, .int .u64 0, .int .u64 0, .int .u64 0, .int .u64 0]), 8, 64) := by kernel_rfl
set_option maxRecDepth 100000 in
set_option maxHeartbeats 16000000 in
theorem zip_any (P0 : Option Addr) (g L c0 c1 : Nat) (K G : Nat → E4) (w : World) (hL : L ≤ 64) (h0 : Lm w P0 L K) (h1 : Rl w g 0 L G) :
    Calls Tryz.prog 36 #[.slice P0 L c0, .slice (some ⟨g, 0, none⟩) L c1] w fun e w' => ∃ t : Nat, e = .returned (.tuple #[.slice (some ⟨t, 0, none⟩) L L, .int .i64 0]) ∧ w.heap.size ≤ t ∧ w'.rowIs t 93 (L * 8) (tvl K G) ∧ Below w.heap.size w w' := by
  have H0 := hidden h0
  have H1 := hidden h1
  have HL := hidden hL
  have nn0 : (0 : Int) ≤ (L : Int) := by omega
  obtain ⟨i0, hi, hz0, hz1, hz2⟩ := info_parts tinfoL
  have hmk := fun w => run_make (P := Tryz.prog) w 86 93 i0 (.agg #[.int .u64 0, .int .u64 0, .int .u64 0, .int .u64 0, .int .u64 0, .int .u64 0, .int .u64 0, .int .u64 0]) (by kernel_rfl) hi hz0 .i64 .i64 (L : Int) (L : Int) (by omega) (Int.le_refl _) (by rw [hz2]; omega) (by omega)
  simp only [Int.toNat_natCast, hz1, Value.cells] at hmk
  have R0 : Hid (∃ f, (w.alloc (.cells (madeCells #[.int .u64 0, .int .u64 0, .int .u64 0, .int .u64 0, .int .u64 0, .int .u64 0, .int .u64 0, .int .u64 0] (L * 8)) 93)).rowIs w.heap.size 93 (L * 8) f) := hidden ⟨fun j => (madeCells #[.int .u64 0, .int .u64 0, .int .u64 0, .int .u64 0, .int .u64 0, .int .u64 0, .int .u64 0, .int .u64 0] (L * 8)).getD j undef, _, heap_alloc_new w _, by simp [size_madeCells], fun i hi => by
    have : i < (madeCells #[.int .u64 0, .int .u64 0, .int .u64 0, .int .u64 0, .int .u64 0, .int .u64 0, .int .u64 0, .int .u64 0] (L * 8)).size := by simp [size_madeCells]; omega
    simp [Array.getD, this]⟩
  have B0 := hidden (bl_alloc w (.cells (madeCells #[.int .u64 0, .int .u64 0, .int .u64 0, .int .u64 0, .int .u64 0, .int .u64 0, .int .u64 0, .int .u64 0] (L * 8)) 93))
  clear h0 h1 hL hi hz0 hz1 hz2
  go_enter Tryz.func36, Tryz.ntmps36
  go_wp2_with fail
  clear hmk
  go_loopw [18] (fun kv w' => ∃ (k : Nat) (f : Nat → Value), k ≤ L ∧ kv = .int .i64 (k : Int) ∧ Hid (∀ j, j < k * 8 → f j = tvl K G j) ∧ Hid (w'.rowIs w.heap.size 93 (L * 8) f) ∧ Hid (Below w.heap.size w w')) (fun k _ => L - (intOf k).toNat)
  case atStart => obtain ⟨f, hf⟩ := R0.out; exact ⟨0, f, by omega, rfl, hidden (fun j hj => absurd hj (by omega)), hidden hf, B0⟩
  case round =>
    clear R0 B0
    obtain ⟨k, f, hk, rfl, hq, hR, hB⟩ := hrel
    by_cases hkn : k < L
    · have k0 : (0 : Int) ≤ (k : Int) := by omega
      have k1 : (k : Int) < (L : Int) := by omega
      have w9 : IntKind.i64.wrap ((k : Int) + 1) = (k : Int) + 1 := IntWalk.i64_in _ (by have := HL.out; omega)
      have bd := bl_trans hB.out (drew_blW wr)
      obtain ⟨sb, so, h1, h2⟩ := H0.out
      obtain rfl := h1 (by omega)
      have rx := (h2 (by omega)).keep bd
      have ry := H1.out.keep bd
      have x0 := rx.c0 k hkn; have x1 := rx.c1 k hkn; have x2 := rx.c2 k hkn; have x3 := rx.c3 k hkn
      have y0 := ry.c0 k hkn; have y1 := ry.c1 k hkn; have y2 := ry.c2 k hkn; have y3 := ry.c3 k hkn
      rw [Nat.zero_add] at y0 y1 y2 y3
      have rt := hR.out.drew
      have d0 := rt.cell (show k * 8 < L * 8 by omega)
      have b0 := hR.out.cell (show k * 8 < L * 8 by omega)
      have f0 := rt.frozen (k * 8)
      have q0 := hR.out.frozen (k * 8)
      have d1 := rt.cell (show k * 8 + 1 < L * 8 by omega)
      have b1 := hR.out.cell (show k * 8 + 1 < L * 8 by omega)
      have f1 := rt.frozen (k * 8 + 1)
      have q1 := hR.out.frozen (k * 8 + 1)
      have d2 := rt.cell (show k * 8 + 2 < L * 8 by omega)
      have b2 := hR.out.cell (show k * 8 + 2 < L * 8 by omega)
      have f2 := rt.frozen (k * 8 + 2)
      have q2 := hR.out.frozen (k * 8 + 2)
      have d3 := rt.cell (show k * 8 + 3 < L * 8 by omega)
      have b3 := hR.out.cell (show k * 8 + 3 < L * 8 by omega)
      have f3 := rt.frozen (k * 8 + 3)
      have q3 := hR.out.frozen (k * 8 + 3)
      have d4 := rt.cell (show k * 8 + 4 < L * 8 by omega)
      have b4 := hR.out.cell (show k * 8 + 4 < L * 8 by omega)
      have f4 := rt.frozen (k * 8 + 4)
      have q4 := hR.out.frozen (k * 8 + 4)
      have d5 := rt.cell (show k * 8 + 5 < L * 8 by omega)
      have b5 := hR.out.cell (show k * 8 + 5 < L * 8 by omega)
      have f5 := rt.frozen (k * 8 + 5)
      have q5 := hR.out.frozen (k * 8 + 5)
      have d6 := rt.cell (show k * 8 + 6 < L * 8 by omega)
      have b6 := hR.out.cell (show k * 8 + 6 < L * 8 by omega)
      have f6 := rt.frozen (k * 8 + 6)
      have q6 := hR.out.frozen (k * 8 + 6)
      have d7 := rt.cell (show k * 8 + 7 < L * 8 by omega)
      have b7 := hR.out.cell (show k * 8 + 7 < L * 8 by omega)
      have f7 := rt.frozen (k * 8 + 7)
      have q7 := hR.out.frozen (k * 8 + 7)
      have YR := hidden ((((((((hR.out.set (k * 8) (.int .u64 (K k).x0)).set (k * 8 + 1) (.int .u64 (K k).x1)).set (k * 8 + 2) (.int .u64 (K k).x2)).set (k * 8 + 3) (.int .u64 (K k).x3)).set (k * 8 + 4) (.int .u64 (G k).x0)).set (k * 8 + 5) (.int .u64 (G k).x1)).set (k * 8 + 6) (.int .u64 (G k).x2)).set (k * 8 + 7) (.int .u64 (G k).x3)).drew
      have YB := hidden (bl_trans ((((((((hB.out.setCell (p := ⟨w.heap.size, k * 8, none⟩) (Nat.le_refl _) (.int .u64 (K k).x0)).setCell (p := ⟨w.heap.size, k * 8 + 1, none⟩) (Nat.le_refl _) (.int .u64 (K k).x1)).setCell (p := ⟨w.heap.size, k * 8 + 2, none⟩) (Nat.le_refl _) (.int .u64 (K k).x2)).setCell (p := ⟨w.heap.size, k * 8 + 3, none⟩) (Nat.le_refl _) (.int .u64 (K k).x3)).setCell (p := ⟨w.heap.size, k * 8 + 4, none⟩) (Nat.le_refl _) (.int .u64 (G k).x0)).setCell (p := ⟨w.heap.size, k * 8 + 5, none⟩) (Nat.le_refl _) (.int .u64 (G k).x1)).setCell (p := ⟨w.heap.size, k * 8 + 6, none⟩) (Nat.le_refl _) (.int .u64 (G k).x2)).setCell (p := ⟨w.heap.size, k * 8 + 7, none⟩) (Nat.le_refl _) (.int .u64 (G k).x3)) (drew_blW _))
      have NQ := hidden (tvl_step K G f k hq.out)
      generalize K k = a at x0 x1 x2 x3 YR YB NQ
      generalize G k = c at y0 y1 y2 y3 YR YB NQ
      generalize f (k * 8) = e0 at *
      generalize f (k * 8 + 1) = e1 at *
      generalize f (k * 8 + 2) = e2 at *
      generalize f (k * 8 + 3) = e3 at *
      generalize f (k * 8 + 4) = e4 at *
      generalize f (k * 8 + 5) = e5 at *
      generalize f (k * 8 + 6) = e6 at *
      generalize f (k * 8 + 7) = e7 at *
      clear h1 h2 rx ry rt hR hB hq bd
      go_upto_region 7 with fail
      go_region_with fail
      all_goals
        clear x0 x1 x2 x3 y0 y1 y2 y3 d0 b0 f0 q0 d1 b1 f1 q1 d2 b2 f2 q2 d3 b3 f3 q3 d4 b4 f4 q4 d5 b5 f5 q5 d6 b6 f6 q6 d7 b7 f7 q7
        go_wp2_with fail
        go_roundw
        case rel => exact ⟨k + 1, _, by omega, by go_num, NQ, YR, YB⟩
        case measure => simp [intOf]; omega
    · obtain rfl : k = L := by omega
      have RR := hR.out
      go_wp2_with fail
      refine bodyPost_ret (v := .tuple #[.slice (some ⟨w.heap.size, 0, none⟩) k k, .int .i64 0]) (by simp [results, Tryz.results36, go_sem]) rfl ⟨w.heap.size, rfl, Nat.le_refl _, RR.congr (fun i hi => hq.out i hi), hB.out⟩
set_option maxRecDepth 100000 in
set_option maxHeartbeats 8000000 in
theorem total_any (L lo N cap : Nat) (ks : Nat → E4) (fs : Nat → Nat → Int) (w : World) (hN0 : 2 ≤ N) (hN : N ≤ 50) (hcap : N ≤ cap) (hT : Tb w) (hTm : Tm w L lo N ks fs) :
    Calls Tryz.prog 37 #[.slice (some ⟨L, lo, none⟩) N cap] w fun e w' => e = .returned (lst (tot (fun q => (ks q).n * fs q 0) N)).v ∧ Below w.heap.size w w' := by
  have B1 := bl_alloc w (.cells #[.int .u64 0, .int .u64 0, .int .u64 0, .int .u64 0] 51)
  have a0 : (w.alloc (.cells #[.int .u64 0, .int .u64 0, .int .u64 0, .int .u64 0] 51)).cell? ⟨w.heap.size, 0, none⟩ = some (.int .u64 0) := by go_simp
  have z0 : (w.alloc (.cells #[.int .u64 0, .int .u64 0, .int .u64 0, .int .u64 0] 51)).frozen? ⟨w.heap.size, 0, none⟩ = false := by go_simp
  have a1 : (w.alloc (.cells #[.int .u64 0, .int .u64 0, .int .u64 0, .int .u64 0] 51)).cell? ⟨w.heap.size, 1, none⟩ = some (.int .u64 0) := by go_simp
  have zz1 : (w.alloc (.cells #[.int .u64 0, .int .u64 0, .int .u64 0, .int .u64 0] 51)).frozen? ⟨w.heap.size, 1, none⟩ = false := by go_simp
  have a2 : (w.alloc (.cells #[.int .u64 0, .int .u64 0, .int .u64 0, .int .u64 0] 51)).cell? ⟨w.heap.size, 2, none⟩ = some (.int .u64 0) := by go_simp
  have zz2 : (w.alloc (.cells #[.int .u64 0, .int .u64 0, .int .u64 0, .int .u64 0] 51)).frozen? ⟨w.heap.size, 2, none⟩ = false := by go_simp
  have a3 : (w.alloc (.cells #[.int .u64 0, .int .u64 0, .int .u64 0, .int .u64 0] 51)).cell? ⟨w.heap.size, 3, none⟩ = some (.int .u64 0) := by go_simp
  have z3 : (w.alloc (.cells #[.int .u64 0, .int .u64 0, .int .u64 0, .int .u64 0] 51)).frozen? ⟨w.heap.size, 3, none⟩ = false := by go_simp
  have SM := hidden (fsum_any L lo N cap ks fs (w.alloc (.cells #[.int .u64 0, .int .u64 0, .int .u64 0, .int .u64 0] 51)) (by omega) hN hcap (hT.keep B1) (hTm.keep B1))
  have n1 : ¬ (N : Int) = 1 := by omega
  obtain ⟨r, hr⟩ : ∃ r, lst (tot (fun q => (ks q).n * fs q 0) N) = r := ⟨_, rfl⟩
  rw [hr] at SM ⊢
  unfold E4.v at SM ⊢
  clear hTm hT hr
  go_enter Tryz.func37, Tryz.ntmps37
  go_upto_region 1 with fail
  generalize (w.alloc (.cells #[.int .u64 0, .int .u64 0, .int .u64 0, .int .u64 0] 51)) = w1 at *
  go_wp2_with (first | (go_at_call 45; refine SM.out.mono ?_; rintro e wc ⟨z1, z2, rfl, hc⟩; have ga := bl_alloc2 wc (.cells #[.int .u64 r.x0, .int .u64 r.x1, .int .u64 r.x2, .int .u64 r.x3] 51) (.cells #[.int .i64 z1, .int .i64 z2] 83); have BX := bl_trans hc ga; have lt := World.block_lt_of_cell? _ _ a0; have c0 := cell_keep a0 BX; have c1 := cell_keep a1 BX; have c2 := cell_keep a2 BX; have c3 := cell_keep a3 BX; have y0 := ((bcell BX).2 _ 0 lt).trans z0; have y1 := ((bcell BX).2 _ 1 lt).trans zz1; have y2 := ((bcell BX).2 _ 2 lt).trans zz2; have y3 := ((bcell BX).2 _ 3 lt).trans z3; have HX := hidden BX; clear hc ga BX SM lt a0 a1 a2 a3 z0 zz1 zz2 z3))
  refine bodyPost_ret (v := .agg #[.int .u64 r.x0, .int .u64 r.x1, .int .u64 r.x2, .int .u64 r.x3]) (by simp [results, Tryz.results37, go_sem, c0, c1, c2, c3]) rfl ⟨rfl, ((((bl_trans B1 HX.out).setCell (Nat.le_refl _) _).setCell (Nat.le_refl _) _).setCell (Nat.le_refl _) _).setCell (Nat.le_refl _) _⟩
end Go.Proofs.YtapieajkmpnmoaaGreatDoor.Li
namespace Go.Proofs.YtapieajkmpnmoaaGreatDoor
open Go.RowKit
set_option maxRecDepth 100000 in
set_option maxHeartbeats 8000000 in
theorem total_F (L lo N cap : Nat) (ks : Nat → E4) (fs : Nat → Nat → Int) (w : World) (hN0 : 2 ≤ N) (hN : N ≤ 50) (hcap : N ≤ cap) (hT : Tb w) (hTm : Tm w L lo N ks fs) :
    Calls Tryz.prog 20 #[.slice (some ⟨L, lo, none⟩) N cap] w fun e w' => FqL w w' e (fun t => tot (fun q => (ks q).n * fs q t) N) := by
  have B1 := bl_alloc w (.cells #[.slice none 0 0] 32)
  have a0 : (w.alloc (.cells #[.slice none 0 0] 32)).cell? ⟨w.heap.size, 0, none⟩ = some (.slice none 0 0) := by go_simp
  have z0 : (w.alloc (.cells #[.slice none 0 0] 32)).frozen? ⟨w.heap.size, 0, none⟩ = false := by go_simp
  have SM := hidden (fsum_any L lo N cap ks fs (w.alloc (.cells #[.slice none 0 0] 32)) (by omega) hN hcap (hT.keep B1) (hTm.keep B1))
  have n1 : ¬ (N : Int) = 1 := by omega
  have SZ : (w.alloc (.cells #[.slice none 0 0] 32)).heap.size = w.heap.size + 1 := by simp only [World.size_alloc]
  clear hTm hT
  go_enter Tryz.func20, Tryz.ntmps20
  go_upto_region 1 with fail
  generalize (w.alloc (.cells #[.slice none 0 0] 32)) = w1 at *
  go_wp2_with (first | (go_at_call 33; refine SM.out.mono ?_; rintro e wc ⟨A, m, c, z1, z2, rfl, hA, hF, hc⟩; have ga := bl_alloc2 wc (.cells #[.slice (some ⟨A, 0, none⟩) m c] 32) (.cells #[.int .i64 z1, .int .i64 z2] 83); have BX := bl_trans hc ga; have lt := World.block_lt_of_cell? _ _ a0; have c0 := cell_keep a0 BX; have y0 := ((bcell BX).2 _ 0 lt).trans z0; have HX := hidden BX; have FX := hidden (hF.keep ga); have HA := hidden hA; clear hc ga BX SM lt a0 z0 hF hA))
  refine bodyPost_ret (v := .agg #[.slice (some ⟨A, 0, none⟩) m c]) (by simp [results, Tryz.results20, go_sem, c0]) rfl ⟨A, m, c, rfl, by have := HA.out; omega, FX.out.keepG w.heap.size (gb_set _ _ _ _) ?_, (bl_trans B1 HX.out).setCell (Nat.le_refl _) _⟩
  rintro P n c hP _ a rfl
  simp only [Value.agg.injEq, Array.mk.injEq, List.cons.injEq, Value.slice.injEq, Option.some.injEq, and_true] at hP
  obtain ⟨rfl, _⟩ := hP
  have := HA.out
  simp only
  omega
end Go.Proofs.YtapieajkmpnmoaaGreatDoor
namespace Go.Proofs.YtapieajkmpnmoaaGreatDoor
open Go.RowKit
set_option linter.unusedVariables false
def si6o : Array Oper := #[{ dst := some 29, op := Op.move (Operand.tmp 3), type := 27, pos := "sigma.go:111", after := #[], guard := none },
  { dst := some 30, op := Op.move (Operand.tmp 4), type := 3, pos := "sigma.go:111", after := #[], guard := none },
  { dst := some 31, op := Op.move (Operand.tmp 6), type := 63, pos := "sigma.go:111", after := #[], guard := none },
  { dst := some 32, op := Op.fieldAddr 43 (Operand.tmp 1) 1, type := 0, pos := "sigma.go:111", after := #[], guard := none },
  { dst := some 33, op := Op.load 25 (Operand.tmp 32), type := 25, pos := "sigma.go:111", after := #[{ on := 3, ground := Ground.data }], guard := none },
  { dst := some 34, op := Op.call { callee := Callee.value (Operand.func 21), args := #[Operand.tmp 33], argTypes := #[25] }, type := 25, pos := "sigma.go:111", after := #[{ on := 4, ground := Ground.data }], guard := none },
  { dst := some 35, op := Op.fieldAddr 43 (Operand.tmp 1) 0, type := 0, pos := "sigma.go:111", after := #[], guard := none },
  { dst := some 36, op := Op.fieldAddr 29 (Operand.tmp 35) 1, type := 0, pos := "sigma.go:111", after := #[{ on := 6, ground := Ground.data }], guard := none },
  { dst := some 37, op := Op.load 27 (Operand.tmp 36), type := 27, pos := "sigma.go:111", after := #[{ on := 7, ground := Ground.data }], guard := none },
  { dst := some 38, op := Op.move (Operand.tmp 4), type := 3, pos := "sigma.go:111", after := #[], guard := none },
  { dst := some 39, op := Op.indexAddr 27 (Operand.tmp 37) (Operand.tmp 38), type := 0, pos := "sigma.go:111", after := #[{ on := 8, ground := Ground.data }, { on := 9, ground := Ground.data }], guard := none },
  { dst := some 40, op := Op.load 32 (Operand.tmp 39), type := 32, pos := "sigma.go:111", after := #[{ on := 10, ground := Ground.data }], guard := none },
  { dst := some 41, op := Op.build 68 #[(0, Operand.tmp 34), (1, Operand.tmp 40)], type := 68, pos := "sigma.go:111", after := #[{ on := 5, ground := Ground.data }, { on := 11, ground := Ground.data }], guard := none },
  { dst := some 42, op := Op.buildSlice 63 1 #[(0, Operand.tmp 41)], type := 63, pos := "sigma.go:111", after := #[{ on := 12, ground := Ground.data }], guard := none },
  { dst := some 43, op := Op.call { callee := Callee.builtin Builtin.append, args := #[Operand.tmp 31, Operand.tmp 42], argTypes := #[63, 63] }, type := 63, pos := "sigma.go:111", after := #[{ on := 2, ground := Ground.data }, { on := 13, ground := Ground.data }, { on := 5, ground := Ground.chain }], guard := none },
  { dst := some 44, op := Op.call { callee := Callee.value (Operand.func 20), args := #[Operand.tmp 43], argTypes := #[63] }, type := 32, pos := "sigma.go:111", after := #[{ on := 14, ground := Ground.data }, { on := 14, ground := Ground.chain }], guard := none },
  { dst := some 45, op := Op.indexAddr 27 (Operand.tmp 29) (Operand.tmp 30), type := 0, pos := "sigma.go:111", after := #[{ on := 0, ground := Ground.data }, { on := 1, ground := Ground.data }, { on := 0, ground := Ground.phase }, { on := 1, ground := Ground.phase }, { on := 2, ground := Ground.phase }, { on := 3, ground := Ground.phase }, { on := 4, ground := Ground.phase }, { on := 5, ground := Ground.phase }, { on := 6, ground := Ground.phase }, { on := 7, ground := Ground.phase }, { on := 8, ground := Ground.phase }, { on := 9, ground := Ground.phase }, { on := 10, ground := Ground.phase }, { on := 11, ground := Ground.phase }, { on := 12, ground := Ground.phase }, { on := 13, ground := Ground.phase }, { on := 14, ground := Ground.phase }, { on := 15, ground := Ground.phase }], guard := none },
  { dst := none, op := Op.store 32 (Operand.tmp 45) (Operand.tmp 44), type := 0, pos := "sigma.go:111", after := #[{ on := 16, ground := Ground.data }, { on := 15, ground := Ground.data }, { on := 15, ground := Ground.chain }, { on := 0, ground := Ground.phase }, { on := 1, ground := Ground.phase }, { on := 2, ground := Ground.phase }, { on := 3, ground := Ground.phase }, { on := 4, ground := Ground.phase }, { on := 5, ground := Ground.phase }, { on := 6, ground := Ground.phase }, { on := 7, ground := Ground.phase }, { on := 8, ground := Ground.phase }, { on := 9, ground := Ground.phase }, { on := 10, ground := Ground.phase }, { on := 11, ground := Ground.phase }, { on := 12, ground := Ground.phase }, { on := 13, ground := Ground.phase }, { on := 14, ground := Ground.phase }, { on := 15, ground := Ground.phase }], guard := none }]
set_option maxRecDepth 100000 in
set_option maxHeartbeats 16000000 in
theorem si6 (Q : Exit → Act → World → Prop) (B T1 I D tl n cI : Nat) (ch nz : E4) (xs : List Value) (Pi : Option Addr) (ni ci : Nat) (zz : Nat → Int) (u0 u2 u5 u7 u8 u9 u10 u11 u12 u13 u14 u15 u16 u17 u18 u19 u20 u21 u22 u23 u24 u25 u26 u27 u28 u29 u30 u31 u32 u33 u34 u35 u36 u37 u38 u39 u40 u41 u42 u43 u44 u45 u46 u47 : Value) (W : World)
    (hBW : B ≤ W.heap.size) (hn : n ≤ 20) (l1 : T1 < B) (lI : I < B) (cc0 : W.cell? ⟨T1, 2, none⟩ = some (.int .u64 ch.x0)) (cc1 : W.cell? ⟨T1, 3, none⟩ = some (.int .u64 ch.x1)) (cc2 : W.cell? ⟨T1, 4, none⟩ = some (.int .u64 ch.x2)) (cc3 : W.cell? ⟨T1, 5, none⟩ = some (.int .u64 ch.x3)) (cI1 : W.cell? ⟨T1, 1, none⟩ = some (.slice (some ⟨I, 0, none⟩) 1 cI)) (im0 : W.cell? ⟨I, 0, none⟩ = some (.slice Pi ni ci))
    (ol : W.ownsRow B 68 5 (.slice (some ⟨tl, 0, none⟩) n n) n xs) (th : W.there D 0 1) (hBD : B ≤ D) (neD : D ≠ tl)
    (C5 : Hid (∀ x, Below B W x → Calls Tryz.prog 21 #[.agg #[.int .u64 ch.x0, .int .u64 ch.x1, .int .u64 ch.x2, .int .u64 ch.x3]] x fun e w' => e = .returned (.agg #[.int .u64 nz.x0, .int .u64 nz.x1, .int .u64 nz.x2, .int .u64 nz.x3]) ∧ Below x.heap.size x w'))
    (C15 : Hid (∀ (x : World) (v2 : Value), Below B W x → x.ownsRow B 68 5 v2 (n + 1) (xs ++ [.int .u64 nz.x0, .int .u64 nz.x1, .int .u64 nz.x2, .int .u64 nz.x3, .slice Pi ni ci]) → Calls Tryz.prog 20 #[v2] x fun e w' => FqL x w' e zz))
    (HQ : Hid (∀ (v2 : Value) (tb A m k : Nat) (wz : World), (∃ wy, Below B W wy ∧ wy.there D 0 1 ∧ Fl wy (.agg #[.slice (some ⟨A, 0, none⟩) m k]) zz ∧ W.heap.size ≤ A ∧ wz = wy.setCells D 0 [.slice (some ⟨A, 0, none⟩) m k]) → Q .normal ⟨#[u0, .pointer (some ⟨T1, 0, none⟩), u2, .slice (some ⟨D, 0, none⟩) 1 1, .int .i64 0, u5, .slice (some ⟨tl, 0, none⟩) n n, u7, u8, u9, u10, u11, u12, u13, u14, u15, u16, u17, u18, u19, u20, u21, u22, u23, u24, u25, u26, u27, u28, .slice (some ⟨D, 0, none⟩) 1 1, .int .i64 0, .slice (some ⟨tl, 0, none⟩) n n, .pointer (some ⟨T1, 2, none⟩), .agg #[.int .u64 ch.x0, .int .u64 ch.x1, .int .u64 ch.x2, .int .u64 ch.x3], .agg #[.int .u64 nz.x0, .int .u64 nz.x1, .int .u64 nz.x2, .int .u64 nz.x3], .pointer (some ⟨T1, 0, none⟩), .pointer (some ⟨T1, 1, none⟩), .slice (some ⟨I, 0, none⟩) 1 cI, .int .i64 0, .pointer (some ⟨I, 0, none⟩), .agg #[.slice Pi ni ci], .agg #[.int .u64 nz.x0, .int .u64 nz.x1, .int .u64 nz.x2, .int .u64 nz.x3, .slice Pi ni ci], .slice (some ⟨tb, 0, none⟩) 1 1, v2, .agg #[.slice (some ⟨A, 0, none⟩) m k], .pointer (some ⟨D, 0, none⟩), u46, u47], []⟩ wz)) : (Code.region 6 si6o true).wp Tryz.prog Q ⟨#[u0, .pointer (some ⟨T1, 0, none⟩), u2, .slice (some ⟨D, 0, none⟩) 1 1, .int .i64 0, u5, .slice (some ⟨tl, 0, none⟩) n n, u7, u8, u9, u10, u11, u12, u13, u14, u15, u16, u17, u18, u19, u20, u21, u22, u23, u24, u25, u26, u27, u28, u29, u30, u31, u32, u33, u34, u35, u36, u37, u38, u39, u40, u41, u42, u43, u44, u45, u46, u47], []⟩ W := by
  obtain ⟨i0, hi, hz0, hz1, hz2⟩ := info_parts tinfoF
  have HI := hidden hi
  have HZ0 := hidden hz0
  have HZ1 := hidden hz1
  have HZ2 := hidden hz2
  have HU : Hid (Tryz.prog.underlying 63 = some (.slice 68)) := hidden (by kernel_rfl)
  have H5 : Hid (∀ u ∈ ([.int .u64 nz.x0, .int .u64 nz.x1, .int .u64 nz.x2, .int .u64 nz.x3, .slice Pi ni ci] : List Value), u.oneCell' = true) := hidden (by simp [Value.oneCell'])
  have OL := hidden ol.drew
  have TH := hidden (Li.there_bl th (bl_drew W))
  clear hi hz0 hz1 hz2 ol th
  unfold si6o
  refine wp_region_noPanic ?_
  refine wp_region_held_drew (S := fun x => Below B W x) (by kernel_rfl) (below_less (bl_drew W) hBW) (fun hH0 => ?_)
  refine wpAnyH_take (i := 0) (oi := { dst := some 29, op := Op.move (Operand.tmp 3), type := 27, pos := "sigma.go:111", after := #[], guard := none }) (v := .slice (some ⟨D, 0, none⟩) 1 1) rfl (by kernel_rfl) (by kernel_rfl) (by kernel_rfl) (fun _ _ _ h => h) (Or.inl ⟨by rfl, fun w0 hSw => ?_⟩) hH0 ?_
  · (clear hSw; go_simp)
  simp only [Act.put, List.setIfInBounds_toArray, List.set_cons_zero, List.set_cons_succ]
  refine wpAnyH_take (i := 1) (oi := { dst := some 30, op := Op.move (Operand.tmp 4), type := 3, pos := "sigma.go:111", after := #[], guard := none }) (v := .int .i64 0) rfl (by kernel_rfl) (by kernel_rfl) (by kernel_rfl) (fun _ _ _ h => h) (Or.inl ⟨by rfl, fun w0 hSw => ?_⟩) hH0 ?_
  · (clear hSw; go_simp)
  simp only [Act.put, List.setIfInBounds_toArray, List.set_cons_zero, List.set_cons_succ]
  refine wpAnyH_take (i := 2) (oi := { dst := some 31, op := Op.move (Operand.tmp 6), type := 63, pos := "sigma.go:111", after := #[], guard := none }) (v := .slice (some ⟨tl, 0, none⟩) n n) rfl (by kernel_rfl) (by kernel_rfl) (by kernel_rfl) (fun _ _ _ h => h) (Or.inl ⟨by rfl, fun w0 hSw => ?_⟩) hH0 ?_
  · (clear hSw; go_simp)
  simp only [Act.put, List.setIfInBounds_toArray, List.set_cons_zero, List.set_cons_succ]
  refine wpAnyH_take (i := 3) (oi := { dst := some 32, op := Op.fieldAddr 43 (Operand.tmp 1) 1, type := 0, pos := "sigma.go:111", after := #[], guard := none }) (v := .pointer (some ⟨T1, 2, none⟩)) rfl (by kernel_rfl) (by kernel_rfl) (by kernel_rfl) (fun _ _ _ h => h) (Or.inl ⟨by rfl, fun w0 hSw => ?_⟩) hH0 ?_
  · (clear hSw; go_simp)
  simp only [Act.put, List.setIfInBounds_toArray, List.set_cons_zero, List.set_cons_succ]
  refine wpAnyH_take (i := 6) (oi := { dst := some 35, op := Op.fieldAddr 43 (Operand.tmp 1) 0, type := 0, pos := "sigma.go:111", after := #[], guard := none }) (v := .pointer (some ⟨T1, 0, none⟩)) rfl (by kernel_rfl) (by kernel_rfl) (by kernel_rfl) (fun _ _ _ h => h) (Or.inl ⟨by rfl, fun w0 hSw => ?_⟩) hH0 ?_
  · (clear hSw; go_simp)
  simp only [Act.put, List.setIfInBounds_toArray, List.set_cons_zero, List.set_cons_succ]
  refine wpAnyH_take (i := 9) (oi := { dst := some 38, op := Op.move (Operand.tmp 4), type := 3, pos := "sigma.go:111", after := #[], guard := none }) (v := .int .i64 0) rfl (by kernel_rfl) (by kernel_rfl) (by kernel_rfl) (fun _ _ _ h => h) (Or.inl ⟨by rfl, fun w0 hSw => ?_⟩) hH0 ?_
  · (clear hSw; go_simp)
  simp only [Act.put, List.setIfInBounds_toArray, List.set_cons_zero, List.set_cons_succ]
  refine wpAnyH_take (i := 4) (oi := { dst := some 33, op := Op.load 25 (Operand.tmp 32), type := 25, pos := "sigma.go:111", after := #[{ on := 3, ground := Ground.data }], guard := none }) (v := .agg #[.int .u64 ch.x0, .int .u64 ch.x1, .int .u64 ch.x2, .int .u64 ch.x3]) rfl (by kernel_rfl) (by kernel_rfl) (by kernel_rfl) (fun _ _ _ h => h) (Or.inl ⟨by rfl, fun w0 hSw => ?_⟩) hH0 ?_
  · (have hS : Below B W w0 := hSw; have a0 := (hS.cell (p := ⟨T1, 2, none⟩) l1).trans cc0; have a1 := (hS.cell (p := ⟨T1, 3, none⟩) l1).trans cc1; have a2 := (hS.cell (p := ⟨T1, 4, none⟩) l1).trans cc2; have a3 := (hS.cell (p := ⟨T1, 5, none⟩) l1).trans cc3; clear hS hSw; go_simp)
  simp only [Act.put, List.setIfInBounds_toArray, List.set_cons_zero, List.set_cons_succ]
  refine wpAnyH_take (i := 7) (oi := { dst := some 36, op := Op.fieldAddr 29 (Operand.tmp 35) 1, type := 0, pos := "sigma.go:111", after := #[{ on := 6, ground := Ground.data }], guard := none }) (v := .pointer (some ⟨T1, 1, none⟩)) rfl (by kernel_rfl) (by kernel_rfl) (by kernel_rfl) (fun _ _ _ h => h) (Or.inl ⟨by rfl, fun w0 hSw => ?_⟩) hH0 ?_
  · (clear hSw; go_simp)
  simp only [Act.put, List.setIfInBounds_toArray, List.set_cons_zero, List.set_cons_succ]
  refine wpAnyH_take (i := 8) (oi := { dst := some 37, op := Op.load 27 (Operand.tmp 36), type := 27, pos := "sigma.go:111", after := #[{ on := 7, ground := Ground.data }], guard := none }) (v := .slice (some ⟨I, 0, none⟩) 1 cI) rfl (by kernel_rfl) (by kernel_rfl) (by kernel_rfl) (fun _ _ _ h => h) (Or.inl ⟨by rfl, fun w0 hSw => ?_⟩) hH0 ?_
  · (have hS : Below B W w0 := hSw; have a0 := (hS.cell (p := ⟨T1, 1, none⟩) l1).trans cI1; clear hS hSw; go_simp)
  simp only [Act.put, List.setIfInBounds_toArray, List.set_cons_zero, List.set_cons_succ]
  refine wpAnyH_take (i := 10) (oi := { dst := some 39, op := Op.indexAddr 27 (Operand.tmp 37) (Operand.tmp 38), type := 0, pos := "sigma.go:111", after := #[{ on := 8, ground := Ground.data }, { on := 9, ground := Ground.data }], guard := none }) (v := .pointer (some ⟨I, 0, none⟩)) rfl (by kernel_rfl) (by kernel_rfl) (by kernel_rfl) (fun _ _ _ h => h) (Or.inl ⟨by rfl, fun w0 hSw => ?_⟩) hH0 ?_
  · (clear hSw; go_simp)
  simp only [Act.put, List.setIfInBounds_toArray, List.set_cons_zero, List.set_cons_succ]
  refine wpAnyH_take (i := 11) (oi := { dst := some 40, op := Op.load 32 (Operand.tmp 39), type := 32, pos := "sigma.go:111", after := #[{ on := 10, ground := Ground.data }], guard := none }) (v := .agg #[.slice Pi ni ci]) rfl (by kernel_rfl) (by kernel_rfl) (by kernel_rfl) (fun _ _ _ h => h) (Or.inl ⟨by rfl, fun w0 hSw => ?_⟩) hH0 ?_
  · (have hS : Below B W w0 := hSw; have a0 := (hS.cell (p := ⟨I, 0, none⟩) lI).trans im0; clear hS hSw; go_simp)
  simp only [Act.put, List.setIfInBounds_toArray, List.set_cons_zero, List.set_cons_succ]
  refine wpAnyH_ready (rs := [5]) (by kernel_rfl) (by simp) ?_
  refine AllReadyH.cons (o := { dst := some 34, op := Op.call { callee := Callee.value (Operand.func 21), args := #[Operand.tmp 33], argTypes := #[25] }, type := 25, pos := "sigma.go:111", after := #[{ on := 4, ground := Ground.data }], guard := none }) rfl (fun K hK => ?_) AllReadyH.nil
  have HH := hidden hH0
  clear hH0
  go_simp
  refine (C5.out _ HH.out).mono ?_
  rintro e wn1 ⟨rfl, hb⟩
  replace OL := hidden (own_keep5 OL.out hb)
  replace TH := hidden (Li.there_bl TH.out hb)
  have SN := hidden (HH.out.trans (below_less hb (Nat.le_trans hBW HH.out.size)))
  clear HH C5 hb
  go_wp2_with fail
  refine hK.out _ _ SN.out (fun hH1 => ?_)
  clear hK K SN
  refine wpAnyH_take (i := 12) (oi := { dst := some 41, op := Op.build 68 #[(0, Operand.tmp 34), (1, Operand.tmp 40)], type := 68, pos := "sigma.go:111", after := #[{ on := 5, ground := Ground.data }, { on := 11, ground := Ground.data }], guard := none }) (v := .agg #[.int .u64 nz.x0, .int .u64 nz.x1, .int .u64 nz.x2, .int .u64 nz.x3, .slice Pi ni ci]) rfl (by kernel_rfl) (by kernel_rfl) (by kernel_rfl) (fun _ _ _ h => h) (Or.inl ⟨by rfl, fun w0 hSw => ?_⟩) hH1 ?_
  · (clear hSw; go_simp)
  simp only [Act.put, List.setIfInBounds_toArray, List.set_cons_zero, List.set_cons_succ]
  refine wpAnyH_ready (rs := [13]) (by kernel_rfl) (by simp) ?_
  refine AllReadyH.cons (o := { dst := some 42, op := Op.buildSlice 63 1 #[(0, Operand.tmp 41)], type := 63, pos := "sigma.go:111", after := #[{ on := 12, ground := Ground.data }], guard := none }) rfl (fun K hK => ?_) AllReadyH.nil
  have HH := hidden hH1
  clear hH1
  refine wp_buildT (.tmp 41) rfl nz Pi ni ci rfl (fun tb wn2 htb hb hcb => ?_)
  replace OL := hidden (own_keep5 OL.out hb)
  replace TH := hidden (Li.there_bl TH.out hb)
  have CB := hidden (hcb)
  have SN := hidden (HH.out.trans (below_less hb (Nat.le_trans hBW HH.out.size)))
  clear HH htb hb hcb
  simp only [Act.put, List.setIfInBounds_toArray, List.set_cons_zero, List.set_cons_succ]
  refine hK.out _ _ SN.out (fun hH2 => ?_)
  clear hK K SN
  refine wpAnyH_ready (rs := [14]) (by kernel_rfl) (by simp) ?_
  refine AllReadyH.cons (o := { dst := some 43, op := Op.call { callee := Callee.builtin Builtin.append, args := #[Operand.tmp 31, Operand.tmp 42], argTypes := #[63, 63] }, type := 63, pos := "sigma.go:111", after := #[{ on := 2, ground := Ground.data }, { on := 13, ground := Ground.data }, { on := 5, ground := Ground.chain }], guard := none }) rfl (fun K hK => ?_) AllReadyH.nil
  have HH := hidden hH2
  clear hH2
  refine wp_append_own _ (.tmp 31) (.tmp 42) 63 rfl B 68 i0 (.agg #[.int .u64 0, .int .u64 0, .int .u64 0, .int .u64 0, .slice none 0 0]) 5 56 HU.out HI.out HZ0.out HZ1.out HZ2.out rfl (by decide) (.slice (some ⟨tl, 0, none⟩) n n) n xs rfl OL.out ⟨tb, 0, none⟩ 1 1 [.int .u64 nz.x0, .int .u64 nz.x1, .int .u64 nz.x2, .int .u64 nz.x3, .slice Pi ni ci] rfl (by simp) CB.out H5.out (by unfold maxLen; omega) (by omega) (Nat.le_trans hBW HH.out.size) (fun v2 wn3 hO hG _ => ?_)
  have O2 := hidden (hO)
  replace TH := hidden (there_gb TH.out hG neD)
  have SN := hidden (below_trans HH.out (below_grown hG (Nat.le_trans hBW HH.out.size) (fun k hk => (OL.out.lt k hk).1)))
  clear HH OL CB hO hG
  simp only [Act.put, List.setIfInBounds_toArray, List.set_cons_zero, List.set_cons_succ]
  refine hK.out _ _ SN.out (fun hH3 => ?_)
  clear hK K SN
  refine wpAnyH_ready (rs := [15]) (by kernel_rfl) (by simp) ?_
  refine AllReadyH.cons (o := { dst := some 44, op := Op.call { callee := Callee.value (Operand.func 20), args := #[Operand.tmp 43], argTypes := #[63] }, type := 32, pos := "sigma.go:111", after := #[{ on := 14, ground := Ground.data }, { on := 14, ground := Ground.chain }], guard := none }) rfl (fun K hK => ?_) AllReadyH.nil
  have HH := hidden hH3
  clear hH3
  go_simp
  refine (C15.out _ v2 HH.out O2.out).mono ?_
  rintro e wn4 ⟨A, m, k, rfl, hA, hF, hb⟩
  have FA := hidden (hF)
  have GA := hidden (Nat.le_trans HH.out.size hA)
  replace TH := hidden (Li.there_bl TH.out hb)
  have SN := hidden (HH.out.trans (below_less hb (Nat.le_trans hBW HH.out.size)))
  clear HH C15 hA hF hb O2
  go_wp2_with fail
  refine hK.out _ _ SN.out (fun hH4 => ?_)
  clear hK K SN
  refine wpAnyH_take (i := 16) (oi := { dst := some 45, op := Op.indexAddr 27 (Operand.tmp 29) (Operand.tmp 30), type := 0, pos := "sigma.go:111", after := #[{ on := 0, ground := Ground.data }, { on := 1, ground := Ground.data }, { on := 0, ground := Ground.phase }, { on := 1, ground := Ground.phase }, { on := 2, ground := Ground.phase }, { on := 3, ground := Ground.phase }, { on := 4, ground := Ground.phase }, { on := 5, ground := Ground.phase }, { on := 6, ground := Ground.phase }, { on := 7, ground := Ground.phase }, { on := 8, ground := Ground.phase }, { on := 9, ground := Ground.phase }, { on := 10, ground := Ground.phase }, { on := 11, ground := Ground.phase }, { on := 12, ground := Ground.phase }, { on := 13, ground := Ground.phase }, { on := 14, ground := Ground.phase }, { on := 15, ground := Ground.phase }], guard := none }) (v := .pointer (some ⟨D, 0, none⟩)) rfl (by kernel_rfl) (by kernel_rfl) (by kernel_rfl) (fun _ _ _ h => h) (Or.inl ⟨by rfl, fun w0 hSw => ?_⟩) hH4 ?_
  · (clear hSw; go_simp)
  simp only [Act.put, List.setIfInBounds_toArray, List.set_cons_zero, List.set_cons_succ]
  refine wpAnyH_ready (rs := [17]) (by kernel_rfl) (by simp) ?_
  refine AllReadyH.cons (o := { dst := none, op := Op.store 32 (Operand.tmp 45) (Operand.tmp 44), type := 0, pos := "sigma.go:111", after := #[{ on := 16, ground := Ground.data }, { on := 15, ground := Ground.data }, { on := 15, ground := Ground.chain }, { on := 0, ground := Ground.phase }, { on := 1, ground := Ground.phase }, { on := 2, ground := Ground.phase }, { on := 3, ground := Ground.phase }, { on := 4, ground := Ground.phase }, { on := 5, ground := Ground.phase }, { on := 6, ground := Ground.phase }, { on := 7, ground := Ground.phase }, { on := 8, ground := Ground.phase }, { on := 9, ground := Ground.phase }, { on := 10, ground := Ground.phase }, { on := 11, ground := Ground.phase }, { on := 12, ground := Ground.phase }, { on := 13, ground := Ground.phase }, { on := 14, ground := Ground.phase }, { on := 15, ground := Ground.phase }], guard := none }) rfl (fun K hK => ?_) AllReadyH.nil
  have HH := hidden hH4
  clear hH4
  refine wp_storeE 32 _ _ rfl D 0 ([.slice (some ⟨A, 0, none⟩) m k]) (by rfl) (by rfl) TH.out i1_F (oneS _ _ _) rfl (fun wn5 hw => ?_)
  have SN := hidden (HH.out.trans (below_grown (gb_setCells D [.slice (some ⟨A, 0, none⟩) m k] 0 _) (Nat.le_trans hBW HH.out.size) (fun k hk => by have := Option.some.inj hk; omega)))
  have FE := hidden ((⟨_, HH.out, TH.out, FA.out, GA.out, hw⟩ : ∃ wy, Below B W wy ∧ wy.there D 0 1 ∧ Fl wy (.agg #[.slice (some ⟨A, 0, none⟩) m k]) zz ∧ W.heap.size ≤ A ∧ _ = wy.setCells D 0 [.slice (some ⟨A, 0, none⟩) m k]))
  rw [← hw] at SN
  clear HH hw
  refine hK.out _ _ SN.out (fun hH5 => ?_)
  clear hK K SN
  have HH := hidden hH5
  have FQ := hidden (HQ.out v2 tb A m k _ FE.out)
  refine wpAnyH_done (by kernel_rfl) ?_ _
  refine NoPanic.normal ?_
  exact FQ.out
end Go.Proofs.YtapieajkmpnmoaaGreatDoor
namespace Go.Proofs.YtapieajkmpnmoaaGreatDoor.Li
open Go.RowKit
set_option linter.unusedVariables false
theorem buildT (f im : E4) (w : World) : (Instr.buildSlice 86 1 #[(0, .agg #[.int .u64 f.x0, .int .u64 f.x1, .int .u64 f.x2, .int .u64 f.x3, .int .u64 im.x0, .int .u64 im.x1, .int .u64 im.x2, .int .u64 im.x3])]).run Tryz.prog w = .ok (.slice (some ⟨w.heap.size, 0, none⟩) 1 1) (w.alloc (.cells #[.int .u64 f.x0, .int .u64 f.x1, .int .u64 f.x2, .int .u64 f.x3, .int .u64 im.x0, .int .u64 im.x1, .int .u64 im.x2, .int .u64 im.x3] 93)) := by kernel_rfl
theorem new8 (w : World) (f im : E4) : ∀ j u, ([.int .u64 f.x0, .int .u64 f.x1, .int .u64 f.x2, .int .u64 f.x3, .int .u64 im.x0, .int .u64 im.x1, .int .u64 im.x2, .int .u64 im.x3] : List Value)[j]? = some u → (w.alloc (.cells #[.int .u64 f.x0, .int .u64 f.x1, .int .u64 f.x2, .int .u64 f.x3, .int .u64 im.x0, .int .u64 im.x1, .int .u64 im.x2, .int .u64 im.x3] 93)).cell? ((⟨w.heap.size, 0, none⟩ : Addr).add j) = some u := fun j u hu => by
  rw [addr_add]
  have := range_newM w [.int .u64 f.x0, .int .u64 f.x1, .int .u64 f.x2, .int .u64 f.x3, .int .u64 im.x0, .int .u64 im.x1, .int .u64 im.x2, .int .u64 im.x3] 93 j u hu
  simpa using this
theorem wp_buildT {w : World} {o : Oper} {a : Act} {K : Act → World → Prop} {Q : Exit → Act → World → Prop} (x : Operand) (ho : o.op = .buildSlice 86 1 #[(0, x)]) (f im : E4) (hx : a.eval x = .agg #[.int .u64 f.x0, .int .u64 f.x1, .int .u64 f.x2, .int .u64 f.x3, .int .u64 im.x0, .int .u64 im.x1, .int .u64 im.x2, .int .u64 im.x3]) (h : ∀ (tb : Nat) (wq : World), tb = w.heap.size → Below w.heap.size w wq → (∀ j u, ([.int .u64 f.x0, .int .u64 f.x1, .int .u64 f.x2, .int .u64 f.x3, .int .u64 im.x0, .int .u64 im.x1, .int .u64 im.x2, .int .u64 im.x3] : List Value)[j]? = some u → wq.cell? ((⟨tb, 0, none⟩ : Addr).add j) = some u) → K (a.put o.dst (.slice (some ⟨tb, 0, none⟩) 1 1)) wq) : o.wp Tryz.prog a w K Q := by
  have hr := buildT f im w
  unfold Oper.wp execOp
  simp only [ho, Sem.run_bind, Sem.run_pure, Result.andThen_ok, List.map_toArray, List.map_cons, List.map_nil, hx, hr]
  exact h _ _ rfl (bl_alloc _ _) (new8 w f im)
def si6o : Array Oper := #[{ dst := some 29, op := Op.move (Operand.tmp 3), type := 46, pos := "sigma.go:111", after := #[], guard := none },
  { dst := some 30, op := Op.move (Operand.tmp 4), type := 3, pos := "sigma.go:111", after := #[], guard := none },
  { dst := some 31, op := Op.move (Operand.tmp 6), type := 86, pos := "sigma.go:111", after := #[], guard := none },
  { dst := some 32, op := Op.fieldAddr 70 (Operand.tmp 1) 1, type := 0, pos := "sigma.go:111", after := #[], guard := none },
  { dst := some 33, op := Op.load 25 (Operand.tmp 32), type := 25, pos := "sigma.go:111", after := #[{ on := 3, ground := Ground.data }], guard := none },
  { dst := some 34, op := Op.call { callee := Callee.value (Operand.func 21), args := #[Operand.tmp 33], argTypes := #[25] }, type := 25, pos := "sigma.go:111", after := #[{ on := 4, ground := Ground.data }], guard := none },
  { dst := some 35, op := Op.fieldAddr 70 (Operand.tmp 1) 0, type := 0, pos := "sigma.go:111", after := #[], guard := none },
  { dst := some 36, op := Op.fieldAddr 48 (Operand.tmp 35) 1, type := 0, pos := "sigma.go:111", after := #[{ on := 6, ground := Ground.data }], guard := none },
  { dst := some 37, op := Op.load 46 (Operand.tmp 36), type := 46, pos := "sigma.go:111", after := #[{ on := 7, ground := Ground.data }], guard := none },
  { dst := some 38, op := Op.move (Operand.tmp 4), type := 3, pos := "sigma.go:111", after := #[], guard := none },
  { dst := some 39, op := Op.indexAddr 46 (Operand.tmp 37) (Operand.tmp 38), type := 0, pos := "sigma.go:111", after := #[{ on := 8, ground := Ground.data }, { on := 9, ground := Ground.data }], guard := none },
  { dst := some 40, op := Op.load 51 (Operand.tmp 39), type := 51, pos := "sigma.go:111", after := #[{ on := 10, ground := Ground.data }], guard := none },
  { dst := some 41, op := Op.build 93 #[(0, Operand.tmp 34), (1, Operand.tmp 40)], type := 93, pos := "sigma.go:111", after := #[{ on := 5, ground := Ground.data }, { on := 11, ground := Ground.data }], guard := none },
  { dst := some 42, op := Op.buildSlice 86 1 #[(0, Operand.tmp 41)], type := 86, pos := "sigma.go:111", after := #[{ on := 12, ground := Ground.data }], guard := none },
  { dst := some 43, op := Op.call { callee := Callee.builtin Builtin.append, args := #[Operand.tmp 31, Operand.tmp 42], argTypes := #[86, 86] }, type := 86, pos := "sigma.go:111", after := #[{ on := 2, ground := Ground.data }, { on := 13, ground := Ground.data }, { on := 5, ground := Ground.chain }], guard := none },
  { dst := some 44, op := Op.call { callee := Callee.value (Operand.func 37), args := #[Operand.tmp 43], argTypes := #[86] }, type := 51, pos := "sigma.go:111", after := #[{ on := 14, ground := Ground.data }, { on := 14, ground := Ground.chain }], guard := none },
  { dst := some 45, op := Op.indexAddr 46 (Operand.tmp 29) (Operand.tmp 30), type := 0, pos := "sigma.go:111", after := #[{ on := 0, ground := Ground.data }, { on := 1, ground := Ground.data }, { on := 0, ground := Ground.phase }, { on := 1, ground := Ground.phase }, { on := 2, ground := Ground.phase }, { on := 3, ground := Ground.phase }, { on := 4, ground := Ground.phase }, { on := 5, ground := Ground.phase }, { on := 6, ground := Ground.phase }, { on := 7, ground := Ground.phase }, { on := 8, ground := Ground.phase }, { on := 9, ground := Ground.phase }, { on := 10, ground := Ground.phase }, { on := 11, ground := Ground.phase }, { on := 12, ground := Ground.phase }, { on := 13, ground := Ground.phase }, { on := 14, ground := Ground.phase }, { on := 15, ground := Ground.phase }], guard := none },
  { dst := none, op := Op.store 51 (Operand.tmp 45) (Operand.tmp 44), type := 0, pos := "sigma.go:111", after := #[{ on := 16, ground := Ground.data }, { on := 15, ground := Ground.data }, { on := 15, ground := Ground.chain }, { on := 0, ground := Ground.phase }, { on := 1, ground := Ground.phase }, { on := 2, ground := Ground.phase }, { on := 3, ground := Ground.phase }, { on := 4, ground := Ground.phase }, { on := 5, ground := Ground.phase }, { on := 6, ground := Ground.phase }, { on := 7, ground := Ground.phase }, { on := 8, ground := Ground.phase }, { on := 9, ground := Ground.phase }, { on := 10, ground := Ground.phase }, { on := 11, ground := Ground.phase }, { on := 12, ground := Ground.phase }, { on := 13, ground := Ground.phase }, { on := 14, ground := Ground.phase }, { on := 15, ground := Ground.phase }], guard := none }]
set_option maxRecDepth 100000 in
set_option maxHeartbeats 16000000 in
theorem si6 (Q : Exit → Act → World → Prop) (B T1 I D tl n cI : Nat) (ch nz : E4) (xs : List Value) (im r : E4) (u0 u2 u5 u7 u8 u9 u10 u11 u12 u13 u14 u15 u16 u17 u18 u19 u20 u21 u22 u23 u24 u25 u26 u27 u28 u29 u30 u31 u32 u33 u34 u35 u36 u37 u38 u39 u40 u41 u42 u43 u44 u45 u46 u47 : Value) (W : World)
    (hBW : B ≤ W.heap.size) (hn : n ≤ 20) (l1 : T1 < B) (lI : I < B) (cc0 : W.cell? ⟨T1, 2, none⟩ = some (.int .u64 ch.x0)) (cc1 : W.cell? ⟨T1, 3, none⟩ = some (.int .u64 ch.x1)) (cc2 : W.cell? ⟨T1, 4, none⟩ = some (.int .u64 ch.x2)) (cc3 : W.cell? ⟨T1, 5, none⟩ = some (.int .u64 ch.x3)) (cI1 : W.cell? ⟨T1, 1, none⟩ = some (.slice (some ⟨I, 0, none⟩) 1 cI)) (im0 : W.cell? ⟨I, 0, none⟩ = some (.int .u64 im.x0)) (im1 : W.cell? ⟨I, 1, none⟩ = some (.int .u64 im.x1)) (im2 : W.cell? ⟨I, 2, none⟩ = some (.int .u64 im.x2)) (im3 : W.cell? ⟨I, 3, none⟩ = some (.int .u64 im.x3))
    (ol : W.ownsRow B 93 8 (.slice (some ⟨tl, 0, none⟩) n n) n xs) (th : W.there D 0 4) (hBD : B ≤ D) (neD : D ≠ tl)
    (C5 : Hid (∀ x, Below B W x → Calls Tryz.prog 21 #[.agg #[.int .u64 ch.x0, .int .u64 ch.x1, .int .u64 ch.x2, .int .u64 ch.x3]] x fun e w' => e = .returned (.agg #[.int .u64 nz.x0, .int .u64 nz.x1, .int .u64 nz.x2, .int .u64 nz.x3]) ∧ Below x.heap.size x w'))
    (C15 : Hid (∀ (x : World) (v2 : Value), Below B W x → x.ownsRow B 93 8 v2 (n + 1) (xs ++ [.int .u64 nz.x0, .int .u64 nz.x1, .int .u64 nz.x2, .int .u64 nz.x3, .int .u64 im.x0, .int .u64 im.x1, .int .u64 im.x2, .int .u64 im.x3]) → Calls Tryz.prog 37 #[v2] x fun e w' => e = .returned (.agg #[.int .u64 r.x0, .int .u64 r.x1, .int .u64 r.x2, .int .u64 r.x3]) ∧ Below x.heap.size x w'))
    (HQ : Hid (∀ (v2 : Value) (tb : Nat) (wz : World), (∃ wy, Below B W wy ∧ wy.there D 0 4 ∧ wz = wy.setCells D 0 [.int .u64 r.x0, .int .u64 r.x1, .int .u64 r.x2, .int .u64 r.x3]) → Q .normal ⟨#[u0, .pointer (some ⟨T1, 0, none⟩), u2, .slice (some ⟨D, 0, none⟩) 1 1, .int .i64 0, u5, .slice (some ⟨tl, 0, none⟩) n n, u7, u8, u9, u10, u11, u12, u13, u14, u15, u16, u17, u18, u19, u20, u21, u22, u23, u24, u25, u26, u27, u28, .slice (some ⟨D, 0, none⟩) 1 1, .int .i64 0, .slice (some ⟨tl, 0, none⟩) n n, .pointer (some ⟨T1, 2, none⟩), .agg #[.int .u64 ch.x0, .int .u64 ch.x1, .int .u64 ch.x2, .int .u64 ch.x3], .agg #[.int .u64 nz.x0, .int .u64 nz.x1, .int .u64 nz.x2, .int .u64 nz.x3], .pointer (some ⟨T1, 0, none⟩), .pointer (some ⟨T1, 1, none⟩), .slice (some ⟨I, 0, none⟩) 1 cI, .int .i64 0, .pointer (some ⟨I, 0, none⟩), .agg #[.int .u64 im.x0, .int .u64 im.x1, .int .u64 im.x2, .int .u64 im.x3], .agg #[.int .u64 nz.x0, .int .u64 nz.x1, .int .u64 nz.x2, .int .u64 nz.x3, .int .u64 im.x0, .int .u64 im.x1, .int .u64 im.x2, .int .u64 im.x3], .slice (some ⟨tb, 0, none⟩) 1 1, v2, .agg #[.int .u64 r.x0, .int .u64 r.x1, .int .u64 r.x2, .int .u64 r.x3], .pointer (some ⟨D, 0, none⟩), u46, u47], []⟩ wz)) : (Code.region 6 si6o true).wp Tryz.prog Q ⟨#[u0, .pointer (some ⟨T1, 0, none⟩), u2, .slice (some ⟨D, 0, none⟩) 1 1, .int .i64 0, u5, .slice (some ⟨tl, 0, none⟩) n n, u7, u8, u9, u10, u11, u12, u13, u14, u15, u16, u17, u18, u19, u20, u21, u22, u23, u24, u25, u26, u27, u28, u29, u30, u31, u32, u33, u34, u35, u36, u37, u38, u39, u40, u41, u42, u43, u44, u45, u46, u47], []⟩ W := by
  obtain ⟨i0, hi, hz0, hz1, hz2⟩ := info_parts tinfoL
  have HI := hidden hi
  have HZ0 := hidden hz0
  have HZ1 := hidden hz1
  have HZ2 := hidden hz2
  have HU : Hid (Tryz.prog.underlying 86 = some (.slice 93)) := hidden (by kernel_rfl)
  have H5 : Hid (∀ u ∈ ([.int .u64 nz.x0, .int .u64 nz.x1, .int .u64 nz.x2, .int .u64 nz.x3, .int .u64 im.x0, .int .u64 im.x1, .int .u64 im.x2, .int .u64 im.x3] : List Value), u.oneCell' = true) := hidden (by simp [Value.oneCell'])
  have OL := hidden ol.drew
  have TH := hidden (Li.there_bl th (bl_drew W))
  clear hi hz0 hz1 hz2 ol th
  unfold si6o
  refine wp_region_noPanic ?_
  refine wp_region_held_drew (S := fun x => Below B W x) (by kernel_rfl) (below_less (bl_drew W) hBW) (fun hH0 => ?_)
  refine wpAnyH_take (i := 0) (oi := { dst := some 29, op := Op.move (Operand.tmp 3), type := 46, pos := "sigma.go:111", after := #[], guard := none }) (v := .slice (some ⟨D, 0, none⟩) 1 1) rfl (by kernel_rfl) (by kernel_rfl) (by kernel_rfl) (fun _ _ _ h => h) (Or.inl ⟨by rfl, fun w0 hSw => ?_⟩) hH0 ?_
  · (clear hSw; go_simp)
  simp only [Act.put, List.setIfInBounds_toArray, List.set_cons_zero, List.set_cons_succ]
  refine wpAnyH_take (i := 1) (oi := { dst := some 30, op := Op.move (Operand.tmp 4), type := 3, pos := "sigma.go:111", after := #[], guard := none }) (v := .int .i64 0) rfl (by kernel_rfl) (by kernel_rfl) (by kernel_rfl) (fun _ _ _ h => h) (Or.inl ⟨by rfl, fun w0 hSw => ?_⟩) hH0 ?_
  · (clear hSw; go_simp)
  simp only [Act.put, List.setIfInBounds_toArray, List.set_cons_zero, List.set_cons_succ]
  refine wpAnyH_take (i := 2) (oi := { dst := some 31, op := Op.move (Operand.tmp 6), type := 86, pos := "sigma.go:111", after := #[], guard := none }) (v := .slice (some ⟨tl, 0, none⟩) n n) rfl (by kernel_rfl) (by kernel_rfl) (by kernel_rfl) (fun _ _ _ h => h) (Or.inl ⟨by rfl, fun w0 hSw => ?_⟩) hH0 ?_
  · (clear hSw; go_simp)
  simp only [Act.put, List.setIfInBounds_toArray, List.set_cons_zero, List.set_cons_succ]
  refine wpAnyH_take (i := 3) (oi := { dst := some 32, op := Op.fieldAddr 70 (Operand.tmp 1) 1, type := 0, pos := "sigma.go:111", after := #[], guard := none }) (v := .pointer (some ⟨T1, 2, none⟩)) rfl (by kernel_rfl) (by kernel_rfl) (by kernel_rfl) (fun _ _ _ h => h) (Or.inl ⟨by rfl, fun w0 hSw => ?_⟩) hH0 ?_
  · (clear hSw; go_simp)
  simp only [Act.put, List.setIfInBounds_toArray, List.set_cons_zero, List.set_cons_succ]
  refine wpAnyH_take (i := 6) (oi := { dst := some 35, op := Op.fieldAddr 70 (Operand.tmp 1) 0, type := 0, pos := "sigma.go:111", after := #[], guard := none }) (v := .pointer (some ⟨T1, 0, none⟩)) rfl (by kernel_rfl) (by kernel_rfl) (by kernel_rfl) (fun _ _ _ h => h) (Or.inl ⟨by rfl, fun w0 hSw => ?_⟩) hH0 ?_
  · (clear hSw; go_simp)
  simp only [Act.put, List.setIfInBounds_toArray, List.set_cons_zero, List.set_cons_succ]
  refine wpAnyH_take (i := 9) (oi := { dst := some 38, op := Op.move (Operand.tmp 4), type := 3, pos := "sigma.go:111", after := #[], guard := none }) (v := .int .i64 0) rfl (by kernel_rfl) (by kernel_rfl) (by kernel_rfl) (fun _ _ _ h => h) (Or.inl ⟨by rfl, fun w0 hSw => ?_⟩) hH0 ?_
  · (clear hSw; go_simp)
  simp only [Act.put, List.setIfInBounds_toArray, List.set_cons_zero, List.set_cons_succ]
  refine wpAnyH_take (i := 4) (oi := { dst := some 33, op := Op.load 25 (Operand.tmp 32), type := 25, pos := "sigma.go:111", after := #[{ on := 3, ground := Ground.data }], guard := none }) (v := .agg #[.int .u64 ch.x0, .int .u64 ch.x1, .int .u64 ch.x2, .int .u64 ch.x3]) rfl (by kernel_rfl) (by kernel_rfl) (by kernel_rfl) (fun _ _ _ h => h) (Or.inl ⟨by rfl, fun w0 hSw => ?_⟩) hH0 ?_
  · (have hS : Below B W w0 := hSw; have a0 := (hS.cell (p := ⟨T1, 2, none⟩) l1).trans cc0; have a1 := (hS.cell (p := ⟨T1, 3, none⟩) l1).trans cc1; have a2 := (hS.cell (p := ⟨T1, 4, none⟩) l1).trans cc2; have a3 := (hS.cell (p := ⟨T1, 5, none⟩) l1).trans cc3; clear hS hSw; go_simp)
  simp only [Act.put, List.setIfInBounds_toArray, List.set_cons_zero, List.set_cons_succ]
  refine wpAnyH_take (i := 7) (oi := { dst := some 36, op := Op.fieldAddr 48 (Operand.tmp 35) 1, type := 0, pos := "sigma.go:111", after := #[{ on := 6, ground := Ground.data }], guard := none }) (v := .pointer (some ⟨T1, 1, none⟩)) rfl (by kernel_rfl) (by kernel_rfl) (by kernel_rfl) (fun _ _ _ h => h) (Or.inl ⟨by rfl, fun w0 hSw => ?_⟩) hH0 ?_
  · (clear hSw; go_simp)
  simp only [Act.put, List.setIfInBounds_toArray, List.set_cons_zero, List.set_cons_succ]
  refine wpAnyH_take (i := 8) (oi := { dst := some 37, op := Op.load 46 (Operand.tmp 36), type := 46, pos := "sigma.go:111", after := #[{ on := 7, ground := Ground.data }], guard := none }) (v := .slice (some ⟨I, 0, none⟩) 1 cI) rfl (by kernel_rfl) (by kernel_rfl) (by kernel_rfl) (fun _ _ _ h => h) (Or.inl ⟨by rfl, fun w0 hSw => ?_⟩) hH0 ?_
  · (have hS : Below B W w0 := hSw; have a0 := (hS.cell (p := ⟨T1, 1, none⟩) l1).trans cI1; clear hS hSw; go_simp)
  simp only [Act.put, List.setIfInBounds_toArray, List.set_cons_zero, List.set_cons_succ]
  refine wpAnyH_take (i := 10) (oi := { dst := some 39, op := Op.indexAddr 46 (Operand.tmp 37) (Operand.tmp 38), type := 0, pos := "sigma.go:111", after := #[{ on := 8, ground := Ground.data }, { on := 9, ground := Ground.data }], guard := none }) (v := .pointer (some ⟨I, 0, none⟩)) rfl (by kernel_rfl) (by kernel_rfl) (by kernel_rfl) (fun _ _ _ h => h) (Or.inl ⟨by rfl, fun w0 hSw => ?_⟩) hH0 ?_
  · (clear hSw; go_simp)
  simp only [Act.put, List.setIfInBounds_toArray, List.set_cons_zero, List.set_cons_succ]
  refine wpAnyH_take (i := 11) (oi := { dst := some 40, op := Op.load 51 (Operand.tmp 39), type := 51, pos := "sigma.go:111", after := #[{ on := 10, ground := Ground.data }], guard := none }) (v := .agg #[.int .u64 im.x0, .int .u64 im.x1, .int .u64 im.x2, .int .u64 im.x3]) rfl (by kernel_rfl) (by kernel_rfl) (by kernel_rfl) (fun _ _ _ h => h) (Or.inl ⟨by rfl, fun w0 hSw => ?_⟩) hH0 ?_
  · (have hS : Below B W w0 := hSw; have a0 := (hS.cell (p := ⟨I, 0, none⟩) lI).trans im0; have a1 := (hS.cell (p := ⟨I, 1, none⟩) lI).trans im1; have a2 := (hS.cell (p := ⟨I, 2, none⟩) lI).trans im2; have a3 := (hS.cell (p := ⟨I, 3, none⟩) lI).trans im3; clear hS hSw; go_simp)
  simp only [Act.put, List.setIfInBounds_toArray, List.set_cons_zero, List.set_cons_succ]
  refine wpAnyH_ready (rs := [5]) (by kernel_rfl) (by simp) ?_
  refine AllReadyH.cons (o := { dst := some 34, op := Op.call { callee := Callee.value (Operand.func 21), args := #[Operand.tmp 33], argTypes := #[25] }, type := 25, pos := "sigma.go:111", after := #[{ on := 4, ground := Ground.data }], guard := none }) rfl (fun K hK => ?_) AllReadyH.nil
  have HH := hidden hH0
  clear hH0
  go_simp
  refine (C5.out _ HH.out).mono ?_
  rintro e wn1 ⟨rfl, hb⟩
  replace OL := hidden (own_keep5 OL.out hb)
  replace TH := hidden (Li.there_bl TH.out hb)
  have SN := hidden (HH.out.trans (below_less hb (Nat.le_trans hBW HH.out.size)))
  clear HH C5 hb
  go_wp2_with fail
  refine hK.out _ _ SN.out (fun hH1 => ?_)
  clear hK K SN
  refine wpAnyH_take (i := 12) (oi := { dst := some 41, op := Op.build 93 #[(0, Operand.tmp 34), (1, Operand.tmp 40)], type := 93, pos := "sigma.go:111", after := #[{ on := 5, ground := Ground.data }, { on := 11, ground := Ground.data }], guard := none }) (v := .agg #[.int .u64 nz.x0, .int .u64 nz.x1, .int .u64 nz.x2, .int .u64 nz.x3, .int .u64 im.x0, .int .u64 im.x1, .int .u64 im.x2, .int .u64 im.x3]) rfl (by kernel_rfl) (by kernel_rfl) (by kernel_rfl) (fun _ _ _ h => h) (Or.inl ⟨by rfl, fun w0 hSw => ?_⟩) hH1 ?_
  · (clear hSw; go_simp)
  simp only [Act.put, List.setIfInBounds_toArray, List.set_cons_zero, List.set_cons_succ]
  refine wpAnyH_ready (rs := [13]) (by kernel_rfl) (by simp) ?_
  refine AllReadyH.cons (o := { dst := some 42, op := Op.buildSlice 86 1 #[(0, Operand.tmp 41)], type := 86, pos := "sigma.go:111", after := #[{ on := 12, ground := Ground.data }], guard := none }) rfl (fun K hK => ?_) AllReadyH.nil
  have HH := hidden hH1
  clear hH1
  refine wp_buildT (.tmp 41) rfl nz im rfl (fun tb wn2 htb hb hcb => ?_)
  replace OL := hidden (own_keep5 OL.out hb)
  replace TH := hidden (Li.there_bl TH.out hb)
  have CB := hidden (hcb)
  have SN := hidden (HH.out.trans (below_less hb (Nat.le_trans hBW HH.out.size)))
  clear HH htb hb hcb
  simp only [Act.put, List.setIfInBounds_toArray, List.set_cons_zero, List.set_cons_succ]
  refine hK.out _ _ SN.out (fun hH2 => ?_)
  clear hK K SN
  refine wpAnyH_ready (rs := [14]) (by kernel_rfl) (by simp) ?_
  refine AllReadyH.cons (o := { dst := some 43, op := Op.call { callee := Callee.builtin Builtin.append, args := #[Operand.tmp 31, Operand.tmp 42], argTypes := #[86, 86] }, type := 86, pos := "sigma.go:111", after := #[{ on := 2, ground := Ground.data }, { on := 13, ground := Ground.data }, { on := 5, ground := Ground.chain }], guard := none }) rfl (fun K hK => ?_) AllReadyH.nil
  have HH := hidden hH2
  clear hH2
  refine wp_append_own _ (.tmp 31) (.tmp 42) 86 rfl B 93 i0 (.agg #[.int .u64 0, .int .u64 0, .int .u64 0, .int .u64 0, .int .u64 0, .int .u64 0, .int .u64 0, .int .u64 0]) 8 64 HU.out HI.out HZ0.out HZ1.out HZ2.out rfl (by decide) (.slice (some ⟨tl, 0, none⟩) n n) n xs rfl OL.out ⟨tb, 0, none⟩ 1 1 [.int .u64 nz.x0, .int .u64 nz.x1, .int .u64 nz.x2, .int .u64 nz.x3, .int .u64 im.x0, .int .u64 im.x1, .int .u64 im.x2, .int .u64 im.x3] rfl (by simp) CB.out H5.out (by unfold maxLen; omega) (by omega) (Nat.le_trans hBW HH.out.size) (fun v2 wn3 hO hG _ => ?_)
  have O2 := hidden (hO)
  replace TH := hidden (there_gb TH.out hG neD)
  have SN := hidden (below_trans HH.out (below_grown hG (Nat.le_trans hBW HH.out.size) (fun k hk => (OL.out.lt k hk).1)))
  clear HH OL CB hO hG
  simp only [Act.put, List.setIfInBounds_toArray, List.set_cons_zero, List.set_cons_succ]
  refine hK.out _ _ SN.out (fun hH3 => ?_)
  clear hK K SN
  refine wpAnyH_ready (rs := [15]) (by kernel_rfl) (by simp) ?_
  refine AllReadyH.cons (o := { dst := some 44, op := Op.call { callee := Callee.value (Operand.func 37), args := #[Operand.tmp 43], argTypes := #[86] }, type := 51, pos := "sigma.go:111", after := #[{ on := 14, ground := Ground.data }, { on := 14, ground := Ground.chain }], guard := none }) rfl (fun K hK => ?_) AllReadyH.nil
  have HH := hidden hH3
  clear hH3
  go_simp
  refine (C15.out _ v2 HH.out O2.out).mono ?_
  rintro e wn4 ⟨rfl, hb⟩
  replace TH := hidden (Li.there_bl TH.out hb)
  have SN := hidden (HH.out.trans (below_less hb (Nat.le_trans hBW HH.out.size)))
  clear HH C15 hb O2
  go_wp2_with fail
  refine hK.out _ _ SN.out (fun hH4 => ?_)
  clear hK K SN
  refine wpAnyH_take (i := 16) (oi := { dst := some 45, op := Op.indexAddr 46 (Operand.tmp 29) (Operand.tmp 30), type := 0, pos := "sigma.go:111", after := #[{ on := 0, ground := Ground.data }, { on := 1, ground := Ground.data }, { on := 0, ground := Ground.phase }, { on := 1, ground := Ground.phase }, { on := 2, ground := Ground.phase }, { on := 3, ground := Ground.phase }, { on := 4, ground := Ground.phase }, { on := 5, ground := Ground.phase }, { on := 6, ground := Ground.phase }, { on := 7, ground := Ground.phase }, { on := 8, ground := Ground.phase }, { on := 9, ground := Ground.phase }, { on := 10, ground := Ground.phase }, { on := 11, ground := Ground.phase }, { on := 12, ground := Ground.phase }, { on := 13, ground := Ground.phase }, { on := 14, ground := Ground.phase }, { on := 15, ground := Ground.phase }], guard := none }) (v := .pointer (some ⟨D, 0, none⟩)) rfl (by kernel_rfl) (by kernel_rfl) (by kernel_rfl) (fun _ _ _ h => h) (Or.inl ⟨by rfl, fun w0 hSw => ?_⟩) hH4 ?_
  · (clear hSw; go_simp)
  simp only [Act.put, List.setIfInBounds_toArray, List.set_cons_zero, List.set_cons_succ]
  refine wpAnyH_ready (rs := [17]) (by kernel_rfl) (by simp) ?_
  refine AllReadyH.cons (o := { dst := none, op := Op.store 51 (Operand.tmp 45) (Operand.tmp 44), type := 0, pos := "sigma.go:111", after := #[{ on := 16, ground := Ground.data }, { on := 15, ground := Ground.data }, { on := 15, ground := Ground.chain }, { on := 0, ground := Ground.phase }, { on := 1, ground := Ground.phase }, { on := 2, ground := Ground.phase }, { on := 3, ground := Ground.phase }, { on := 4, ground := Ground.phase }, { on := 5, ground := Ground.phase }, { on := 6, ground := Ground.phase }, { on := 7, ground := Ground.phase }, { on := 8, ground := Ground.phase }, { on := 9, ground := Ground.phase }, { on := 10, ground := Ground.phase }, { on := 11, ground := Ground.phase }, { on := 12, ground := Ground.phase }, { on := 13, ground := Ground.phase }, { on := 14, ground := Ground.phase }, { on := 15, ground := Ground.phase }], guard := none }) rfl (fun K hK => ?_) AllReadyH.nil
  have HH := hidden hH4
  clear hH4
  refine wp_storeE 51 _ _ rfl D 0 ([.int .u64 r.x0, .int .u64 r.x1, .int .u64 r.x2, .int .u64 r.x3]) (by rfl) (by rfl) TH.out i4_L (one4 r) rfl (fun wn5 hw => ?_)
  have SN := hidden (HH.out.trans (below_grown (gb_setCells D [.int .u64 r.x0, .int .u64 r.x1, .int .u64 r.x2, .int .u64 r.x3] 0 _) (Nat.le_trans hBW HH.out.size) (fun k hk => by have := Option.some.inj hk; omega)))
  have FE := hidden ((⟨_, HH.out, TH.out, hw⟩ : ∃ wy, Below B W wy ∧ wy.there D 0 4 ∧ _ = wy.setCells D 0 [.int .u64 r.x0, .int .u64 r.x1, .int .u64 r.x2, .int .u64 r.x3]))
  rw [← hw] at SN
  clear HH hw
  refine hK.out _ _ SN.out (fun hH5 => ?_)
  clear hK K SN
  have HH := hidden hH5
  have FQ := hidden (HQ.out v2 tb _ FE.out)
  refine wpAnyH_done (by kernel_rfl) ?_ _
  refine NoPanic.normal ?_
  exact FQ.out
end Go.Proofs.YtapieajkmpnmoaaGreatDoor.Li
namespace Go.Proofs.YtapieajkmpnmoaaGreatDoor
open Go.RowKit
set_option linter.unusedVariables false
set_option maxRecDepth 100000 in
set_option maxHeartbeats 8000000 in
theorem sim_any (R I g n cR cI cn cx : Nat) (Px Pi : Option Addr) (ni ci : Nat) (ch : E4) (ks : Nat → E4) (Pf : Nat → Option Addr) (nf cf : Nat → Nat) (fs : Nat → Nat → Int) (fi : Nat → Int) (w : World) (hn : n ≤ 20) (hn1 : 1 ≤ n) (hT : Tb w) (hch : ch.ok) (hl : Lm w Px n ks) (ok : ∀ i, i < n → (ks i).ok) (hr : w.cell? ⟨R, 0, none⟩ = some (.slice (some ⟨g, 0, none⟩) n cn)) (hg : ∀ q, q < n → w.cell? ⟨g, q, none⟩ = some (.slice (Pf q) (nf q) (cf q)) ∧ Fr w (.agg #[.slice (Pf q) (nf q) (cf q)]) (fs q)) (him : w.cell? ⟨I, 0, none⟩ = some (.slice Pi ni ci)) (hF : Fr w (.agg #[.slice Pi ni ci]) fi) :
    Calls Tryz.prog 11 #[.agg #[.slice (some ⟨R, 0, none⟩) 1 cR, .slice (some ⟨I, 0, none⟩) 1 cI, .int .u64 ch.x0, .int .u64 ch.x1, .int .u64 ch.x2, .int .u64 ch.x3, .slice Px n cx]] w fun e w' => ∃ D A m c : Nat, e = .returned (.slice (some ⟨D, 0, none⟩) 1 1) ∧ w.heap.size ≤ D ∧ w'.cell? ⟨D, 0, none⟩ = some (.slice (some ⟨A, 0, none⟩) m c) ∧ Fl w' (.agg #[.slice (some ⟨A, 0, none⟩) m c]) (fun t => tot (fun q => (ks q).n * fs q t) n + -ch.n * fi t) ∧ Below w.heap.size w w' := by
  obtain ⟨i0, hi, hz0, hz1, hz2⟩ := info_parts finfo
  have hmk := fun w => run_make (P := Tryz.prog) w 27 32 i0 (.agg #[.slice none 0 0]) (by kernel_rfl) hi hz0 .i64 .i64 1 1 (by omega) (Int.le_refl _) (by rw [hz2]; omega) (by omega)
  simp only [show ((1 : Int)).toNat = 1 from rfl, hz1, Value.cells, Nat.one_mul] at hmk
  clear hi hz0 hz1 hz2
  have B1 := bl_alloc w (.cells #[.slice (some ⟨R, 0, none⟩) 1 cR, .slice (some ⟨I, 0, none⟩) 1 cI, .int .u64 ch.x0, .int .u64 ch.x1, .int .u64 ch.x2, .int .u64 ch.x3, .slice Px n cx] 43)
  have B2 := bl_trans B1 (bl_alloc (w.alloc (.cells #[.slice (some ⟨R, 0, none⟩) 1 cR, .slice (some ⟨I, 0, none⟩) 1 cI, .int .u64 ch.x0, .int .u64 ch.x1, .int .u64 ch.x2, .int .u64 ch.x3, .slice Px n cx] 43)) (.cells (madeCells #[.slice none 0 0] (1)) 32))
  have e0 : ((w.alloc (.cells #[.slice (some ⟨R, 0, none⟩) 1 cR, .slice (some ⟨I, 0, none⟩) 1 cI, .int .u64 ch.x0, .int .u64 ch.x1, .int .u64 ch.x2, .int .u64 ch.x3, .slice Px n cx] 43)).alloc (.cells (madeCells #[.slice none 0 0] (1)) 32)).cell? ⟨w.heap.size, 0, none⟩ = some (.slice (some ⟨R, 0, none⟩) 1 cR) := cell_keep (by go_simp) (bl_alloc _ _)
  have e1 : ((w.alloc (.cells #[.slice (some ⟨R, 0, none⟩) 1 cR, .slice (some ⟨I, 0, none⟩) 1 cI, .int .u64 ch.x0, .int .u64 ch.x1, .int .u64 ch.x2, .int .u64 ch.x3, .slice Px n cx] 43)).alloc (.cells (madeCells #[.slice none 0 0] (1)) 32)).cell? ⟨w.heap.size, 1, none⟩ = some (.slice (some ⟨I, 0, none⟩) 1 cI) := cell_keep (by go_simp) (bl_alloc _ _)
  have c0 : ((w.alloc (.cells #[.slice (some ⟨R, 0, none⟩) 1 cR, .slice (some ⟨I, 0, none⟩) 1 cI, .int .u64 ch.x0, .int .u64 ch.x1, .int .u64 ch.x2, .int .u64 ch.x3, .slice Px n cx] 43)).alloc (.cells (madeCells #[.slice none 0 0] (1)) 32)).cell? ⟨w.heap.size, 2, none⟩ = some (.int .u64 ch.x0) := cell_keep (by go_simp) (bl_alloc _ _)
  have c1 : ((w.alloc (.cells #[.slice (some ⟨R, 0, none⟩) 1 cR, .slice (some ⟨I, 0, none⟩) 1 cI, .int .u64 ch.x0, .int .u64 ch.x1, .int .u64 ch.x2, .int .u64 ch.x3, .slice Px n cx] 43)).alloc (.cells (madeCells #[.slice none 0 0] (1)) 32)).cell? ⟨w.heap.size, 3, none⟩ = some (.int .u64 ch.x1) := cell_keep (by go_simp) (bl_alloc _ _)
  have c2 : ((w.alloc (.cells #[.slice (some ⟨R, 0, none⟩) 1 cR, .slice (some ⟨I, 0, none⟩) 1 cI, .int .u64 ch.x0, .int .u64 ch.x1, .int .u64 ch.x2, .int .u64 ch.x3, .slice Px n cx] 43)).alloc (.cells (madeCells #[.slice none 0 0] (1)) 32)).cell? ⟨w.heap.size, 4, none⟩ = some (.int .u64 ch.x2) := cell_keep (by go_simp) (bl_alloc _ _)
  have c3 : ((w.alloc (.cells #[.slice (some ⟨R, 0, none⟩) 1 cR, .slice (some ⟨I, 0, none⟩) 1 cI, .int .u64 ch.x0, .int .u64 ch.x1, .int .u64 ch.x2, .int .u64 ch.x3, .slice Px n cx] 43)).alloc (.cells (madeCells #[.slice none 0 0] (1)) 32)).cell? ⟨w.heap.size, 5, none⟩ = some (.int .u64 ch.x3) := cell_keep (by go_simp) (bl_alloc _ _)
  have e6 : ((w.alloc (.cells #[.slice (some ⟨R, 0, none⟩) 1 cR, .slice (some ⟨I, 0, none⟩) 1 cI, .int .u64 ch.x0, .int .u64 ch.x1, .int .u64 ch.x2, .int .u64 ch.x3, .slice Px n cx] 43)).alloc (.cells (madeCells #[.slice none 0 0] (1)) 32)).cell? ⟨w.heap.size, 6, none⟩ = some (.slice Px n cx) := cell_keep (by go_simp) (bl_alloc _ _)
  have th : ((w.alloc (.cells #[.slice (some ⟨R, 0, none⟩) 1 cR, .slice (some ⟨I, 0, none⟩) 1 cI, .int .u64 ch.x0, .int .u64 ch.x1, .int .u64 ch.x2, .int .u64 ch.x3, .slice Px n cx] 43)).alloc (.cells (madeCells #[.slice none 0 0] (1)) 32)).there (w.heap.size + 1) 0 1 := by
    have := there_newM (w.alloc (.cells #[.slice (some ⟨R, 0, none⟩) 1 cR, .slice (some ⟨I, 0, none⟩) 1 cI, .int .u64 ch.x0, .int .u64 ch.x1, .int .u64 ch.x2, .int .u64 ch.x3, .slice Px n cx] 43)) (madeCells #[.slice none 0 0] 1).toList 32
    simpa [World.size_alloc, size_madeCells] using this
  have rr := cell_keep hr B2
  have SZ2 : ((w.alloc (.cells #[.slice (some ⟨R, 0, none⟩) 1 cR, .slice (some ⟨I, 0, none⟩) 1 cI, .int .u64 ch.x0, .int .u64 ch.x1, .int .u64 ch.x2, .int .u64 ch.x3, .slice Px n cx] 43)).alloc (.cells (madeCells #[.slice none 0 0] (1)) 32)).heap.size = w.heap.size + 1 + 1 := by simp only [World.size_alloc]
  have lI := World.block_lt_of_cell? w _ him
  obtain ⟨nz, hnz⟩ : ∃ nz, lst (-ch.n) = nz := ⟨_, rfl⟩
  have nzok : nz.ok := hnz ▸ lst_ok _
  go_enter Tryz.func11, Tryz.ntmps11
  go_upto_region 2 with fail
  generalize ((w.alloc (.cells #[.slice (some ⟨R, 0, none⟩) 1 cR, .slice (some ⟨I, 0, none⟩) 1 cI, .int .u64 ch.x0, .int .u64 ch.x1, .int .u64 ch.x2, .int .u64 ch.x3, .slice Px n cx] 43)).alloc (.cells (madeCells #[.slice none 0 0] (1)) 32)) = w2 at *
  clear hmk
  have ZC := hidden (fun (x : World) (hx : Below w2.heap.size w2 x) => zip_any Px g n cx cn ks Pf nf cf x (by omega) (hl.keep (bl_trans B2 hx)) (fun q hq => cell_keep (hg q hq).1 (bl_trans B2 hx)))
  go_wp2_with fail
  go_loopw [17] (fun iv w' => ∃ i : Nat, (i = 0 ∧ w' = w2 ∨ i = 1 ∧ Hid (∃ A m c : Nat, w'.cell? ⟨w.heap.size + 1, 0, none⟩ = some (.slice (some ⟨A, 0, none⟩) m c) ∧ w.heap.size ≤ A ∧ Fl w' (.agg #[.slice (some ⟨A, 0, none⟩) m c]) (fun t => tot (fun q => (ks q).n * fs q t) n + -ch.n * fi t) ∧ Below w.heap.size w w')) ∧ iv = .int .i64 i) (fun i _ => 1 - (intOf i).toNat)
  case atStart => exact ⟨0, .inl ⟨rfl, rfl⟩, rfl⟩
  case round =>
    obtain ⟨i, ⟨rfl, rfl⟩ | ⟨rfl, hP⟩, rfl⟩ := hrel
    · go_upto_region 6 with (first | (go_at_call 19; refine (ZC.out _ (Below.refl _ _)).mono ?_; rintro e wa ⟨tl, rfl, hl0, rl, ba⟩; have HA := hidden (And.intro hl0 (And.intro rl ba)); clear hl0 rl ba ZC))
      obtain ⟨hl0, rl, ba⟩ := HA.out
      have AL : ∀ x, Below (w.heap.size + 1) wa x → Below w.heap.size w x := fun x hx => below_trans (bl_trans B2 ba) (below_less hx (by omega))
      have sa := ba.size
      have tha := Li.there_bl th ba
      have ol := rowIs_own rl (B := w.heap.size + 1) (by omega) (by omega)
      have C5 := hidden (fun (x : World) (hx : Below (w.heap.size + 1) wa x) => fix (R := lst (-ch.n)) (Neg_any ch x (hT.keep (AL x hx)) hch) rfl)
      rw [hnz] at C5
      have rj := rows_join n 0 ks ks nz (fun q => Value.slice (Pf q) (nf q) (cf q)) (fun q => Value.slice (Pf q) (nf q) (cf q)) (.slice Pi ni ci)
      simp only [Nat.zero_mul, List.range_zero, List.map_nil, List.append_nil, Nat.add_zero] at rj
      have C15 := hidden (fun (x : World) (v2 : Value) (hx : Below (w.heap.size + 1) wa x) (hO : x.ownsRow (w.heap.size + 1) 68 5 v2 (n + 1) ((List.range (n * 5)).map (tvl ks (fun q => Value.slice (Pf q) (nf q) (cf q))) ++ [.int .u64 nz.x0, .int .u64 nz.x1, .int .u64 nz.x2, .int .u64 nz.x3, .slice Pi ni ci])) => show Calls Tryz.prog 20 #[v2] x fun e w' => FqL x w' e (fun t => tot (fun q => (kj n 0 ks ks nz q).n * xj n 0 fs fs fi q t) (n + 1)) by
        rw [rj] at hO
        obtain ⟨gg, cap, rfl, hgB, hcap⟩ := own_shape5 hO (by omega)
        refine total_F gg 0 (n + 1) cap (kj n 0 ks ks nz) (xj n 0 fs fs fi) x (by omega) (by omega) hcap (hT.keep (AL x hx)) (own_tm hO (fun i hi => ?_) (fun i hi => ?_))
        · unfold kj
          by_cases q1 : i < n
          · rw [if_pos q1]; exact ok i q1
          · rw [if_neg q1, if_neg (by omega)]; exact nzok
        · unfold vj xj
          by_cases q1 : i < n
          · rw [if_pos q1, if_pos q1]; exact ⟨_, _, _, rfl, ((hg i q1).2).keep (AL x hx)⟩
          · rw [if_neg q1, if_neg q1, if_neg (by omega), if_neg (by omega)]; exact ⟨_, _, _, rfl, hF.keep (AL x hx)⟩)
      refine si6 _ (w.heap.size + 1) w.heap.size I (w.heap.size + 1) tl n cI ch nz _ Pi ni ci (fun t => tot (fun q => (kj n 0 ks ks nz q).n * xj n 0 fs fs fi q t) (n + 1)) _ _ _ _ _ _ _ _ _ _ _ _ _ _ _ _ _ _ _ _ _ _ _ _ _ _ _ _ _ _ _ _ _ _ _ _ _ _ _ _ _ _ _ _ wa (by omega) hn (by omega) (by first | omega | (simp only at lI; omega)) (cell_keep c0 ba) (cell_keep c1 ba) (cell_keep c2 ba) (cell_keep c3 ba) (cell_keep e1 ba) (cell_keep him (bl_trans B2 ba)) ol tha (Nat.le_refl _) (by omega) C5 C15 (hidden ?_)
      intro v2 tb A m k wz hz
      have PN : Hid (∃ A m c : Nat, wz.cell? ⟨w.heap.size + 1, 0, none⟩ = some (.slice (some ⟨A, 0, none⟩) m c) ∧ w.heap.size ≤ A ∧ Fl wz (.agg #[.slice (some ⟨A, 0, none⟩) m c]) (fun t => tot (fun q => (ks q).n * fs q t) n + -ch.n * fi t) ∧ Below w.heap.size w wz) := hidden (by
        obtain ⟨wy, hy, hty, hFy, hA, rfl⟩ := hz
        refine ⟨A, m, k, World.rangeAt_setCells_same wy (w.heap.size + 1) 0 [.slice (some ⟨A, 0, none⟩) m k] hty 0 _ rfl, by omega, (hFy.keepG (w.heap.size + 1) (gb_setCells _ _ 0 _) ?_).congr (fun t => ?_), below_trans (AL wy hy) (below_grown (gb_setCells _ _ 0 _) (AL wy hy).size (fun j hj => by have := Option.some.inj hj; omega))⟩
        · rintro P n c hP _ a rfl
          simp only [Value.agg.injEq, Array.mk.injEq, List.cons.injEq, Value.slice.injEq, Option.some.injEq, and_true] at hP
          obtain ⟨rfl, _⟩ := hP
          simp only
          omega
        · have sj := sum_join n 0 ks ks nz fs fs fi t
          simp only [tot, Int.add_zero] at sj
          show lst (tot (fun q => (kj n 0 ks ks nz q).n * xj n 0 fs fs fi q t) (n + 1)) = _
          rw [show tot (fun q => (kj n 0 ks ks nz q).n * xj n 0 fs fs fi q t) (n + 1) = _ from sj, ← hnz]
          exact lst_two rfl (lst_twoM (lst_n' _) rfl))
      clear C5 C15 ol tha rl rj AL HA hz
      go_wp2_with fail
      go_roundw
      case rel => exact ⟨1, .inr ⟨rfl, PN⟩, by go_num⟩
      case measure => simp [intOf]
    · go_wp2_with fail
      obtain ⟨A, m, c, q1, q2, q3, q4⟩ := hP.out
      refine bodyPost_ret (v := .slice (some ⟨w.heap.size + 1, 0, none⟩) 1 1) (by simp [results, Tryz.results11, go_sem]) rfl ⟨w.heap.size + 1, A, m, c, rfl, by omega, q1, q3, q4⟩
end Go.Proofs.YtapieajkmpnmoaaGreatDoor
namespace Go.Proofs.YtapieajkmpnmoaaGreatDoor.Li
open Go.RowKit
set_option linter.unusedVariables false
def k1 (n : Nat) (k : Nat → E4) (z : E4) (q : Nat) : E4 := if q < n then k q else z
theorem k1_ok {n : Nat} {k : Nat → E4} {z : E4} (ok : ∀ i, i < n → (k i).ok) (hz : z.ok) (i : Nat) (_ : i < n + 1) : (k1 n k z i).ok := by
  unfold k1
  by_cases q : i < n
  · rw [if_pos q]; exact ok i q
  · rw [if_neg q]; exact hz
theorem k1_sum (n : Nat) (ks gs : Nat → E4) (nz im ch : E4) (hnz : lst (-ch.n) = nz) : lst (tot (fun q => (k1 n ks nz q).n * (k1 n gs im q).n) (n + 1)) = lst (tot (fun q => (ks q).n * (gs q).n) n + -ch.n * im.n) := by
  rw [tot]
  refine lst_two ?_ ?_
  · refine congrArg lst (tot_congr _ (fun i hi => ?_))
    unfold k1; rw [if_pos hi, if_pos hi]
  · show lst ((k1 n ks nz n).n * (k1 n gs im n).n) = _
    unfold k1
    rw [if_neg (Nat.lt_irrefl n), if_neg (Nat.lt_irrefl n), ← hnz]
    exact lst_twoM (lst_n' _) rfl
theorem tvl_congr {K K' G G' : Nat → E4} {j : Nat} (h2 : K (j / 8) = K' (j / 8)) (h3 : G (j / 8) = G' (j / 8)) : tvl K G j = tvl K' G' j := by unfold tvl; rw [h2, h3]
theorem rows_join1 (n : Nat) (ks gs : Nat → E4) (nz im : E4) : (List.range (n * 8)).map (tvl ks gs) ++ [.int .u64 nz.x0, .int .u64 nz.x1, .int .u64 nz.x2, .int .u64 nz.x3, .int .u64 im.x0, .int .u64 im.x1, .int .u64 im.x2, .int .u64 im.x3] = (List.range ((n + 1) * 8)).map (tvl (k1 n ks nz) (k1 n gs im)) := by
  refine List.ext_getElem? (fun j => ?_)
  by_cases hj : j < (n + 1) * 8
  · rw [List.getElem?_map, List.getElem?_range hj]
    by_cases h1 : j < n * 8
    · rw [List.getElem?_append_left (by simpa using h1), List.getElem?_map, List.getElem?_range h1]
      refine congrArg some (tvl_congr ?_ ?_)
      · unfold k1; rw [if_pos (by omega)]
      · unfold k1; rw [if_pos (by omega)]
    · rw [List.getElem?_append_right (by simp; omega)]
      simp only [List.length_map, List.length_range]
      have kf : k1 n ks nz n = nz := by unfold k1; rw [if_neg (Nat.lt_irrefl n)]
      have gf : k1 n gs im n = im := by unfold k1; rw [if_neg (Nat.lt_irrefl n)]
      have e0 : j = n * 8 ∨ j = n * 8 + 1 ∨ j = n * 8 + 2 ∨ j = n * 8 + 3 ∨ j = n * 8 + 4 ∨ j = n * 8 + 5 ∨ j = n * 8 + 6 ∨ j = n * 8 + 7 := by omega
      obtain rfl | rfl | rfl | rfl | rfl | rfl | rfl | rfl := e0
      · rw [show n * 8 - n * 8 = 0 by omega, Option.map_some, tvl0, kf]; rfl
      · rw [show n * 8 + 1 - n * 8 = 1 by omega, Option.map_some, tvl1, kf]; rfl
      · rw [show n * 8 + 2 - n * 8 = 2 by omega, Option.map_some, tvl2, kf]; rfl
      · rw [show n * 8 + 3 - n * 8 = 3 by omega, Option.map_some, tvl3, kf]; rfl
      · rw [show n * 8 + 4 - n * 8 = 4 by omega, Option.map_some, tvl4, gf]; rfl
      · rw [show n * 8 + 5 - n * 8 = 5 by omega, Option.map_some, tvl5, gf]; rfl
      · rw [show n * 8 + 6 - n * 8 = 6 by omega, Option.map_some, tvl6, gf]; rfl
      · rw [show n * 8 + 7 - n * 8 = 7 by omega, Option.map_some, tvl7, gf]; rfl
  · rw [List.getElem?_eq_none (by simp; omega), List.getElem?_eq_none (by simp; omega)]
theorem rowIs_own8 {w : World} {b L B : Nat} {t : TypeId} {f : Nat → Value} (h : w.rowIs b t (L * 8) f) (hB : B ≤ b) (hL : L ≤ 64) : w.ownsRow B t 8 (.slice (some ⟨b, 0, none⟩) L L) L ((List.range (L * 8)).map f) := by
  obtain ⟨c, h1, h2, h3⟩ := h
  refine ⟨by simp, .inr ⟨b, L, c, rfl, hB, h1, Nat.le_refl _, by unfold maxLen; omega, h2, ?_⟩⟩
  rw [← h2, ← Array.length_toList, List.take_length]
  refine List.ext_getElem? (fun i => ?_)
  by_cases hi : i < L * 8
  · rw [Array.getElem?_toList, h3 i hi, List.getElem?_map, Array.length_toList, h2, List.getElem?_range hi]; rfl
  · rw [Array.getElem?_toList, Array.getElem?_eq_none (by omega), List.getElem?_eq_none (by rw [List.length_map, List.length_range, Array.length_toList]; omega)]
theorem own_shape8 {w : World} {B N : Nat} {t : TypeId} {v : Value} {xs : List Value} (h : w.ownsRow B t 8 v N xs) (hN : 0 < N) : ∃ g cap, v = .slice (some ⟨g, 0, none⟩) N cap ∧ B ≤ g ∧ N ≤ cap := by
  rcases h.2 with ⟨_, h0⟩ | ⟨g, cap, cur, h1, hB, _, hnc, _⟩
  · omega
  · exact ⟨g, cap, h1, hB, hnc⟩
theorem own_tm8 {w : World} {B N g cap : Nat} {K G : Nat → E4} (h : w.ownsRow B 93 8 (.slice (some ⟨g, 0, none⟩) N cap) N ((List.range (N * 8)).map (tvl K G))) (ok : ∀ i, i < N → (K i).ok) (og : ∀ i, i < N → (G i).ok) : Tm w g 0 N K (fun q _ => (G q).n) := by
  have c : ∀ j, j < N * 8 → w.cell? ⟨g, j, none⟩ = some (tvl K G j) := fun j hj => by rw [h.cellAt j hj, List.getElem?_map, List.getElem?_range hj]; rfl
  refine ⟨fun i hi => ?_, ok, fun i hi => ⟨G i, ?_, og i hi, fun _ => rfl⟩⟩
  · rw [Nat.zero_add]
    exact range4 (by rw [c _ (by omega), tvl0]) (by rw [c _ (by omega), tvl1]) (by rw [c _ (by omega), tvl2]) (by rw [c _ (by omega), tvl3])
  · rw [Nat.zero_add]
    exact range4 (by rw [c _ (by omega), tvl4]) (by rw [show i * 8 + 4 + 1 = i * 8 + 5 from rfl, c _ (by omega), tvl5]) (by rw [show i * 8 + 4 + 2 = i * 8 + 6 from rfl, c _ (by omega), tvl6]) (by rw [show i * 8 + 4 + 3 = i * 8 + 7 from rfl, c _ (by omega), tvl7])
set_option maxRecDepth 100000 in
set_option maxHeartbeats 8000000 in
theorem sim_any (R I g n cR cI cn cx : Nat) (Px : Option Addr) (ch im : E4) (ks gs : Nat → E4) (w : World) (hn : n ≤ 20) (hn1 : 1 ≤ n) (hT : Tb w) (hch : ch.ok) (hl : Lm w Px n ks) (ok : ∀ i, i < n → (ks i).ok) (hr : w.cell? ⟨R, 0, none⟩ = some (.slice (some ⟨g, 0, none⟩) n cn)) (hg : Rl w g 0 n gs) (og : ∀ q, q < n → (gs q).ok) (him : w.rangeAt I 0 [.int .u64 im.x0, .int .u64 im.x1, .int .u64 im.x2, .int .u64 im.x3]) (oi : im.ok) :
    Calls Tryz.prog 26 #[.agg #[.slice (some ⟨R, 0, none⟩) 1 cR, .slice (some ⟨I, 0, none⟩) 1 cI, .int .u64 ch.x0, .int .u64 ch.x1, .int .u64 ch.x2, .int .u64 ch.x3, .slice Px n cx]] w fun e w' => ∃ D : Nat, e = .returned (.slice (some ⟨D, 0, none⟩) 1 1) ∧ w.heap.size ≤ D ∧ w'.rangeAt D 0 [.int .u64 (lst (tot (fun q => (ks q).n * (gs q).n) n + -ch.n * im.n)).x0, .int .u64 (lst (tot (fun q => (ks q).n * (gs q).n) n + -ch.n * im.n)).x1, .int .u64 (lst (tot (fun q => (ks q).n * (gs q).n) n + -ch.n * im.n)).x2, .int .u64 (lst (tot (fun q => (ks q).n * (gs q).n) n + -ch.n * im.n)).x3] ∧ Below w.heap.size w w' := by
  obtain ⟨i0, hi, hz0, hz1, hz2⟩ := info_parts linfo
  have hmk := fun w => run_make (P := Tryz.prog) w 46 51 i0 (.agg #[.int .u64 0, .int .u64 0, .int .u64 0, .int .u64 0]) (by kernel_rfl) hi hz0 .i64 .i64 1 1 (by omega) (Int.le_refl _) (by rw [hz2]; omega) (by omega)
  simp only [show ((1 : Int)).toNat = 1 from rfl, hz1, Value.cells, Nat.one_mul] at hmk
  clear hi hz0 hz1 hz2
  have B1 := bl_alloc w (.cells #[.slice (some ⟨R, 0, none⟩) 1 cR, .slice (some ⟨I, 0, none⟩) 1 cI, .int .u64 ch.x0, .int .u64 ch.x1, .int .u64 ch.x2, .int .u64 ch.x3, .slice Px n cx] 70)
  have B2 := bl_trans B1 (bl_alloc (w.alloc (.cells #[.slice (some ⟨R, 0, none⟩) 1 cR, .slice (some ⟨I, 0, none⟩) 1 cI, .int .u64 ch.x0, .int .u64 ch.x1, .int .u64 ch.x2, .int .u64 ch.x3, .slice Px n cx] 70)) (.cells (madeCells #[.int .u64 0, .int .u64 0, .int .u64 0, .int .u64 0] (4)) 51))
  have e0 : ((w.alloc (.cells #[.slice (some ⟨R, 0, none⟩) 1 cR, .slice (some ⟨I, 0, none⟩) 1 cI, .int .u64 ch.x0, .int .u64 ch.x1, .int .u64 ch.x2, .int .u64 ch.x3, .slice Px n cx] 70)).alloc (.cells (madeCells #[.int .u64 0, .int .u64 0, .int .u64 0, .int .u64 0] (4)) 51)).cell? ⟨w.heap.size, 0, none⟩ = some (.slice (some ⟨R, 0, none⟩) 1 cR) := cell_keep (by go_simp) (bl_alloc _ _)
  have e1 : ((w.alloc (.cells #[.slice (some ⟨R, 0, none⟩) 1 cR, .slice (some ⟨I, 0, none⟩) 1 cI, .int .u64 ch.x0, .int .u64 ch.x1, .int .u64 ch.x2, .int .u64 ch.x3, .slice Px n cx] 70)).alloc (.cells (madeCells #[.int .u64 0, .int .u64 0, .int .u64 0, .int .u64 0] (4)) 51)).cell? ⟨w.heap.size, 1, none⟩ = some (.slice (some ⟨I, 0, none⟩) 1 cI) := cell_keep (by go_simp) (bl_alloc _ _)
  have c0 : ((w.alloc (.cells #[.slice (some ⟨R, 0, none⟩) 1 cR, .slice (some ⟨I, 0, none⟩) 1 cI, .int .u64 ch.x0, .int .u64 ch.x1, .int .u64 ch.x2, .int .u64 ch.x3, .slice Px n cx] 70)).alloc (.cells (madeCells #[.int .u64 0, .int .u64 0, .int .u64 0, .int .u64 0] (4)) 51)).cell? ⟨w.heap.size, 2, none⟩ = some (.int .u64 ch.x0) := cell_keep (by go_simp) (bl_alloc _ _)
  have c1 : ((w.alloc (.cells #[.slice (some ⟨R, 0, none⟩) 1 cR, .slice (some ⟨I, 0, none⟩) 1 cI, .int .u64 ch.x0, .int .u64 ch.x1, .int .u64 ch.x2, .int .u64 ch.x3, .slice Px n cx] 70)).alloc (.cells (madeCells #[.int .u64 0, .int .u64 0, .int .u64 0, .int .u64 0] (4)) 51)).cell? ⟨w.heap.size, 3, none⟩ = some (.int .u64 ch.x1) := cell_keep (by go_simp) (bl_alloc _ _)
  have c2 : ((w.alloc (.cells #[.slice (some ⟨R, 0, none⟩) 1 cR, .slice (some ⟨I, 0, none⟩) 1 cI, .int .u64 ch.x0, .int .u64 ch.x1, .int .u64 ch.x2, .int .u64 ch.x3, .slice Px n cx] 70)).alloc (.cells (madeCells #[.int .u64 0, .int .u64 0, .int .u64 0, .int .u64 0] (4)) 51)).cell? ⟨w.heap.size, 4, none⟩ = some (.int .u64 ch.x2) := cell_keep (by go_simp) (bl_alloc _ _)
  have c3 : ((w.alloc (.cells #[.slice (some ⟨R, 0, none⟩) 1 cR, .slice (some ⟨I, 0, none⟩) 1 cI, .int .u64 ch.x0, .int .u64 ch.x1, .int .u64 ch.x2, .int .u64 ch.x3, .slice Px n cx] 70)).alloc (.cells (madeCells #[.int .u64 0, .int .u64 0, .int .u64 0, .int .u64 0] (4)) 51)).cell? ⟨w.heap.size, 5, none⟩ = some (.int .u64 ch.x3) := cell_keep (by go_simp) (bl_alloc _ _)
  have e6 : ((w.alloc (.cells #[.slice (some ⟨R, 0, none⟩) 1 cR, .slice (some ⟨I, 0, none⟩) 1 cI, .int .u64 ch.x0, .int .u64 ch.x1, .int .u64 ch.x2, .int .u64 ch.x3, .slice Px n cx] 70)).alloc (.cells (madeCells #[.int .u64 0, .int .u64 0, .int .u64 0, .int .u64 0] (4)) 51)).cell? ⟨w.heap.size, 6, none⟩ = some (.slice Px n cx) := cell_keep (by go_simp) (bl_alloc _ _)
  have th : ((w.alloc (.cells #[.slice (some ⟨R, 0, none⟩) 1 cR, .slice (some ⟨I, 0, none⟩) 1 cI, .int .u64 ch.x0, .int .u64 ch.x1, .int .u64 ch.x2, .int .u64 ch.x3, .slice Px n cx] 70)).alloc (.cells (madeCells #[.int .u64 0, .int .u64 0, .int .u64 0, .int .u64 0] (4)) 51)).there (w.heap.size + 1) 0 4 := by
    have := there_newM (w.alloc (.cells #[.slice (some ⟨R, 0, none⟩) 1 cR, .slice (some ⟨I, 0, none⟩) 1 cI, .int .u64 ch.x0, .int .u64 ch.x1, .int .u64 ch.x2, .int .u64 ch.x3, .slice Px n cx] 70)) (madeCells #[.int .u64 0, .int .u64 0, .int .u64 0, .int .u64 0] 4).toList 51
    simpa [World.size_alloc, size_madeCells] using this
  have rr := cell_keep hr B2
  have SZ2 : ((w.alloc (.cells #[.slice (some ⟨R, 0, none⟩) 1 cR, .slice (some ⟨I, 0, none⟩) 1 cI, .int .u64 ch.x0, .int .u64 ch.x1, .int .u64 ch.x2, .int .u64 ch.x3, .slice Px n cx] 70)).alloc (.cells (madeCells #[.int .u64 0, .int .u64 0, .int .u64 0, .int .u64 0] (4)) 51)).heap.size = w.heap.size + 1 + 1 := by simp only [World.size_alloc]
  have lI := World.block_lt_of_cell? w _ (him 0 _ rfl)
  obtain ⟨nz, hnz⟩ : ∃ nz, lst (-ch.n) = nz := ⟨_, rfl⟩
  have nzok : nz.ok := hnz ▸ lst_ok _
  obtain ⟨r, hrr⟩ : ∃ r, lst (tot (fun q => (k1 n ks nz q).n * (k1 n gs im q).n) (n + 1)) = r := ⟨_, rfl⟩
  go_enter Tryz.func26, Tryz.ntmps26
  go_upto_region 2 with fail
  generalize ((w.alloc (.cells #[.slice (some ⟨R, 0, none⟩) 1 cR, .slice (some ⟨I, 0, none⟩) 1 cI, .int .u64 ch.x0, .int .u64 ch.x1, .int .u64 ch.x2, .int .u64 ch.x3, .slice Px n cx] 70)).alloc (.cells (madeCells #[.int .u64 0, .int .u64 0, .int .u64 0, .int .u64 0] (4)) 51)) = w2 at *
  clear hmk
  have ZC := hidden (fun (x : World) (hx : Below w2.heap.size w2 x) => zip_any Px g n cx cn ks gs x (by omega) (hl.keep (bl_trans B2 hx)) (hg.keep (bl_trans B2 hx)))
  go_wp2_with fail
  go_loopw [17] (fun iv w' => ∃ i : Nat, (i = 0 ∧ w' = w2 ∨ i = 1 ∧ Hid (w'.rangeAt (w.heap.size + 1) 0 [.int .u64 r.x0, .int .u64 r.x1, .int .u64 r.x2, .int .u64 r.x3] ∧ Below w.heap.size w w')) ∧ iv = .int .i64 i) (fun i _ => 1 - (intOf i).toNat)
  case atStart => exact ⟨0, .inl ⟨rfl, rfl⟩, rfl⟩
  case round =>
    obtain ⟨i, ⟨rfl, rfl⟩ | ⟨rfl, hP⟩, rfl⟩ := hrel
    · go_upto_region 6 with (first | (go_at_call 36; refine (ZC.out _ (Below.refl _ _)).mono ?_; rintro e wa ⟨tl, rfl, hl0, rl, ba⟩; have HA := hidden (And.intro hl0 (And.intro rl ba)); clear hl0 rl ba ZC))
      obtain ⟨hl0, rl, ba⟩ := HA.out
      have AL : ∀ x, Below (w.heap.size + 1) wa x → Below w.heap.size w x := fun x hx => below_trans (bl_trans B2 ba) (below_less hx (by omega))
      have sa := ba.size
      have tha := Li.there_bl th ba
      have ol := rowIs_own8 rl (B := w.heap.size + 1) (by omega) (by omega)
      have C5 := hidden (fun (x : World) (hx : Below (w.heap.size + 1) wa x) => fix (R := lst (-ch.n)) (Neg_any ch x (hT.keep (AL x hx)) hch) rfl)
      rw [hnz] at C5
      have rj := rows_join1 n ks gs nz im
      have C15 := hidden (fun (x : World) (v2 : Value) (hx : Below (w.heap.size + 1) wa x) (hO : x.ownsRow (w.heap.size + 1) 93 8 v2 (n + 1) ((List.range (n * 8)).map (tvl ks gs) ++ [.int .u64 nz.x0, .int .u64 nz.x1, .int .u64 nz.x2, .int .u64 nz.x3, .int .u64 im.x0, .int .u64 im.x1, .int .u64 im.x2, .int .u64 im.x3])) => show Calls Tryz.prog 37 #[v2] x fun e w' => e = .returned (.agg #[.int .u64 r.x0, .int .u64 r.x1, .int .u64 r.x2, .int .u64 r.x3]) ∧ Below x.heap.size x w' by
        rw [rj] at hO
        obtain ⟨gg, cap, rfl, hgB, hcap⟩ := own_shape8 hO (by omega)
        have TC := total_any gg 0 (n + 1) cap (k1 n ks nz) (fun q _ => (k1 n gs im q).n) x (by omega) (by omega) hcap (hT.keep (AL x hx)) (own_tm8 hO (fun i hi => k1_ok ok nzok i hi) (fun i hi => k1_ok og oi i hi))
        rw [hrr] at TC
        exact TC)
      refine si6 _ (w.heap.size + 1) w.heap.size I (w.heap.size + 1) tl n cI ch nz _ im r _ _ _ _ _ _ _ _ _ _ _ _ _ _ _ _ _ _ _ _ _ _ _ _ _ _ _ _ _ _ _ _ _ _ _ _ _ _ _ _ _ _ _ _ wa (by omega) hn (by omega) (by first | omega | (simp only at lI; omega)) (cell_keep c0 ba) (cell_keep c1 ba) (cell_keep c2 ba) (cell_keep c3 ba) (cell_keep e1 ba) (cell_keep (him 0 _ rfl) (bl_trans B2 ba)) (cell_keep (him 1 _ rfl) (bl_trans B2 ba)) (cell_keep (him 2 _ rfl) (bl_trans B2 ba)) (cell_keep (him 3 _ rfl) (bl_trans B2 ba)) ol tha (Nat.le_refl _) (by omega) C5 C15 (hidden ?_)
      intro v2 tb wz hz
      have PN : Hid (wz.rangeAt (w.heap.size + 1) 0 [.int .u64 r.x0, .int .u64 r.x1, .int .u64 r.x2, .int .u64 r.x3] ∧ Below w.heap.size w wz) := hidden (by
        obtain ⟨wy, hy, hty, rfl⟩ := hz
        exact ⟨World.rangeAt_setCells_same wy (w.heap.size + 1) 0 [.int .u64 r.x0, .int .u64 r.x1, .int .u64 r.x2, .int .u64 r.x3] hty, below_trans (AL wy hy) (below_grown (gb_setCells _ _ 0 _) (AL wy hy).size (fun j hj => by have := Option.some.inj hj; omega))⟩)
      clear C5 C15 ol tha rl rj AL HA hz
      go_wp2_with fail
      go_roundw
      case rel => exact ⟨1, .inr ⟨rfl, PN⟩, by go_num⟩
      case measure => simp [intOf]
    · go_wp2_with fail
      obtain ⟨q1, q4⟩ := hP.out
      refine bodyPost_ret (v := .slice (some ⟨w.heap.size + 1, 0, none⟩) 1 1) (by simp [results, Tryz.results26, go_sem]) rfl ⟨w.heap.size + 1, rfl, by omega, ?_, q4⟩
      rw [← k1_sum n ks gs nz im ch hnz, hrr]
      exact q1
end Go.Proofs.YtapieajkmpnmoaaGreatDoor.Li
