import Derived.Test.YtmhpgcfmllcnpaaDoorPo
import Derived.Laws.AppendOwn
import Derived.Maps.AppendAt
import Derived.OwnWalk
namespace Go.Proofs.YtmhpgcfmllcnpaaDoor
open Go.RowKit
set_option linter.unusedVariables false
set_option maxRecDepth 100000 in
set_option maxHeartbeats 8000000 in
theorem alike_len (s s' : Nat → E4) (LP LP' : Option Addr) (n n' cL cL' : Nat) (RV RV' : Value) (w : World) (h : n ≠ n') :
    Calls Tryd.prog 8 #[.agg (pc s (.slice LP n cL) RV).toArray, .agg (pc s' (.slice LP' n' cL') RV').toArray] w fun e w' => e = .returned (.bool false) ∧ Below w.heap.size w w' := by
  obtain ⟨Q1, hQ1⟩ : ∃ P, P = pc s (.slice LP n cL) RV := ⟨_, rfl⟩
  obtain ⟨Q2, hQ2⟩ : ∃ P, P = pc s' (.slice LP' n' cL') RV' := ⟨_, rfl⟩
  rw [← hQ1, ← hQ2]
  have M0 := ((Mw.start w).new Q1 35).new Q2 35
  simp only [World.size_alloc] at M0
  have a28 := (M0.r (w.heap.size, Q1) (by simp)).1 28 (.slice LP n cL) (by rw [hQ1]; rfl)
  have b28 := (M0.r (w.heap.size + 1, Q2) (by simp)).1 28 (.slice LP' n' cL') (by rw [hQ2]; rfl)
  simp only [Nat.zero_add] at a28 b28
  have MB := hidden M0.bel
  have h1 : ¬ (n : Int) = (n' : Int) := by omega
  clear M0 hQ1 hQ2 h
  generalize hW : (w.alloc (.cells Q1.toArray 35)).alloc (.cells Q2.toArray 35) = W at a28 b28 MB
  go_enter Tryd.func8, Tryd.ntmps8
  go_wp2_with fail
  refine bodyPost_ret (v := .bool false) (by simp [results, Tryd.results8, go_sem]) rfl ⟨rfl, MB.out⟩
theorem svs_cell4 (a : E4) : ∀ u ∈ [Value.int .u64 a.x0, .int .u64 a.x1, .int .u64 a.x2, .int .u64 a.x3], u.oneCell' = true := by simp [Value.oneCell']
theorem linfoG : (Tryd.prog.info? 32).map (fun i => (i.zero, i.size, i.bytes)) = some (some (.agg #[.int .u64 0, .int .u64 0, .int .u64 0, .int .u64 0]), 4, 32) := by kernel_rfl
theorem cells_new (w : World) (cs : List Value) (t : TypeId) : ∀ j u, cs[j]? = some u → (w.alloc (.cells cs.toArray t)).cell? ((⟨w.heap.size, 0, none⟩ : Addr).add j) = some u := by
  intro j u hu
  have hadd : (⟨w.heap.size, 0, none⟩ : Addr).add j = ⟨w.heap.size, j, none⟩ := by unfold Addr.add; split <;> simp_all
  rw [hadd, cell_of_row (w.alloc (.cells cs.toArray t)) w.heap.size j cs.toArray t (0, 0) (heap_alloc_new w _)]
  simpa using hu

theorem below_grown {w w' : World} {row : Option Nat} {base : Nat} (hg : w.grownBy w' row) (hb : base ≤ w.heap.size) (hr : ∀ k, row = some k → base ≤ k) : Below base w w' :=
  ⟨hg.os, hg.tape, hg.output, hg.size, fun k hk => hg.block k (by omega) (fun e => by have := hr k e.symm; omega)⟩
theorem below_trans {n : Nat} {w1 w2 w3 : World} (h1 : Below n w1 w2) (h2 : Below n w2 w3) : Below n w1 w3 := ⟨h2.os.trans h1.os, h2.tape.trans h1.tape, h2.output.trans h1.output, Nat.le_trans h1.size h2.size, fun k hk => (h2.block k hk).trans (h1.block k hk)⟩
set_option maxRecDepth 100000 in
set_option maxHeartbeats 8000000 in
theorem lines_any (P : Option Addr) (L c : Nat) (g : Nat → E4) (w : World) (hL : L * 32 ≤ 140737488355328) (hS : Lm w P L g) :
    Calls Tryd.prog 14 #[.slice P L c] w fun e w' => ∃ v : Value, e = .returned v ∧ w'.ownsRow w.heap.size 32 4 v L (svs L g) ∧ Below w.heap.size w w' := by
  have HS := hidden hS
  have HL := hidden hL
  have nn0 : (0 : Int) ≤ (L : Int) := by omega
  obtain ⟨i0, hi, hz0, hz1, hz2⟩ := info_parts linfoG
  have HI := hidden hi
  have HZ0 := hidden hz0
  have HZ1 := hidden hz1
  have HZ2 := hidden hz2
  have HU : Hid (Tryd.prog.underlying 33 = some (.slice 32)) := hidden (by kernel_rfl)
  clear hS hL hi hz0 hz1 hz2
  go_enter Tryd.func14, Tryd.ntmps14
  go_wp2_with fail
  go_loopw [3, 4] (fun cv kv w' => ∃ k : Nat, k ≤ L ∧ kv = .int .i64 (k : Int) ∧ Hid (w'.ownsRow w.heap.size 32 4 cv k (svs k g)) ∧ Hid (Below w.heap.size w w')) (fun _ k _ => L - (intOf k).toNat)
  case atStart => exact ⟨0, by omega, rfl, hidden (World.ownsRow_nil _ _ _ _), hidden (Below.refl _ _)⟩
  case round =>
    obtain ⟨k, hk, rfl, hO, hB⟩ := hrel
    by_cases hkn : k < L
    · have k0 : (0 : Int) ≤ (k : Int) := by omega
      have k1 : (k : Int) < (L : Int) := by omega
      have w9 : IntKind.i64.wrap ((k : Int) + 1) = (k : Int) + 1 := IntWalk.i64_in _ (by have := HL.out; omega)
      obtain ⟨sb, so, h1, h2⟩ := HS.out
      obtain rfl := h1 (by omega)
      have rx := (h2 (by omega)).keep hB.out
      have x0 := rx.c0 k hkn; have x1 := rx.c1 k hkn; have x2 := rx.c2 k hkn; have x3 := rx.c3 k hkn
      have NX := svs_succ k g
      generalize g k = a at x0 x1 x2 x3 NX
      clear rx h1 h2
      go_wp2_with (first | (at_builtin; refine wpList_append_own_at _ rfl _ _ 33 rfl w.heap.size 32 i0 (.agg #[.int .u64 0, .int .u64 0, .int .u64 0, .int .u64 0]) 4 32 HU.out HI.out HZ0.out HZ1.out HZ2.out rfl (by decide) _ k (svs k g) rfl (hO.out.alloc (.cells #[.int .u64 a.x0, .int .u64 a.x1, .int .u64 a.x2, .int .u64 a.x3] 32)) ⟨wr.heap.size, 0, none⟩ 1 1 [.int .u64 a.x0, .int .u64 a.x1, .int .u64 a.x2, .int .u64 a.x3] rfl rfl (cells_new wr [.int .u64 a.x0, .int .u64 a.x1, .int .u64 a.x2, .int .u64 a.x3] 32) (svs_cell4 a) (by have := HL.out; unfold maxLen; omega) (by have := HL.out; omega) (by have := hB.out.size; simp; omega) ?_; intro v4 w4 how4 hgr4 hnil4 hat4; have HO4 := hidden how4; have B4 := hidden (below_trans (bl_trans hB.out (bl_alloc wr (.cells #[.int .u64 a.x0, .int .u64 a.x1, .int .u64 a.x2, .int .u64 a.x3] 32))) (below_grown hgr4 (by have := hB.out.size; simp; omega) (fun k hk => ((hO.out.alloc (.cells #[.int .u64 a.x0, .int .u64 a.x1, .int .u64 a.x2, .int .u64 a.x3] 32)).lt k hk).1))); clear how4 hgr4 hnil4 hat4))
      go_roundw
      case rel => exact ⟨k + 1, by omega, by go_num, hidden (by rw [NX]; exact HO4.out), B4⟩
      case measure => simp [intOf]; omega
    · obtain rfl : k = L := by omega
      have lq : ¬ (k : Int) < (k : Int) := by omega
      go_wp2_with fail
      refine bodyPost_ret (v := u3) (by simp [results, Tryd.results14, go_sem]) rfl ⟨_, rfl, hO.out, hB.out⟩
end Go.Proofs.YtmhpgcfmllcnpaaDoor
