import Derived.Test.YtlijigolfggcfaaDoorHg
namespace Go.Proofs.YtlijigolfggcfaaDoor
open Go.RowKit
set_option linter.unusedVariables false
set_option maxRecDepth 100000 in
set_option maxHeartbeats 4000000 in
theorem lclone_any (b o m c : Nat) (g : Nat → E4) (w : World) (hm : m ≤ 1048580) (hr : Rl w b o m g) :
    Calls Tryd.prog 15 #[.slice (some ⟨b, o, none⟩) m c] w fun e w' => ∃ v : Value, e = .returned v ∧ w'.ownsRow w.heap.size 29 4 v m (svs m g) ∧ Below w.heap.size w w' := by
  have eqn := fun (a : Option Addr) (l c : Nat) (w : World) => Lib.run_eql_slice_nil (P := Tryd.prog) w 30 29 a l c 0 0 (by kernel_rfl)
  have HL := hidden hm
  obtain ⟨i0, hi, hz0, hz1, hz2⟩ := info_parts linfoG
  have HI := hidden hi
  have HZ0 := hidden hz0
  have HZ1 := hidden hz1
  have HZ2 := hidden hz2
  have HU : Hid (Tryd.prog.underlying 30 = some (.slice 29)) := hidden (by kernel_rfl)
  have O0 := hidden (World.ownsRow_made (base := w.heap.size) (e := 29) (size := 4) w #[] 0 (Nat.le_refl _) (by unfold maxLen; omega) rfl)
  have B0 := hidden (bl_alloc w (.cells #[] 29))
  have HC : Hid (∀ j u, (svs m g)[j]? = some u → (w.alloc (.cells #[] 29)).cell? ((⟨b, o, none⟩ : Addr).add j) = some u) := hidden (fun j u hu => by rw [Addr.add_mid]; exact rl_cells (hr.keep (bl_alloc w _)) m (Nat.le_refl _) j u hu)
  clear hm hr hi hz0 hz1 hz2
  go_enter Tryd.func15, Tryd.ntmps15
  go_wp2_with (first | (at_builtin; refine wpList_append_own_at _ rfl _ _ 30 rfl w.heap.size 29 i0 (.agg #[.int .u64 0, .int .u64 0, .int .u64 0, .int .u64 0]) 4 32 HU.out HI.out HZ0.out HZ1.out HZ2.out rfl (by decide) _ 0 [] rfl O0.out ⟨b, o, none⟩ m c (svs m g) rfl (svs_len _ _) HC.out (svs_one g m) (by have := HL.out; unfold maxLen; omega) (by have := HL.out; omega) B0.out.size ?_; intro v2 w2 ho2 hg2 hn2 ha2; have HO := hidden ho2; have HB := hidden (below_trans B0.out (below_grown hg2 B0.out.size (fun k hk => (O0.out.lt k hk).1))); clear ho2 hg2 hn2 ha2; rw [Nat.zero_add, List.nil_append] at HO))
  refine bodyPost_ret (v := v2) (by simp [results, Tryd.results15, go_sem]) rfl ⟨v2, rfl, HO.out, HB.out⟩
theorem Bx1.setCell {w : World} {b : Nat} {cs : List Value} (h : Bx1 w b cs) (j : Nat) (v : Value) (hj : j < cs.length) : Bx1 (w.setCell ⟨b, j, none⟩ v) b (cs.set j v) := by
  refine ⟨fun i u hu => ?_, fun i hi => ⟨?_, ?_⟩⟩
  · rw [Nat.zero_add]
    by_cases e : i = j
    · subst e
      rw [List.getElem?_set_self hj] at hu
      have := h.r i _ (List.getElem?_eq_getElem hj)
      rw [Nat.zero_add] at this
      rw [← hu]
      go_simp
    · rw [List.getElem?_set_ne (Ne.symm e)] at hu
      rw [setC_neG _ _ _ _ _ e]
      have := h.r i u hu
      rwa [Nat.zero_add] at this
  · have := (h.t i (by simpa using hi)).1
    obtain ⟨u, hu⟩ := Option.isSome_iff_exists.1 this
    rw [Nat.zero_add] at hu ⊢
    by_cases e : i = j
    · subst e; go_simp
    · rw [setC_neG _ _ _ _ _ e, hu]; rfl
  · rw [World.frozen?_setCell]; exact (h.t i (by simpa using hi)).2
theorem Bx1.far {w : World} {b d : Nat} {cs : List Value} (h : Bx1 w b cs) (j : Nat) (v : Value) (hne : d ≠ b) : Bx1 (w.setCell ⟨d, j, none⟩ v) b cs :=
  ⟨fun i u hu => (World.cell?_setCell_far _ _ _ _ hne).trans (h.r i u hu), fun i hi => ⟨by rw [World.cell?_setCell_far _ _ _ _ hne]; exact (h.t i hi).1, by rw [World.frozen?_setCell]; exact (h.t i hi).2⟩⟩
theorem Bx1.c {w : World} {b : Nat} {cs : List Value} (h : Bx1 w b cs) {j : Nat} {v : Value} (hj : cs[j]? = some v) : w.cell? ⟨b, j, none⟩ = some v := by
  have := h.r j v hj
  rwa [Nat.zero_add] at this
theorem Bx1.f {w : World} {b : Nat} {cs : List Value} (h : Bx1 w b cs) {j : Nat} (hj : j < cs.length) : w.frozen? ⟨b, j, none⟩ = false := by
  have := (h.t j hj).2
  rwa [Nat.zero_add] at this
end Go.Proofs.YtlijigolfggcfaaDoor
