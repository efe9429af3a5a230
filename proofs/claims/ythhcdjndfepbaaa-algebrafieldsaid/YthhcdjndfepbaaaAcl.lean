import Derived.Test.YthhcdjndfepbaaaAco
namespace Go.Proofs.Ythhcdjndfepbaaa
open Go.RowKit
set_option maxRecDepth 100000 in
set_option maxHeartbeats 4000000 in
theorem clone_any (P : Option Addr) (n cP : Nat) (f : Nat → Int) (w : World) (h40 : n ≤ 40) (hP : Il w P n f) :
    Calls Try.prog 36 #[.slice P n cP] w fun e w' => ∃ v : Value, e = .returned v ∧ w'.ownsRow w.heap.size 27 1 v n (svl f n) ∧ Below w.heap.size w w' := by
  have eqn := fun (a : Option Addr) (l c : Nat) (w : World) => Lib.run_eql_slice_nil (P := Try.prog) w 24 27 a l c 0 0 (by kernel_rfl)
  obtain ⟨sb, so, hPs, hc⟩ := hP
  cases P with
  | none =>
    obtain rfl : n = 0 := by
      by_cases e : n = 0
      · exact e
      · exact absurd (hPs (by omega)) (by simp)
    clear hPs hc
    go_enter Try.func36, Try.ntmps36
    go_wp2_with fail
    refine bodyPost_ret (v := .slice none 0 0) (by simp [results, Try.results36, go_sem]) rfl ⟨_, rfl, World.ownsRow_nil _ _ _ _, Below.refl _ _⟩
  | some ad =>
    obtain ⟨i0, hi, hz0, hz1, hz2⟩ := info_parts seveninfo
    have HI := hidden hi
    have HZ0 := hidden hz0
    have HZ1 := hidden hz1
    have HZ2 := hidden hz2
    have HU : Hid (Try.prog.underlying 24 = some (.slice 27)) := hidden (by kernel_rfl)
    have M0 : Hid (0 + n ≤ maxLen) := hidden (by unfold maxLen; omega)
    have M2 : Hid ((0 + n) * 8 ≤ 140737488355328) := hidden (by omega)
    have HC : Hid (∀ (w' : World), Below w.heap.size w w' → ∀ j u, (svl f n)[j]? = some u → w'.cell? (ad.add j) = some u) := hidden (fun w' hb j u hu => by
      have hj := (svl_get hu).1
      have e := hPs (by omega)
      injection e with e
      subst e
      exact svl_at (fun k hk => cell_keep (hc k hk) hb) j u hu)
    have O0 := hidden (World.ownsRow_made (base := w.heap.size) (e := 27) (size := 1) w #[] 0 (Nat.le_refl _) (by unfold maxLen; omega) rfl)
    have B0 := hidden (bl_alloc w (.cells #[] 27))
    clear hPs hc hi hz0 hz1 hz2
    go_enter Try.func36, Try.ntmps36
    go_wp2_with (first | (at_builtin; refine wpList_append_own_at _ rfl _ _ 24 rfl w.heap.size 27 i0 (.agg #[.int .i64 0]) 1 8 HU.out HI.out HZ0.out HZ1.out HZ2.out rfl (by decide) _ _ _ rfl O0.out ad n cP (svl f n) rfl (svlLen _ _) (HC.out _ B0.out) svl_one M0.out M2.out B0.out.size ?_; intro v' w3 hown hgr hnil hat; rw [Nat.zero_add, List.nil_append] at hown; have HO := hidden hown; have HB := hidden (below_trans B0.out (below_grown hgr B0.out.size (fun k hk => (O0.out.lt k hk).1))); clear hown hgr hnil hat))
    refine bodyPost_ret (v := v') (by simp [results, Try.results36, go_sem]) rfl ⟨v', rfl, HO.out, HB.out⟩
end Go.Proofs.Ythhcdjndfepbaaa
