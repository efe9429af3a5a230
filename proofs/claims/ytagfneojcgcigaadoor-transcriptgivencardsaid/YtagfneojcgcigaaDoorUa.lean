import Derived.Test.YtagfneojcgcigaaDoorTn
import Derived.Test.YtagfneojcgcigaaDoorTo
import Derived.Lib.SliceRun
namespace Go.Proofs.YtagfneojcgcigaaDoor.Tr
open Go.RowKit
theorem own_byQ {w : World} {base c n : Nat} {P : Option Addr} {bs : List UInt8} (h : w.ownsRow base 5 1 (.slice P n c) n (cb bs)) : By w P c bs := by
  rcases h.2 with ⟨hv, h0⟩ | ⟨g, cap, cur, hv, _⟩
  · simp only [Value.slice.injEq] at hv
    obtain ⟨rfl, rfl, rfl⟩ := hv
    have : bs = [] := List.eq_nil_of_length_eq_zero (by have := h.1; rw [cb_len] at this; omega)
    subst this
    exact ⟨fun _ => ⟨rfl, rfl⟩, fun a ha => (by cases ha)⟩
  · simp only [Value.slice.injEq] at hv
    obtain ⟨rfl, _, rfl⟩ := hv
    exact own_by' h
set_option maxRecDepth 100000 in
set_option maxHeartbeats 4000000 in
theorem clone_any (P : Option Addr) (c : Nat) (bs : List UInt8) (w : World) (hB : By w P c bs) (hl : bs.length ≤ 140737488351232) :
    Calls Tryd.prog 22 #[.slice P bs.length c] w fun e w' => ∃ (Q : Option Addr) (d : Nat), e = .returned (.slice Q bs.length d) ∧ w'.ownsRow w.heap.size 5 1 (.slice Q bs.length d) bs.length (cb bs) ∧ Below w.heap.size w w' := by
  have eqn := fun (a : Option Addr) (l c : Nat) (w : World) => Lib.run_eql_slice_nil (P := Tryd.prog) w 55 5 a l c 0 0 (by kernel_rfl)
  have HL := hidden hl
  cases P with
  | none =>
    obtain ⟨rfl, rfl⟩ := hB.nil rfl
    clear hB hl
    go_enter Tryd.func22, Tryd.ntmps22
    go_wp2_with fail
    refine bodyPost_ret (v := .slice none 0 0) (by simp [results, Tryd.results22, go_sem]) rfl ⟨none, 0, rfl, World.ownsRow_nil _ _ _ _, Below.refl _ _⟩
  | some ad =>
    have O0 := hidden (World.ownsRow_made (base := w.heap.size) (e := 5) (size := 1) w #[] 0 (Nat.le_refl _) (by unfold maxLen; omega) rfl)
    have B0 := hidden (bl_alloc w (.cells #[] 5))
    have HY := hidden (hB.keep (bl_alloc w (.cells #[] 5)))
    clear hB hl
    go_enter Tryd.func22, Tryd.ntmps22
    go_wp2_with (first | (at_builtin; refine wpList_app_by rfl _ _ rfl w.heap.size _ [] bs (some ad) c rfl rfl O0.out HY.out (by have := HL.out; simp only [List.length_nil]; omega) B0.out.size ?_; intro v2 w2 ho2 hg2; have HO := hidden ho2; have HB := hidden (below_trans B0.out (below_grown hg2 B0.out.size (fun k hk => (O0.out.lt k hk).1))); clear ho2 hg2; rw [List.nil_append] at HO))
    obtain ⟨Q, d, rfl⟩ := own_shape HO.out
    refine bodyPost_ret (v := .slice Q bs.length d) (by simp [results, Tryd.results22, go_sem]) rfl ⟨Q, d, rfl, HO.out, HB.out⟩
end Go.Proofs.YtagfneojcgcigaaDoor.Tr
