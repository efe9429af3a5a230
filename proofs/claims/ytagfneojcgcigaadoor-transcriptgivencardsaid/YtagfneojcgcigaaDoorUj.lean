import Derived.Test.YtagfneojcgcigaaDoorUi
namespace Go.Proofs.YtagfneojcgcigaaDoor.Tr
open Go.RowKit
def xD : En × Em := (⟨false, [], []⟩, ⟨none, 0, fun _ => none, fun _ => 0⟩)
theorem sdc_at : ∀ (es : List (En × Em)) (t : Nat), t < es.length → (sdc es)[t * 3]? = some (.bool (es.getD t xD).1.d) ∧ (sdc es)[t * 3 + 1]? = some (.string (sb (es.getD t xD).1.l)) ∧ (sdc es)[t * 3 + 2]? = some (.slice (es.getD t xD).2.P (es.getD t xD).1.ps.length (es.getD t xD).2.c)
  | x :: r, 0, _ => by simp [sdc]
  | x :: r, t + 1, h => by
    have ih := sdc_at r t (by simpa using h)
    have e : sdc (x :: r) = [.bool x.1.d, .string (sb x.1.l), .slice x.2.P x.1.ps.length x.2.c] ++ sdc r := by simp [sdc]
    have k : ∀ j, (sdc (x :: r))[3 + j]? = (sdc r)[j]? := fun j => by rw [e, List.getElem?_append_right (by simp)]; simp
    rw [show (t + 1) * 3 = 3 + t * 3 by omega, show 3 + t * 3 + 1 = 3 + (t * 3 + 1) by omega, show 3 + t * 3 + 2 = 3 + (t * 3 + 2) by omega, k, k, k]
    simpa using ih
theorem getD_mem {α : Type} (l : List α) (d : α) (t : Nat) (h : t < l.length) : l.getD t d ∈ l := by
  rw [List.getD_eq_getElem?_getD, List.getElem?_eq_getElem h]
  exact List.getElem_mem _
theorem Hz.stay {w w' : World} {base g n i : Nat} {en : Nat → En} {gm : Nat → Nat} {Q : Nat → Nat → Option Addr} {C : Nat → Nat → Nat} (h : Hz w base g n i en gm Q C) (hb : Below w.heap.size w w') : Hz w' base g n i en gm Q C := by
  have cw : ∀ x, w'.cell? ⟨g, x, none⟩ = w.cell? ⟨g, x, none⟩ := fun x => World.cell?_of_block (a := ⟨g, x, none⟩) (hb.block g h.gl.2)
  have fw : ∀ x, w'.frozen? ⟨g, x, none⟩ = w.frozen? ⟨g, x, none⟩ := fun x => World.frozen?_of_block (a := ⟨g, x, none⟩) (hb.block g h.gl.2)
  exact ⟨fun t ht => (cw _).trans (h.c0 t ht), fun t ht => (cw _).trans (h.c1 t ht), fun t ht => (cw _).trans (h.c2 t ht), fun x hx => by rw [cw]; exact h.ce x hx, fun x hx => (fw x).trans (h.fr x hx), fun t ht => (h.ow t ht).keep (fun j _ hj => hb.block j hj), h.far, h.ord, h.gl.1, Nat.lt_of_lt_of_le h.gl.2 hb.size⟩
set_option maxRecDepth 100000 in
set_option maxHeartbeats 8000000 in
theorem Heard_any (s base : Nat) (vL vH : Value) (es : List (En × Em)) (w : World) (hX : B3 w s 54 vL vH (.bool true)) (hH : Hr w base vH es) (hn : es.length ≤ 2513169434879) (hs : ∀ x ∈ es, Bd x.1.ps) :
    Calls Tryd.prog 13 #[.pointer (some ⟨s, 0, none⟩)] w fun e w' => HrdR w es.length (fun t => (es.getD t xD).1) e w' := by
  have C0 := hidden (none_any s vL vH w hX)
  have HX := hidden hX
  have HH := hidden hH
  have HNL := hidden hn
  have HS := hidden hs
  obtain ⟨PH, cH, hvH, -⟩ := own_shape4 hH.list
  subst hvH
  obtain ⟨i0, hi, hz0, hz1, hz2⟩ := info_parts info50
  have hmk := fun w => run_make (P := Tryd.prog) w 46 50 i0 (.agg #[.bool false, .string .empty, .slice none 0 0]) (by kernel_rfl) hi hz0 .i64 .i64 (es.length : Int) (es.length : Int) (by omega) (Int.le_refl _) (by rw [hz2]; omega) (by omega)
  simp only [Int.toNat_natCast, hz1, Value.cells] at hmk
  clear hX hH hn hs hi hz0 hz1 hz2
  go_enter Tryd.func13, Tryd.ntmps13
  go_upto_region 3 with (first | (go_at_call 16; refine C0.out.mono ?_; rintro e w1 ⟨rfl, hb⟩; have B1 := hidden hb; clear hb))
  have y0 := (HX.out.keep B1.out HX.out.lt).c1
  have M0 : Hid (Hz (w1.alloc (.cells (madeCells #[.bool false, .string .empty, .slice none 0 0] (es.length * 3)) 50)) w.heap.size w1.heap.size es.length 0 (fun t => (es.getD t xD).1) (fun _ => 0) (fun _ _ => none) (fun _ _ => 0)) := hidden ⟨fun t ht => absurd ht (by omega), fun t ht => absurd ht (by omega), fun t ht => absurd ht (by omega), fun x hx => made3 w1 _ _ _ _ _ x hx, fun x _ => frozen_of_row _ _ x _ _ (heap_alloc_new w1 _), fun t ht => absurd ht (by omega), fun t ht => absurd ht (by omega), fun t u htu hu => absurd hu (by omega), B1.out.size, by simp⟩
  have MB := hidden (bl_trans B1.out (bl_alloc w1 (.cells (madeCells #[.bool false, .string .empty, .slice none 0 0] (es.length * 3)) 50)))
  go_upto_region 4 with fail
  generalize w1.alloc (.cells (madeCells #[.bool false, .string .empty, .slice none 0 0] (es.length * 3)) 50) = w2 at M0 MB ⊢
  obtain ⟨gl, hgl⟩ : ∃ gl, w1.heap.size = gl := ⟨_, rfl⟩
  rw [hgl] at M0
  rw [hgl]
  clear hgl y0 hmk
  have y0 := (HX.out.keep MB.out HX.out.lt).c1
  go_wp2_with fail
  clear y0
  go_loopw [19] (fun iv w' => ∃ (i : Nat) (gm : Nat → Nat) (Q : Nat → Nat → Option Addr) (C : Nat → Nat → Nat), i ≤ es.length ∧ iv = .int .i64 (i : Int) ∧ Hid (Hz w' w.heap.size gl es.length i (fun t => (es.getD t xD).1) gm Q C) ∧ Hid (Below w.heap.size w w')) (fun i _ => es.length - (intOf i).toNat)
  case atStart => exact ⟨0, _, _, _, by omega, rfl, M0, MB⟩
  case round =>
    clear M0 MB
    obtain ⟨i, gm, Q, C, hi, rfl, HZ, HB⟩ := hrel
    by_cases hin : i < es.length
    · have hH2 := HH.out.stay HB.out
      obtain ⟨gh, ch, hvh, -⟩ := own_some4 hH2.list (by omega)
      simp only [Value.slice.injEq] at hvh
      obtain ⟨rfl, -, rfl⟩ := hvh
      have hat := sdc_at es i hin
      have x0 := (hH2.list.cellAt (i * 3) (by omega)).trans hat.1
      have x1 := (hH2.list.cellAt (i * 3 + 1) (by omega)).trans hat.2.1
      have x2 := (hH2.list.cellAt (i * 3 + 2) (by omega)).trans hat.2.2
      have EP := hidden (hH2.each _ (getD_mem es xD i hin))
      have ES := hidden (HS.out _ (getD_mem es xD i hin))
      have ii0 : (0 : Int) ≤ (i : Int) := by omega
      have ii1 : (i : Int) < (es.length : Int) := by omega
      have w9 : IntKind.i64.wrap ((i : Int) + 1) = (i : Int) + 1 := IntWalk.i64_in _ (by have := HNL.out; omega)
      obtain ⟨x, hx⟩ : ∃ x, x = es.getD i xD := ⟨_, rfl⟩
      rw [← hx] at x0 x1 x2 EP ES
      have HXE := hidden hx
      clear hat hH2 hx
      have Z3 := hidden (HZ.out.stay (bl_alloc wr (.cells #[.bool x.1.d, .string (sb x.1.l), .slice x.2.P x.1.ps.length x.2.c] 50)))
      have B3' := hidden (bl_trans HB.out (bl_alloc wr (.cells #[.bool x.1.d, .string (sb x.1.l), .slice x.2.P x.1.ps.length x.2.c] 50)))
      have CP := hidden (copied_any x.1.d x.1.l x.1.ps x.2.P x.2.c x.2.q x.2.cc (wr.alloc (.cells #[.bool x.1.d, .string (sb x.1.l), .slice x.2.P x.1.ps.length x.2.c] 50)) (EP.out.keep (bl_alloc wr _)) ES.out)
      have X3 : Hid (B3 (wr.alloc (.cells #[.bool x.1.d, .string (sb x.1.l), .slice x.2.P x.1.ps.length x.2.c] 50)) wr.heap.size 50 (.bool x.1.d) (.string (sb x.1.l)) (.slice x.2.P x.1.ps.length x.2.c)) := hidden (heap_alloc_new wr _)
      go_upto_region 7 with fail
      clear x0 x1 x2
      generalize wr.alloc (.cells #[.bool x.1.d, .string (sb x.1.l), .slice x.2.P x.1.ps.length x.2.c] 50) = w3 at Z3 B3' CP X3 ⊢
      have x0 := X3.out.c0
      have x1 := X3.out.c1
      have x2 := X3.out.c2
      go_wp2_with (first | (go_at_call 20; refine CP.out.mono ?_; rintro e w4 ⟨g4, Q4, C4, rfl, ho, hb⟩; have Z4 := Z3.out.stay hb; obtain ⟨a0, d0⟩ := Z4.ce (i * 3) (by omega); obtain ⟨a1, d1⟩ := Z4.ce (i * 3 + 1) (by omega); obtain ⟨a2, d2⟩ := Z4.ce (i * 3 + 2) (by omega); have f0 := Z4.fr (i * 3) (by omega); have f1 := Z4.fr (i * 3 + 1) (by omega); have f2 := Z4.fr (i * 3 + 2) (by omega); have NZ := hidden (Z3.out.add hin B3'.out.size hb (gn := g4) (Qn := Q4) (Cn := C4) (by rw [← HXE.out]; exact ho)); have NB := hidden (bl_trans B3'.out hb); have hgl := Z3.out.gl; have HGL := hidden hgl.1; clear ho hb Z4 hgl))
      rw [← HXE.out] at NZ
      go_roundw
      case rel => exact ⟨i + 1, _, _, _, by omega, by go_num, NZ, hidden (((NB.out.setCell HGL.out _).setCell HGL.out _).setCell HGL.out _)⟩
      case measure => simp [intOf]; omega
    · obtain rfl : i = es.length := by omega
      have lq : ¬ (es.length : Int) < (es.length : Int) := by omega
      go_wp2_with fail
      refine bodyPost_ret (v := .slice (some ⟨gl, 0, none⟩) es.length es.length) (by simp [results, Tryd.results13, go_sem]) rfl ⟨gl, gm, Q, C, rfl, HZ.out, HB.out⟩
end Go.Proofs.YtagfneojcgcigaaDoor.Tr
