import Derived.Test.YtagfneojcgcigaaDoorUg
namespace Go.Proofs.YtagfneojcgcigaaDoor.Tr
open Go.RowKit
theorem B3.put {w : World} {b : Nat} {t : TypeId} {x y z : Value} (h : B3 w b t x y z) (x' y' z' : Value) : B3 (((w.setCell ⟨b, 0, none⟩ x').setCell ⟨b, 1, none⟩ y').setCell ⟨b, 2, none⟩ z') b t x' y' z' := by
  have h0 := heap_setCell_same w b 0 _ t x' h
  have h1 := heap_setCell_same _ b 1 _ t y' h0
  exact heap_setCell_same _ b 2 _ t z' h1
/-- what copied answers -/
def CpdR (w : World) (x : En) (e : Ending) (w' : World) : Prop := ∃ (g : Nat) (Q : Nat → Option Addr) (C : Nat → Nat), e = .returned (.agg #[.bool x.d, .string (sb x.l), .slice (some ⟨g, 0, none⟩) x.ps.length x.ps.length]) ∧ Ow w' w.heap.size g x.ps.length x.ps.length (fun t => x.ps.getD t []) Q C ∧ Below w.heap.size w w'
theorem Ow.base {w : World} {base b g k i : Nat} {ps : Nat → List UInt8} {Q : Nat → Option Addr} {C : Nat → Nat} (h : Ow w base g k i ps Q C) (hb : b ≤ base) : Ow w b g k i ps Q C := ⟨own_base h.list hb, fun t ht => own_base (h.row t ht) hb, h.far⟩
set_option maxRecDepth 100000 in
set_option maxHeartbeats 8000000 in
theorem copied_any (d : Bool) (l : List UInt8) (ps : List (List UInt8)) (P : Option Addr) (c : Nat) (q : Nat → Option Addr) (cc : Nat → Nat) (w : World) (hP : Pt w P ps q cc) (hs : Bd ps) :
    Calls Tryd.prog 20 #[.agg #[.bool d, .string (sb l), .slice P ps.length c]] w fun e w' => CpdR w ⟨d, l, ps⟩ e w' := by
  have C1 := hidden (fun w' (hb : Below w.heap.size w w') => copies_any ps P c q cc w' (hP.keep hb) hs)
  have HB := hidden (bl_trans (bl_alloc w (.cells #[.bool d, .string (sb l), .slice P ps.length c] 50)) (bl_alloc _ (.cells #[.bool false, .string ⟨#[]⟩, .slice none 0 0] 50)))
  have X1 : Hid (B3 ((w.alloc (.cells #[.bool d, .string (sb l), .slice P ps.length c] 50)).alloc (.cells #[.bool false, .string ⟨#[]⟩, .slice none 0 0] 50)) w.heap.size 50 (.bool d) (.string (sb l)) (.slice P ps.length c)) := hidden ((heap_alloc_old _ _ (by simp)).trans (heap_alloc_new w _))
  have X2 : Hid (B3 ((w.alloc (.cells #[.bool d, .string (sb l), .slice P ps.length c] 50)).alloc (.cells #[.bool false, .string ⟨#[]⟩, .slice none 0 0] 50)) (w.heap.size + 1) 50 (.bool false) (.string ⟨#[]⟩) (.slice none 0 0)) := hidden (by
    have := heap_alloc_new (w.alloc (.cells #[.bool d, .string (sb l), .slice P ps.length c] 50)) (.cells #[.bool false, .string ⟨#[]⟩, .slice none 0 0] 50)
    rw [World.size_alloc] at this
    exact this)
  clear hP hs
  go_enter Tryd.func20, Tryd.ntmps20
  go_upto_region 1 with fail
  obtain ⟨N, hN⟩ : ∃ N, w.heap.size = N := ⟨_, rfl⟩
  have HN := hidden hN
  rw [hN] at X1 X2
  rw [hN]
  clear hN
  generalize (w.alloc (.cells #[.bool d, .string (sb l), .slice P ps.length c] 50)).alloc (.cells #[.bool false, .string ⟨#[]⟩, .slice none 0 0] 50) = w1 at HB X1 X2 ⊢
  have y0 : w1.drew.cell? ⟨N, 0, none⟩ = _ := X1.out.c0
  have y1 : w1.drew.cell? ⟨N, 1, none⟩ = _ := X1.out.c1
  have y2 : w1.drew.cell? ⟨N, 2, none⟩ = _ := X1.out.c2
  go_cut [9] (fun _ wx => ∃ (g : Nat) (Q : Nat → Option Addr) (C : Nat → Nat), B3 wx (N + 1) 50 (.bool d) (.string (sb l)) (.slice (some ⟨g, 0, none⟩) ps.length ps.length) ∧ Ow wx w.heap.size g ps.length ps.length (fun t => ps.getD t []) Q C ∧ Below w.heap.size w wx)
  case first =>
    go_region_law (first | (go_simp; go_at_call 17; refine (C1.out _ HB.out.drew).mono ?_; rintro e w2 ⟨g, Q, C, rfl, ho, hb⟩; have B2 : Hid (Below w1.heap.size w1 w2) := hidden (bl_trans (drew_blW w1) hb); have HO := hidden ho; clear ho hb; have z0 := (X1.out.keep B2.out X1.out.lt).c0; have z1 := (X1.out.keep B2.out X1.out.lt).c1; have u0 := (X2.out.keep B2.out X2.out.lt).c0; have u1 := (X2.out.keep B2.out X2.out.lt).c1; have u2 := (X2.out.keep B2.out X2.out.lt).c2; have t0 := (X2.out.keep B2.out X2.out.lt).f 0; have t1 := (X2.out.keep B2.out X2.out.lt).f 1; have t2 := (X2.out.keep B2.out X2.out.lt).f 2))
    all_goals
      clear z0 z1 u0 u1 u2 t0 t1 t2 y0 y1 y2
      go_wp2_with fail
      go_meet
      have hg := (HO.out.list.lt g rfl).1
      have hd : w1.drew.heap.size = w1.heap.size := rfl
      have hs := HB.out.size
      have hl := X2.out.lt
      refine ⟨g, Q, C, (X2.out.keep B2.out X2.out.lt).put _ _ _, ?_, (((bl_trans HB.out B2.out).setCell (by show w.heap.size ≤ N + 1; rw [HN.out]; omega) _).setCell (by show w.heap.size ≤ N + 1; rw [HN.out]; omega) _).setCell (by show w.heap.size ≤ N + 1; rw [HN.out]; omega) _⟩
      refine (HO.out.base (by omega)).keep (fun j hj _ => ?_)
      rw [set_ne _ _ _ _ _ (by omega), set_ne _ _ _ _ _ (by omega), set_ne _ _ _ _ _ (by omega)]
  case rest =>
  obtain ⟨g, Q, C, hX, hO, hB⟩ := hcut
  have RX := hidden hX
  have RO := hidden hO
  have RB := hidden hB
  clear hX hO hB
  have c0 := RX.out.c0
  have c1 := RX.out.c1
  have c2 := RX.out.c2
  go_wp2_with fail
  refine bodyPost_ret (v := .agg #[.bool d, .string (sb l), .slice (some ⟨g, 0, none⟩) ps.length ps.length]) (by simp [results, Tryd.results20, go_sem, c0, c1, c2]) rfl ⟨g, Q, C, rfl, RO.out, RB.out⟩
end Go.Proofs.YtagfneojcgcigaaDoor.Tr
