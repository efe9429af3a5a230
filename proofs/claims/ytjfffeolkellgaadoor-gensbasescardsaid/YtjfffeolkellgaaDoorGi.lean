import Derived.Test.YtjfffeolkellgaaDoorGh
namespace Go.Proofs.YtjfffeolkellgaaDoor
open Go.RowKit
theorem Gs.four (w : World) (t : TypeId) : Gs (w.alloc (.cells #[.int .u64 0, .int .u64 0, .int .u64 0, .int .u64 0] t)) w.heap.size 4 (fun _ => .int .u64 0) :=
  ⟨by simp, fun k hk => by
    rw [cell_of_row _ w.heap.size k _ t (0, 0) (heap_alloc_new w _)]
    match k, hk with
    | 0, _ => rfl | 1, _ => rfl | 2, _ => rfl | 3, _ => rfl, fun k hk => by go_simp⟩
set_option maxRecDepth 100000 in
set_option maxHeartbeats 8000000 in
theorem isFree_any (PA PL : Option Addr) (n cA cL : Nat) (es : List Value) (f : Nat → E4) (w : World) (hT : Tb w) (hn : n ≤ 1000) (hA : Lm w PA n f) (hL : Lm w PL n f) (hf : ∀ k, k < n → (f k).ok ∧ lst (f k).n = f k) (he : es[25]? = some (.slice PL n cL)) :
    Calls Tryd.prog 7 #[.agg #[.slice PA n cA], .agg es.toArray] w fun e w' => e = .returned (.bool true) ∧ Below w.heap.size w w' := by
  have HT := hidden hT
  have HA := hidden hA
  have HL := hidden hL
  have HF := hidden hf
  have HN := hidden hn
  have nn0 : (0 : Int) ≤ (n : Int) := by omega
  have LE := hidden (fun a w T h => Least_any a w T h)
  have EQ : ∀ (a : E4) (w : World), (Op.equalIn 10000 39 (.agg #[.int .u64 a.x0, .int .u64 a.x1, .int .u64 a.x2, .int .u64 a.x3]) (.agg #[.int .u64 a.x0, .int .u64 a.x1, .int .u64 a.x2, .int .u64 a.x3])).run Tryd.prog w = .ok true w := fun a w => by
    have := eq4r a a w
    rw [E4.same_self] at this
    exact this
  have B0 := hidden (bl_alloc2 w (.cells #[.slice PA n cA] 24) (.cells es.toArray 42))
  have KA : Hid (((w.alloc (.cells #[.slice PA n cA] 24)).alloc (.cells es.toArray 42)).cell? ⟨w.heap.size, 0, none⟩ = some (.slice PA n cA)) := hidden (cell_keep (by rw [cell_of_row _ _ _ _ _ (0, 0) (heap_alloc_new w _)]; rfl) (bl_alloc _ _))
  have KE : Hid (((w.alloc (.cells #[.slice PA n cA] 24)).alloc (.cells es.toArray 42)).cell? ⟨w.heap.size + 1, 25, none⟩ = some (.slice PL n cL)) := hidden (by
    have := range_newM (w.alloc (.cells #[.slice PA n cA] 24)) es 42 25 _ he
    simpa using this)
  generalize hW : ((w.alloc (.cells #[.slice PA n cA] 24)).alloc (.cells es.toArray 42)) = W at B0 KA KE
  clear hT hA hL hf hn he
  go_enter Tryd.func7, Tryd.ntmps7
  go_wp2_with fail
  clear hW
  go_loopw [5] (fun kv w' => ∃ k : Nat, k ≤ n ∧ kv = .int .i64 (k : Int) ∧ Hid (Below W.heap.size W w')) (fun k _ => n - (intOf k).toNat)
  case atStart => exact ⟨0, by omega, rfl, hidden (Below.refl _ _)⟩
  case round =>
    obtain ⟨k, hk, rfl, hB⟩ := hrel
    have ka := cell_keep KA.out hB.out
    have ke := cell_keep KE.out hB.out
    by_cases hkn : k < n
    · have k0 : (0 : Int) ≤ (k : Int) := by omega
      have k1 : (k : Int) < (n : Int) := by omega
      have w9 : IntKind.i64.wrap ((k : Int) + 1) = (k : Int) + 1 := IntWalk.i64_in _ (by have := HN.out; omega)
      have bd := bl_trans B0.out hB.out
      have BD := hidden bd
      obtain ⟨sb, so, h1, h2⟩ := HA.out
      obtain rfl := h1 (by omega)
      have rx := (h2 (by omega)).keep bd
      obtain ⟨tb, tq, h3, h4⟩ := HL.out
      obtain rfl := h3 (by omega)
      have ry := (h4 (by omega)).keep bd
      have b2 := bl_alloc2 wr (.cells #[.int .u64 0, .int .u64 0, .int .u64 0, .int .u64 0] 50) (.cells #[.int .u64 0, .int .u64 0, .int .u64 0, .int .u64 0] 39)
      have B2 := hidden b2
      have g6 := hidden ((Gs.four wr 50).keep (bl_alloc _ (.cells #[.int .u64 0, .int .u64 0, .int .u64 0, .int .u64 0] 39)))
      have g7 := hidden (Gs.four (wr.alloc (.cells #[.int .u64 0, .int .u64 0, .int .u64 0, .int .u64 0] 50)) 39)
      simp only [World.size_alloc] at g7
      have rx2 := rx.keep b2
      have x0 := rx2.c0 k hkn; have x1 := rx2.c1 k hkn; have x2 := rx2.c2 k hkn; have x3 := rx2.c3 k hkn
      have ry0 := hidden ry
      have ka2 := cell_keep ka b2
      have ke2 := cell_keep ke b2
      have FK := hidden (HF.out k hkn)
      have TT := hidden (HT.out.keep (bl_trans bd b2))
      have NE := hidden (World.block_lt_of_cell? wr _ (ry.c0 k hkn))
      have ND := hidden (World.block_lt_of_cell? wr _ ke)
      have NC := hidden (World.block_lt_of_cell? wr _ ka)
      clear h1 h2 h3 h4 rx ry bd b2 rx2
      generalize hfk : f k = a at x0 x1 x2 x3 FK
      have LW := hidden (show W.heap.size ≤ wr.heap.size from hB.out.size)
      unfold E4.v at LE
      go_wp2_with (first | (go_at_call 22; refine (LE.out a _ TT.out FK.out.1).mono ?_; rintro e wa ⟨r, rfl, hr, ha⟩; obtain rfl : r = a := Eq.trans hr FK.out.2; have G6 := g6.out.keep ha; have G7 := g7.out.keep ha; have m0 := G6.c 0 (by omega); have m1 := G6.c 1 (by omega); have m2 := G6.c 2 (by omega); have m3 := G6.c 3 (by omega); have e0 := G6.fr 0 (by omega); have e1 := G6.fr 1 (by omega); have e2 := G6.fr 2 (by omega); have e3 := G6.fr 3 (by omega); have q0 := G7.c 0 (by omega); have q1 := G7.c 1 (by omega); have q2 := G7.c 2 (by omega); have q3 := G7.c 3 (by omega); have j0 := G7.fr 0 (by omega); have j1 := G7.fr 1 (by omega); have j2 := G7.fr 2 (by omega); have j3 := G7.fr 3 (by omega); have ryy := ry0.out.keep (bl_trans B2.out ha); have y0 := ryy.c0 k hkn; have y1 := ryy.c1 k hkn; have y2 := ryy.c2 k hkn; have y3 := ryy.c3 k hkn; rw [hfk] at y0 y1 y2 y3; have ka3 := cell_keep ka2 ha; have ke3 := cell_keep ke2 ha; have n1 : ¬ wr.heap.size = tb := (by have := NE.out; simp at this; omega); have n2 : ¬ wr.heap.size + 1 = tb := (by have := NE.out; simp at this; omega); have n3 : ¬ wr.heap.size = w.heap.size + 1 := (by have := ND.out; simp at this; omega); have n4 : ¬ wr.heap.size = w.heap.size := (by have := NC.out; simp at this; omega); have BF := hidden (bl_trans hB.out (bl_trans B2.out ha)); clear ha hr G6 G7 ryy ka2 ke2 x0 x1 x2 x3))
      refine ⟨⟨k + 1, by omega, by go_num, hidden ?_⟩, by simp [intOf]; omega⟩
      have l1 := LW.out
      have l2 : W.heap.size ≤ wr.heap.size + 1 := by omega
      exact (((((((BF.out.setCell l1 _).setCell l1 _).setCell l1 _).setCell l1 _).setCell l2 _).setCell l2 _).setCell l2 _).setCell l2 _
    · obtain rfl : k = n := by omega
      have lq : ¬ (k : Int) < (k : Int) := by omega
      go_wp2_with fail
      refine bodyPost_ret (v := .bool true) (by simp [results, Tryd.results7, go_sem]) rfl ⟨rfl, bl_trans B0.out hB.out⟩
end Go.Proofs.YtjfffeolkellgaaDoor
