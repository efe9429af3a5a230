import Derived.Test.YtnkaolobcglmlaaGreatDoorSrt
import Derived.Test.YtnkaolobcglmlaaGreatDoorSnum
namespace Go.Proofs.YtnkaolobcglmlaaGreatDoor
open Go.RowKit
def wn : List Int → Int
 | [] => 0
 | x :: l => x + 65536 * wn l
theorem wn_drop (xs : List Int) (k : Nat) (h : k < xs.length) : wn (xs.drop k) = xs.getD k 0 + 65536 * wn (xs.drop (k + 1)) := by
 rw [List.drop_eq_getElem_cons h]
 simp [wn, List.getD, h]
theorem wn_end (xs : List Int) : wn (xs.drop xs.length) = 0 := by simp [wn]
theorem words_next (N x : Int) (o : E4) (h : o.is N) (t : E4) (ht : t.is (65536 * o.n + x)) : t.is (x + 65536 * N) := by
 refine is_of ht ?_
 rw [Int.add_emod, Int.mul_emod, h.m, ← Int.mul_emod, ← Int.add_emod, Int.add_comm]
set_option maxRecDepth 100000 in
set_option maxHeartbeats 8000000 in
theorem words_any (b n c : Nat) (xs : List Int) (w : World) (hn : xs.length = n) (hm : n < 1000000)
  (hr : ∀ j, j < n → w.cell? ⟨b, j, none⟩ = some (.int .u64 (xs.getD j 0)) ∧ 0 ≤ xs.getD j 0 ∧ xs.getD j 0 < 65536) :
  Calls Tryz.prog 34 #[.slice (some ⟨b, 0, none⟩) n c] w fun e w' => ∃ t : E4, e = .returned t.v ∧ t.is (wn xs) ∧ Below w.heap.size w w' := by
 have HN := hidden hn
 have HR := hidden hr
 have s0 := ((St.nil w).room 62).room 62
 simp only [World.size_alloc] at s0
 have S0 := hidden s0
 clear s0 hn hr
 have nn0 : (0 : Int) ≤ (n : Int) := by omega
 have nn1 : (n : Int) < 1000000 := by omega
 go_enter Tryz.func34, Tryz.ntmps34
 go_wp2_with fail
 go_loopw [4] (fun i w' => ∃ (k : Nat) (o : E4), k ≤ n ∧ i = .int .i64 ((k : Int) - 1) ∧ o.is (wn (xs.drop k)) ∧ St w [(w.heap.size + 1, o), (w.heap.size, zero4)] [w.heap.size + 1, w.heap.size] w') (fun i _ => (intOf i + 1).toNat)
 case atStart => exact ⟨n, zero4, by omega, rfl, by rw [← HN.out, wn_end]; exact zero_lst.symm, S0.out⟩
 case round =>
  obtain ⟨k, o, hk, rfl, ho, hst⟩ := hrel
  clear S0
  cases k with
  | zero =>
   have S1 := hidden hst
   have c0 := (hst.live (w.heap.size + 1, o) (by simp)).c0
   have c1 := (hst.live (w.heap.size + 1, o) (by simp)).c1
   have c2 := (hst.live (w.heap.size + 1, o) (by simp)).c2
   have c3 := (hst.live (w.heap.size + 1, o) (by simp)).c3
   have d0 := (hst.live (w.heap.size, zero4) (by simp)).c0
   have d1 := (hst.live (w.heap.size, zero4) (by simp)).c1
   have d2 := (hst.live (w.heap.size, zero4) (by simp)).c2
   have d3 := (hst.live (w.heap.size, zero4) (by simp)).c3
   obtain ⟨f0, f1, f2, f3⟩ := (hst.wrt w.heap.size (by simp)).1
   have HO := hidden ho
   clear hst ho
   rw [show ((0 : Nat) : Int) - 1 = -1 from rfl]
   go_wp2_with fail
   refine bodyPost_ret (v := .agg #[.int .u64 o.x0, .int .u64 o.x1, .int .u64 o.x2, .int .u64 o.x3]) (by simp [results, Tryz.results34, go_sem, d0, d1, d2, d3]) rfl ⟨o, rfl, HO.out, ?_⟩
   exact set4_below _ _ _ S1.out.bel (Nat.le_refl _)
  | succ k =>
   have kk0 : (0 : Int) ≤ (k : Int) := by omega
   have kk1 : (k : Int) < 1000000 := by omega
   have kn : (k : Int) < (n : Int) := by omega
   obtain ⟨hc, hx0, hx1⟩ := HR.out k (by omega)
   have hwd := wn_drop xs k (by rw [HN.out]; omega)
   obtain ⟨x, hx⟩ : ∃ x, x = xs.getD k 0 := ⟨_, rfl⟩
   rw [← hx] at hc hx0 hx1 hwd
   have RS := hidden (fun w => rstep_any o x w ho.ok ho.lt hx0 hx1)
   have NX := hidden (words_next _ x o ho)
   have HWD := hidden hwd
   have HK := hidden hk
   have SD := hidden hst.drew
   have hc2 : wr.drew.cell? ⟨b, k, none⟩ = some (.int .u64 x) := cell_keep hc SD.out.bel
   have c0 : wr.drew.cell? ⟨w.heap.size + 1, 0, none⟩ = some (.int .u64 o.x0) := (SD.out.live (w.heap.size + 1, o) (by simp)).c0
   have c1 : wr.drew.cell? ⟨w.heap.size + 1, 1, none⟩ = some (.int .u64 o.x1) := (SD.out.live (w.heap.size + 1, o) (by simp)).c1
   have c2 : wr.drew.cell? ⟨w.heap.size + 1, 2, none⟩ = some (.int .u64 o.x2) := (SD.out.live (w.heap.size + 1, o) (by simp)).c2
   have c3 : wr.drew.cell? ⟨w.heap.size + 1, 3, none⟩ = some (.int .u64 o.x3) := (SD.out.live (w.heap.size + 1, o) (by simp)).c3
   clear hst hc ho hx hwd hx0 hx1
   rw [show ((k + 1 : Nat) : Int) - 1 = (k : Int) by omega]
   simp only [E4.v] at RS
   go_upto_region 5 with fail
   go_region_with (first | (go_at_call 56; with_reducible refine (RS.out _).mono ?_; rintro e wz ⟨t, rfl, ht, hb⟩; have S2 := SD.out.keep hb; have z0 := (S2.live (w.heap.size + 1, o) (by simp)).c0; have z1 := (S2.live (w.heap.size + 1, o) (by simp)).c1; have z2 := (S2.live (w.heap.size + 1, o) (by simp)).c2; have z3 := (S2.live (w.heap.size + 1, o) (by simp)).c3; obtain ⟨f0, f1, f2, f3⟩ := (S2.wrt (w.heap.size + 1) (by simp)).1; have S3 := hidden (S2.set (b := w.heap.size + 1) (M := [(w.heap.size, zero4)]) t (old := o) (by simp) (by omega) (by simp)); have HT := hidden (NX.out t ht); clear S2 ht hb))
   all_goals
    clear c0 c1 c2 c3 hc2 z0 z1 z2 z3 f0 f1 f2 f3
    go_wp2_with fail
    go_roundw
    case rel => exact ⟨k, t, by omega, by go_num, by rw [HWD.out]; exact HT.out, S3.out⟩
    case measure => simp [intOf]
end Go.Proofs.YtnkaolobcglmlaaGreatDoor
