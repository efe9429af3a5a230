import Derived.Test.YtpldkolphmbahaaDoorGa
namespace Go.Proofs.YtpldkolphmbahaaDoor
open Go.RowKit
set_option linter.unusedVariables false
/-- the cells of the document's element of a scalar -/
def el (k : E4) : List Value := [.int .i64 2, .int .i64 0, .int .i64 0, .int .i64 0, .int .i64 0, .int .i64 0, .int .i64 0, .int .i64 0, .int .i64 0, .int .i64 0, .int .i64 0, .int .i64 0, .int .i64 0, .int .i64 0, .int .i64 0, .int .i64 0, .int .i64 0, .int .i64 0, .int .i64 0, .int .i64 0, .int .i64 0, .int .u64 k.x0, .int .u64 k.x1, .int .u64 k.x2, .int .u64 k.x3, .slice none 0 0]
theorem el_len (k : E4) : (el k).length = 26 := rfl
theorem el_one (k : E4) : (el k).toArray.all (·.oneCell') = true := by simp [el, Value.oneCell']
theorem einfo : (Tryd.prog.info? 39).map (·.size) = some 26 := by kernel_rfl
theorem el_i (k : E4) : (Tryd.prog.info? 39).map (·.size) = some (el k).length := einfo
theorem el_i2 (k : E4) : (Tryd.prog.info? 39).map (·.size) = some (el k).toArray.size := einfo
theorem el_0 (k : E4) : (el k)[0]? = some (.int .i64 2) := rfl
theorem el_21 (k : E4) : (el k)[21]? = some (.int .u64 k.x0) := rfl
theorem el_22 (k : E4) : (el k)[22]? = some (.int .u64 k.x1) := rfl
theorem el_23 (k : E4) : (el k)[23]? = some (.int .u64 k.x2) := rfl
theorem el_24 (k : E4) : (el k)[24]? = some (.int .u64 k.x3) := rfl
set_option maxRecDepth 100000 in
set_option maxHeartbeats 4000000 in
theorem lineOf_any (k : E4) (w : World) :
    Calls Tryd.prog 4 #[k.v] w fun e w' => e = .returned (.agg (el k).toArray) ∧ Below w.heap.size w w' := by
  have M0 := ((Mw.start w).new [.int .u64 k.x0, .int .u64 k.x1, .int .u64 k.x2, .int .u64 k.x3] 36).new [.int .i64 0, .int .i64 0, .int .i64 0, .int .i64 0, .int .i64 0, .int .i64 0, .int .i64 0, .int .i64 0, .int .i64 0, .int .i64 0, .int .i64 0, .int .i64 0, .int .i64 0, .int .i64 0, .int .i64 0, .int .i64 0, .int .i64 0, .int .i64 0, .int .i64 0, .int .i64 0, .int .i64 0, .int .u64 0, .int .u64 0, .int .u64 0, .int .u64 0, .slice none 0 0] 39
  simp only [World.size_alloc] at M0
  have TH := hidden (M0.ther (el k) (c := w.heap.size + 1) (o := [.int .i64 0, .int .i64 0, .int .i64 0, .int .i64 0, .int .i64 0, .int .i64 0, .int .i64 0, .int .i64 0, .int .i64 0, .int .i64 0, .int .i64 0, .int .i64 0, .int .i64 0, .int .i64 0, .int .i64 0, .int .i64 0, .int .i64 0, .int .i64 0, .int .i64 0, .int .i64 0, .int .i64 0, .int .u64 0, .int .u64 0, .int .u64 0, .int .u64 0, .slice none 0 0]) (by simp) rfl)
  have M1 := M0.set (M := []) (el k) (c := w.heap.size + 1) (o := [.int .i64 0, .int .i64 0, .int .i64 0, .int .i64 0, .int .i64 0, .int .i64 0, .int .i64 0, .int .i64 0, .int .i64 0, .int .i64 0, .int .i64 0, .int .i64 0, .int .i64 0, .int .i64 0, .int .i64 0, .int .i64 0, .int .i64 0, .int .i64 0, .int .i64 0, .int .i64 0, .int .i64 0, .int .u64 0, .int .u64 0, .int .u64 0, .int .u64 0, .slice none 0 0]) (by simp) rfl (fun p hp => by cases hp)
  have LD := hidden (M1.var (c := w.heap.size + 1) (ds := el k) (by simp) Tryd.underlying39 rfl (el_i k))
  have BL := hidden M1.bel
  have I2 := hidden (el_i2 k)
  have O2 := hidden (el_one k)
  unfold E4.v
  clear M0 M1
  go_enter Tryd.func4, Tryd.ntmps4
  go_wp2_with (first | refine wpList_buildC rfl 39 _ rfl (el k).toArray (by kernel_rfl) ?_ | refine wpList_store_mid rfl 39 _ _ rfl (w.heap.size + 1) 0 (el k).toArray (by rfl) (by rfl) TH.out I2.out O2.out ?_)
  refine bodyPost_ret (v := .agg (el k).toArray) (results_cellM Tryd.results4 _ _ _ _ _ (by rfl) LD.out) rfl ⟨rfl, BL.out⟩

/-- cells in a block, that may be written -/
structure Gs (w : World) (b n : Nat) (f : Nat → Value) : Prop where
  lt : b < w.heap.size
  c : ∀ k, k < n → w.cell? ⟨b, k, none⟩ = some (f k)
  fr : ∀ k, k < n → w.frozen? ⟨b, k, none⟩ = false
theorem Gs.keep {w w' : World} {b n : Nat} {f : Nat → Value} (h : Gs w b n f) (hb : Below w.heap.size w w') : Gs w' b n f :=
  ⟨Nat.lt_of_lt_of_le h.lt hb.size, fun k hk => cell_keep (h.c k hk) hb, fun k hk => ((bcell hb).2 _ _ h.lt).trans (h.fr k hk)⟩
theorem Gs.four (w : World) (t : TypeId) : Gs (w.alloc (.cells #[.int .u64 0, .int .u64 0, .int .u64 0, .int .u64 0] t)) w.heap.size 4 (fun _ => .int .u64 0) :=
  ⟨by simp, fun k hk => by
    rw [cell_of_row _ w.heap.size k _ t (0, 0) (heap_alloc_new w _)]
    match k, hk with
    | 0, _ => rfl | 1, _ => rfl | 2, _ => rfl | 3, _ => rfl, fun k hk => by go_simp⟩
set_option maxRecDepth 100000 in
set_option maxHeartbeats 4000000 in
theorem num_any (a : E4) (w : World) (h : a.ok) : Calls Tryd.prog 5 #[a.v] w fun e w' => e = .returned (lst a.n).v ∧ Below w.heap.size w w' := by
  have C := hidden (fun w => rleast_any a w h)
  have G0 := hidden (Gs.four (w.alloc (.cells #[.int .u64 a.x0, .int .u64 a.x1, .int .u64 a.x2, .int .u64 a.x3] 24)) 36)
  simp only [World.size_alloc] at G0
  have B0 := hidden (bl_alloc2 w (.cells #[.int .u64 a.x0, .int .u64 a.x1, .int .u64 a.x2, .int .u64 a.x3] 24) (.cells #[.int .u64 0, .int .u64 0, .int .u64 0, .int .u64 0] 36))
  unfold E4.v at C ⊢
  clear h
  go_enter Tryd.func5, Tryd.ntmps5
  go_wp2_with (first | (go_at_call 13; refine (C.out _).mono ?_; rintro e wa ⟨t, rfl, ht, ha⟩; have G1 := G0.out.keep ha; have t0 := G1.c 0 (by omega); have t1 := G1.c 1 (by omega); have t2 := G1.c 2 (by omega); have t3 := G1.c 3 (by omega); have f0 := G1.fr 0 (by omega); have f1 := G1.fr 1 (by omega); have f2 := G1.fr 2 (by omega); have f3 := G1.fr 3 (by omega); have BB := hidden (bl_trans B0.out ha); clear ha G1))
  have ht' : t = lst a.n := ht
  rw [← ht']
  refine bodyPost_ret (v := .agg #[.int .u64 t.x0, .int .u64 t.x1, .int .u64 t.x2, .int .u64 t.x3]) (by simp [results, Tryd.results5, go_sem, *]) rfl ⟨rfl, (((BB.out.setCell (Nat.le_succ _) _).setCell (Nat.le_succ _) _).setCell (Nat.le_succ _) _).setCell (Nat.le_succ _) _⟩
theorem range_keepO {w w' : World} {b o m : Nat} {cs : List Value} (h : w.rangeAt b o cs) (hb : Below m w w') (hm : b < m) : w'.rangeAt b o cs := fun j v hv => (hb.cell (p := ⟨b, o + j, none⟩) hm).trans (h j v hv)
/-- the document's elements that lie in a block -/
def Rk (w : World) (b n : Nat) (h : Nat → E4) : Prop := ∀ k, k < n → w.rangeAt b (k * 26) (el (h k))
theorem Rk.keep {w w' : World} {b n : Nat} {h : Nat → E4} (H : Rk w b n h) (hb : Below w.heap.size w w') : Rk w' b n h := fun k hk j v hv => cell_keep (H k hk j v hv) hb
theorem Rk.c {w : World} {b n : Nat} {h : Nat → E4} (H : Rk w b n h) {k : Nat} (hk : k < n) :
    w.cell? ⟨b, k * 26 + 21, none⟩ = some (.int .u64 (h k).x0) ∧ w.cell? ⟨b, k * 26 + 22, none⟩ = some (.int .u64 (h k).x1) ∧ w.cell? ⟨b, k * 26 + 23, none⟩ = some (.int .u64 (h k).x2) ∧ w.cell? ⟨b, k * 26 + 24, none⟩ = some (.int .u64 (h k).x3) :=
  ⟨H k hk 21 _ rfl, H k hk 22 _ rfl, H k hk 23 _ rfl, H k hk 24 _ rfl⟩
end Go.Proofs.YtpldkolphmbahaaDoor
