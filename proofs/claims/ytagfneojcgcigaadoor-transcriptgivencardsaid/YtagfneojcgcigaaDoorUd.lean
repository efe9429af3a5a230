import Derived.Test.YtagfneojcgcigaaDoorUc
import Derived.Test.YtagfneojcgcigaaDoorSsum
namespace Go.Proofs.YtagfneojcgcigaaDoor.Tr
open Go.RowKit
/-- limbs that lie from an address on -/
structure Rl (w : World) (b o n : Nat) (g : Nat → E4) : Prop where
  c0 : ∀ k, k < n → w.cell? ⟨b, o + k * 4, none⟩ = some (.int .u64 (g k).x0)
  c1 : ∀ k, k < n → w.cell? ⟨b, o + k * 4 + 1, none⟩ = some (.int .u64 (g k).x1)
  c2 : ∀ k, k < n → w.cell? ⟨b, o + k * 4 + 2, none⟩ = some (.int .u64 (g k).x2)
  c3 : ∀ k, k < n → w.cell? ⟨b, o + k * 4 + 3, none⟩ = some (.int .u64 (g k).x3)
theorem Rl.keep {w1 w2 : World} {b o n : Nat} {g : Nat → E4} (h : Rl w1 b o n g) (hb : Below w1.heap.size w1 w2) : Rl w2 b o n g :=
  ⟨fun k hk => cell_keep (h.c0 k hk) hb, fun k hk => cell_keep (h.c1 k hk) hb, fun k hk => cell_keep (h.c2 k hk) hb, fun k hk => cell_keep (h.c3 k hk) hb⟩
theorem Rl.less {w : World} {b o n m : Nat} {g : Nat → E4} (h : Rl w b o n g) (hm : m ≤ n) : Rl w b o m g :=
  ⟨fun k hk => h.c0 k (by omega), fun k hk => h.c1 k (by omega), fun k hk => h.c2 k (by omega), fun k hk => h.c3 k (by omega)⟩
/-- the cells of scalars -/
def svs (n : Nat) (g : Nat → E4) : List Value := (List.range n).flatMap fun k => [.int .u64 (g k).x0, .int .u64 (g k).x1, .int .u64 (g k).x2, .int .u64 (g k).x3]
theorem svs_succ (n : Nat) (g : Nat → E4) : svs (n + 1) g = svs n g ++ [.int .u64 (g n).x0, .int .u64 (g n).x1, .int .u64 (g n).x2, .int .u64 (g n).x3] := by simp [svs, List.range_succ]
theorem svs_len (n : Nat) (g : Nat → E4) : (svs n g).length = n * 4 := by
  induction n with
  | zero => rfl
  | succ n ih => rw [svs_succ, List.length_append, ih]; simp; omega
theorem svs_congr {n : Nat} {f g : Nat → E4} (h : ∀ k, k < n → f k = g k) : svs n f = svs n g := by
  induction n with
  | zero => rfl
  | succ n ih => rw [svs_succ, svs_succ, ih (fun k hk => h k (by omega)), h n (by omega)]
theorem rl_cells {w : World} {b o m : Nat} {g : Nat → E4} (h : Rl w b o m g) (n : Nat) (hn : n ≤ m) : ∀ j u, (svs n g)[j]? = some u → w.cell? ⟨b, o + j, none⟩ = some u := by
  induction n with
  | zero => intro j u hu; simp [svs] at hu
  | succ n ih =>
    intro j u hu
    rw [svs_succ] at hu
    by_cases hj : j < n * 4
    · rw [List.getElem?_append_left (by rw [svs_len]; exact hj)] at hu
      exact ih (by omega) j u hu
    · rw [List.getElem?_append_right (by rw [svs_len]; omega), svs_len] at hu
      obtain ⟨d, hd⟩ : ∃ d, j = n * 4 + d := ⟨j - n * 4, by omega⟩
      subst hd
      rw [show n * 4 + d - n * 4 = d by omega] at hu
      match d, hu with
      | 0, hu => simp at hu; rw [← hu]; exact h.c0 n (by omega)
      | 1, hu => simp at hu; rw [← hu]; exact h.c1 n (by omega)
      | 2, hu => simp at hu; rw [← hu]; exact h.c2 n (by omega)
      | 3, hu => simp at hu; rw [← hu]; exact h.c3 n (by omega)
theorem svs_one (g : Nat → E4) (n : Nat) : ∀ u ∈ svs n g, u.oneCell' = true := by
  induction n with
  | zero => intro u hu; simp [svs] at hu
  | succ n ih =>
    intro u hu
    rw [svs_succ] at hu
    rcases List.mem_append.1 hu with h | h
    · exact ih u h
    · simp only [List.mem_cons, List.not_mem_nil, or_false] at h
      rcases h with rfl | rfl | rfl | rfl <;> rfl

theorem own_rl {w : World} {base gg n cap : Nat} {e : TypeId} {g : Nat → E4} (h : w.ownsRow base e 4 (.slice (some ⟨gg, 0, none⟩) n cap) n (svs n g)) : Rl w gg 0 n g := by
  have hc : ∀ k, k < n * 4 → w.cell? ⟨gg, k, none⟩ = (svs n g)[k]? := fun k hk => h.cellAt k hk
  have hs : ∀ k d, k < n → d < 4 → (svs n g)[k * 4 + d]? = some ([Value.int .u64 (g k).x0, .int .u64 (g k).x1, .int .u64 (g k).x2, .int .u64 (g k).x3].getD d undef) := by
    intro k d hk hd
    clear hc h
    induction n with
    | zero => omega
    | succ n ih =>
      rw [svs_succ]
      by_cases hkn : k < n
      · rw [List.getElem?_append_left (by rw [svs_len]; omega)]
        exact ih hkn
      · have : k = n := by omega
        subst this
        rw [List.getElem?_append_right (by rw [svs_len]; omega), svs_len, show k * 4 + d - k * 4 = d by omega]
        obtain rfl | rfl | rfl | rfl : d = 0 ∨ d = 1 ∨ d = 2 ∨ d = 3 := by omega
        all_goals rfl
  refine ⟨fun k hk => ?_, fun k hk => ?_, fun k hk => ?_, fun k hk => ?_⟩ <;> rw [Nat.zero_add]
  · rw [hc _ (by omega)]; exact hs k 0 hk (by omega)
  · rw [hc _ (by omega)]; exact hs k 1 hk (by omega)
  · rw [hc _ (by omega)]; exact hs k 2 hk (by omega)
  · rw [hc _ (by omega)]; exact hs k 3 hk (by omega)

theorem info27 : (Tryd.prog.info? 27).map (fun i => (i.zero, i.size, i.bytes)) = some (some (.agg #[.int .u64 0, .int .u64 0, .int .u64 0, .int .u64 0]), 4, 32) := by kernel_rfl
/-- a box of three cells -/
def B3 (w : World) (b : Nat) (t : TypeId) (x y z : Value) : Prop := w.heap[b]? = some (.cells #[x, y, z] t (0, 0))
theorem B3.c0 {w : World} {b : Nat} {t : TypeId} {x y z : Value} (h : B3 w b t x y z) : w.cell? ⟨b, 0, none⟩ = some x := by
  rw [cell_of_row w b 0 _ t (0, 0) h]; rfl
theorem B3.c1 {w : World} {b : Nat} {t : TypeId} {x y z : Value} (h : B3 w b t x y z) : w.cell? ⟨b, 1, none⟩ = some y := by
  rw [cell_of_row w b 1 _ t (0, 0) h]; rfl
theorem B3.c2 {w : World} {b : Nat} {t : TypeId} {x y z : Value} (h : B3 w b t x y z) : w.cell? ⟨b, 2, none⟩ = some z := by
  rw [cell_of_row w b 2 _ t (0, 0) h]; rfl
theorem B3.f {w : World} {b : Nat} {t : TypeId} {x y z : Value} (h : B3 w b t x y z) (j : Nat) : w.frozen? ⟨b, j, none⟩ = false := frozen_of_row w b j _ t h
theorem B3.lt {w : World} {b : Nat} {t : TypeId} {x y z : Value} (h : B3 w b t x y z) : b < w.heap.size := (Array.getElem?_eq_some_iff.1 h).1
theorem B3.set0 {w : World} {b : Nat} {t : TypeId} {x y z : Value} (h : B3 w b t x y z) (v : Value) : B3 (w.setCell ⟨b, 0, none⟩ v) b t v y z := heap_setCell_same w b 0 _ t v h
theorem B3.set1 {w : World} {b : Nat} {t : TypeId} {x y z : Value} (h : B3 w b t x y z) (v : Value) : B3 (w.setCell ⟨b, 1, none⟩ v) b t x v z := heap_setCell_same w b 1 _ t v h
theorem B3.blk {w w' : World} {b : Nat} {t : TypeId} {x y z : Value} (h : B3 w b t x y z) (e : w'.heap[b]? = w.heap[b]?) : B3 w' b t x y z := e.trans h
theorem B3.keep {w w' : World} {b n : Nat} {t : TypeId} {x y z : Value} (h : B3 w b t x y z) (e : Below n w w') (hb : b < n) : B3 w' b t x y z := h.blk (e.block b hb)
theorem own_shape4 {w : World} {base n s : Nat} {e : TypeId} {v : Value} {xs : List Value} (h : w.ownsRow base e s v n xs) : ∃ (P : Option Addr) (c : Nat), v = .slice P n c ∧ n ≤ c := by
  rcases h.2 with ⟨rfl, rfl⟩ | ⟨g, cap, cur, rfl, _, _, hn, _⟩
  · exact ⟨none, 0, rfl, Nat.le_refl _⟩
  · exact ⟨_, _, rfl, hn⟩
theorem own_some4 {w : World} {base n s : Nat} {e : TypeId} {v : Value} {xs : List Value} (h : w.ownsRow base e s v n xs) (hn : 0 < n) : ∃ g c : Nat, v = .slice (some ⟨g, 0, none⟩) n c ∧ n ≤ c := by
  rcases h.2 with ⟨_, h0⟩ | ⟨g, cap, cur, rfl, _, _, hnc, _⟩
  · omega
  · exact ⟨g, cap, rfl, hnc⟩
set_option maxRecDepth 100000 in
set_option maxHeartbeats 4000000 in
theorem sclone_any (P : Option Addr) (c m : Nat) (g : Nat → E4) (w : World) (hn : P = none → m = 0 ∧ c = 0) (hc : ∀ a, P = some a → ∀ j u, (svs m g)[j]? = some u → w.cell? (a.add j) = some u) (hl : m ≤ 4398046510976) :
    Calls Tryd.prog 15 #[.slice P m c] w fun e w' => ∃ (Q : Option Addr) (d : Nat), e = .returned (.slice Q m d) ∧ w'.ownsRow w.heap.size 27 4 (.slice Q m d) m (svs m g) ∧ Below w.heap.size w w' := by
  have eqn := fun (a : Option Addr) (l c : Nat) (w : World) => Lib.run_eql_slice_nil (P := Tryd.prog) w 24 27 a l c 0 0 (by kernel_rfl)
  have HL := hidden hl
  cases P with
  | none =>
    obtain ⟨rfl, rfl⟩ := hn rfl
    clear hn hc hl
    go_enter Tryd.func15, Tryd.ntmps15
    go_wp2_with fail
    refine bodyPost_ret (v := .slice none 0 0) (by simp [results, Tryd.results15, go_sem]) rfl ⟨none, 0, rfl, World.ownsRow_nil _ _ _ _, Below.refl _ _⟩
  | some ad =>
    obtain ⟨i0, hi, hz0, hz1, hz2⟩ := info_parts info27
    have HI := hidden hi
    have HZ0 := hidden hz0
    have HZ1 := hidden hz1
    have HZ2 := hidden hz2
    have HU : Hid (Tryd.prog.underlying 24 = some (.slice 27)) := hidden (by kernel_rfl)
    have O0 := hidden (World.ownsRow_made (base := w.heap.size) (e := 27) (size := 4) w #[] 0 (Nat.le_refl _) (by unfold maxLen; omega) rfl)
    have B0 := hidden (bl_alloc w (.cells #[] 27))
    have HC : Hid (∀ j u, (svs m g)[j]? = some u → (w.alloc (.cells #[] 27)).cell? (ad.add j) = some u) := hidden (fun j u hu => cell_keep (hc ad rfl j u hu) (bl_alloc w _))
    clear hn hc hl hi hz0 hz1 hz2
    go_enter Tryd.func15, Tryd.ntmps15
    go_wp2_with (first | (at_builtin; refine wpList_append_own_at _ rfl _ _ 24 rfl w.heap.size 27 i0 (.agg #[.int .u64 0, .int .u64 0, .int .u64 0, .int .u64 0]) 4 32 HU.out HI.out HZ0.out HZ1.out HZ2.out rfl (by decide) _ 0 [] rfl O0.out ad m c (svs m g) rfl (svs_len _ _) HC.out (svs_one g m) (by have := HL.out; unfold maxLen; omega) (by have := HL.out; omega) B0.out.size ?_; intro v2 w2 ho2 hg2 hn2 ha2; have HO := hidden ho2; have HB := hidden (below_trans B0.out (below_grown hg2 B0.out.size (fun k hk => (O0.out.lt k hk).1))); clear ho2 hg2 hn2 ha2; rw [Nat.zero_add, List.nil_append] at HO))
    obtain ⟨Q, d, rfl, -⟩ := own_shape4 HO.out
    refine bodyPost_ret (v := .slice Q m d) (by simp [results, Tryd.results15, go_sem]) rfl ⟨Q, d, rfl, HO.out, HB.out⟩
/-- the challenges that are left -/
def Lf (w : World) (sb : Nat) (P : Option Addr) (m : Nat) (g : Nat → E4) : Prop := ∃ gL o : Nat, (0 < m → P = some ⟨gL, o, none⟩ ∧ gL < sb) ∧ (0 < m → Rl w gL o m g)
theorem Lf.keep {w w' : World} {sb : Nat} {P : Option Addr} {m : Nat} {g : Nat → E4} (h : Lf w sb P m g) (hb : ∀ k, k < sb → w'.heap[k]? = w.heap[k]?) : Lf w' sb P m g := by
  obtain ⟨gL, o, h1, h2⟩ := h
  refine ⟨gL, o, h1, fun hm => ?_⟩
  have hr := h2 hm
  have e := hb gL (h1 hm).2
  exact ⟨fun k hk => (World.cell?_of_block e).trans (hr.c0 k hk), fun k hk => (World.cell?_of_block e).trans (hr.c1 k hk), fun k hk => (World.cell?_of_block e).trans (hr.c2 k hk), fun k hk => (World.cell?_of_block e).trans (hr.c3 k hk)⟩
theorem Lf.keep1 {w w' : World} {sb : Nat} {P : Option Addr} {m : Nat} {g : Nat → E4} (h : Lf w sb P m g) (hb : ∀ a, P = some a → 0 < m → w'.heap[a.block]? = w.heap[a.block]?) : Lf w' sb P m g := by
  obtain ⟨gL, o, h1, h2⟩ := h
  refine ⟨gL, o, h1, fun hm => ?_⟩
  have hr := h2 hm
  have e : w'.heap[gL]? = w.heap[gL]? := hb _ (h1 hm).1 hm
  exact ⟨fun k hk => (World.cell?_of_block (a := ⟨gL, _, none⟩) e).trans (hr.c0 k hk), fun k hk => (World.cell?_of_block (a := ⟨gL, _, none⟩) e).trans (hr.c1 k hk), fun k hk => (World.cell?_of_block (a := ⟨gL, _, none⟩) e).trans (hr.c2 k hk), fun k hk => (World.cell?_of_block (a := ⟨gL, _, none⟩) e).trans (hr.c3 k hk)⟩
set_option maxRecDepth 100000 in
set_option maxHeartbeats 4000000 in
theorem givens_any (P : Option Addr) (c m : Nat) (g : Nat → E4) (w : World) (hn : P = none → m = 0 ∧ c = 0) (hc : ∀ a, P = some a → ∀ j u, (svs m g)[j]? = some u → w.cell? (a.add j) = some u) (hl : m ≤ 4398046510976) :
    Calls Tryd.prog 4 #[.slice P m c] w fun e w' => ∃ (sb : Nat) (Q : Option Addr) (d : Nat), e = .returned (.pointer (some ⟨sb, 0, none⟩)) ∧ B3 w' sb 54 (.slice Q m d) (.slice none 0 0) (.bool true) ∧ m ≤ d ∧ Lf w' sb Q m g ∧ (∀ a, Q = some a → w.heap.size ≤ a.block) ∧ w.heap.size ≤ sb ∧ Below w.heap.size w w' := by
  have C1 := hidden (sclone_any P c m g w hn hc hl)
  clear hn hc hl
  go_enter Tryd.func4, Tryd.ntmps4
  go_wp2_with (first | (go_at_call 15; refine C1.out.mono ?_; rintro e w1 ⟨Q, d, rfl, ho, hb⟩; have HO := hidden ho; have HB := hidden hb; clear ho hb))
  have HX : B3 (w1.alloc (.cells #[.slice Q m d, .slice none 0 0, .bool true] 54)) w1.heap.size 54 (.slice Q m d) (.slice none 0 0) (.bool true) := heap_alloc_new w1 _
  refine bodyPost_ret (v := .pointer (some ⟨w1.heap.size, 0, none⟩)) (by simp [results, Tryd.results4, go_sem]) rfl ⟨w1.heap.size, Q, d, rfl, HX, ?_, ?_, fun a ha => (HO.out.lt a.block (by subst ha; rfl)).1, HB.out.size, bl_trans HB.out (bl_alloc w1 _)⟩
  · obtain ⟨P', c', e, h⟩ := own_shape4 HO.out
    simp only [Value.slice.injEq] at e
    omega
  · by_cases hm : 0 < m
    · obtain ⟨gL, cL, e, _⟩ := own_some4 HO.out hm
      simp only [Value.slice.injEq] at e
      obtain ⟨rfl, _, rfl⟩ := e
      exact ⟨gL, 0, fun _ => ⟨rfl, (HO.out.lt gL rfl).2⟩, fun _ => (own_rl HO.out).keep (bl_alloc w1 _)⟩
    · exact ⟨0, 0, fun h => absurd h hm, fun h => absurd h hm⟩
end Go.Proofs.YtagfneojcgcigaaDoor.Tr
