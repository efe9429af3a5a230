import Derived.Test.YtgijodenblpbgaaDoorRef
namespace Go.Proofs.YtgijodenblpbgaaDoor
open Go.RowKit
theorem i64_and26 (n : Int) : bits .and .i64 n 67108863 = n % 67108864 := by
  have h127 : (BitVec.ofInt 64 67108863).toNat = 2 ^ 26 - 1 := by decide
  have key : (BitVec.ofInt 64 n &&& BitVec.ofInt 64 67108863).toNat = (n % ((2 ^ 64 : Nat) : Int)).toNat % 2 ^ 26 := by
    rw [BitVec.toNat_and, BitVec.toNat_ofInt, h127, Nat.and_two_pow_sub_one_eq_mod]
  show IntKind.i64.wrap ((BitVec.ofInt 64 n &&& BitVec.ofInt 64 67108863).toNat : Nat) = n % 67108864
  rw [key, IntKind.wrap_i64]
  omega
/-- the number without its lowest k digits; its digit j; its ten digits -/
def dv (D : Int) : Nat → Int
  | 0 => D
  | k + 1 => dv D k / 67108864
def dig (D : Int) (j : Nat) : Int := dv D j % 67108864
def digs (D : Int) : List Int := (List.range 10).map (dig D)
theorem digs_len (D : Int) : (digs D).length = 10 := by simp [digs]
theorem digsV (n : Int) (j : Nat) (v : Value) (h : ((digs n).map fun z => Value.int .i64 z)[j]? = some v) : j < 10 ∧ v = .int .i64 (dig n j) := by
  have hj : j < 10 := by
    have := (List.getElem?_eq_some_iff.1 h).1
    simpa [digs] using this
  refine ⟨hj, ?_⟩
  rw [List.getElem?_map] at h
  simp [digs, hj] at h
  exact h.symm
theorem numF_drop (xs : List Int) (k : Nat) (h : k < xs.length) : numF (xs.drop k) = xs.getD k 0 + 67108864 * numF (xs.drop (k + 1)) := by
  rw [List.drop_eq_getElem_cons h, numF]
  simp [List.getD_eq_getElem?_getD, h]
theorem there_newR (w : World) (C : Array Value) (t : TypeId) : (w.alloc (.cells C t)).there w.heap.size 0 C.size := fun j hj => by
  refine ⟨?_, by go_simp⟩
  rw [Nat.zero_add, World.cell?_alloc_mark]
  simp [hj]
theorem below_setCellsR {w0 : World} (b : Nat) : ∀ (vs : List Value) (o : Nat) {w : World}, Below w0.heap.size w0 w → w0.heap.size ≤ b → Below w0.heap.size w0 (w.setCells b o vs)
  | [], _, _, h, _ => h
  | v :: vs, o, w, h, hb => by
    rw [World.setCells]
    exact below_setCellsR b vs (o + 1) (h.setCell hb v) hb
theorem results_cellR {fn : Func} {p : Tmp} {ty : TypeId} (h : fn.results = #[.cell p ty]) (tmps : Array Value) (P : Program) (w : World) (a : Addr) (v : Value) (ha : tmps.getD p undef = .pointer (some a)) (hl : (loadVar ty a).run P w = .ok v w) :
    (results fn tmps).run P w = .ok v w := by
  have e : (results fn tmps).run P w = ((asAddr (tmps.getD p undef)).run P w).andThen fun a w1 => (loadVar ty a).run P w1 := by
    simp only [results, h]
    simp [Sem.run_bind, Result.andThen]
  rw [e, ha]
  simp [asAddr, hl, Result.andThen]

/-- what lies where in minus -/
structure MW (w0 : World) (xs ys : List Int) (D : Int) (k : Nat) (w : World) : Prop where
  a : Ten w w0.heap.size xs
  b : Ten w (w0.heap.size + 1) ys
  th : w.there (w0.heap.size + 1 + 1) 0 10
  o : ∀ j, j < 10 → w.cell? ⟨w0.heap.size + 1 + 1 + 1, j, none⟩ = some (.int .i64 (if j < k then dig D j else 0))
  fr : ∀ j, j < 10 → w.frozen? ⟨w0.heap.size + 1 + 1 + 1, j, none⟩ = false
  bel : Below w0.heap.size w0 w
theorem Ten.away {w : World} {b : Nat} {xs : List Int} {p : Addr} {v : Value} (h : Ten w b xs) (hne : p.block ≠ b) : Ten (w.setCell p v) b xs := ⟨h.1, fun j hj => (World.cell?_setCell_far w p _ v hne).trans (h.2 j hj)⟩
theorem MW.step {w0 : World} {xs ys : List Int} {D : Int} {k : Nat} {w : World} (h : MW w0 xs ys D k w) (hk : k < 10) :
    MW w0 xs ys D (k + 1) (w.setCell ⟨w0.heap.size + 1 + 1 + 1, k, none⟩ (.int .i64 (dig D k))) := by
  refine ⟨h.a.away (by show _ + 1 + 1 + 1 ≠ _; omega), h.b.away (by show _ + 1 + 1 + 1 ≠ _; omega), fun j hj => ⟨?_, by rw [World.frozen?_setCell]; exact (h.th j hj).2⟩, fun j hj => ?_, fun j hj => by have := h.fr j hj; go_simp, h.bel.setCell (by show _ ≤ _ + 1 + 1 + 1; omega) _⟩
  · exact World.isSome_setCells (w0.heap.size + 1 + 1 + 1) [.int .i64 (dig D k)] k w _ (h.th j hj).1
  · by_cases hjk : j = k
    · subst hjk
      have hb := h.o j hj
      rw [if_pos (by omega)]
      go_simp
    · rw [World.cell?_setCell_other w _ _ _ (by intro e; exact hjk (congrArg Addr.off e).symm), h.o j hj]
      by_cases hlt : j < k
      · rw [if_pos hlt, if_pos (by omega)]
      · rw [if_neg hlt, if_neg (by omega)]
theorem MW.drew {w0 : World} {xs ys : List Int} {D : Int} {k : Nat} {w : World} (h : MW w0 xs ys D k w) : MW w0 xs ys D k w.drew :=
  ⟨h.a.keep ((Below.refl _ _).drew), h.b.keep ((Below.refl _ _).drew), h.th, h.o, h.fr, bl_trans h.bel ((Below.refl _ _).drew)⟩
theorem minus_step (q c x y X Y : Int) (h : c = q - ((x + 67108864 * X) - (y + 67108864 * Y))) : (c + x - y) % 67108864 = q % 67108864 ∧ (c + x - y) / 67108864 = q / 67108864 - (X - Y) := by omega
theorem MW.start (w : World) (xs ys : List Int) (D : Int) (t : TypeId) (lx : xs.length = 10) (ly : ys.length = 10) :
    MW w xs ys D 0 ((((w.alloc (.cells (xs.map fun z => Value.int .i64 z).toArray t)).alloc (.cells (ys.map fun z => Value.int .i64 z).toArray t)).alloc (.cells #[.int .i64 0, .int .i64 0, .int .i64 0, .int .i64 0, .int .i64 0, .int .i64 0, .int .i64 0, .int .i64 0, .int .i64 0, .int .i64 0] t)).alloc (.cells #[.int .i64 0, .int .i64 0, .int .i64 0, .int .i64 0, .int .i64 0, .int .i64 0, .int .i64 0, .int .i64 0, .int .i64 0, .int .i64 0] t)) := by
  have b := BW.start w xs ys t lx ly
  generalize hW : ((w.alloc (.cells (xs.map fun z => Value.int .i64 z).toArray t)).alloc (.cells (ys.map fun z => Value.int .i64 z).toArray t)) = W at *
  have sz : W.heap.size = w.heap.size + 1 + 1 := by rw [← hW]; simp
  have t1 := there_newR W #[.int .i64 0, .int .i64 0, .int .i64 0, .int .i64 0, .int .i64 0, .int .i64 0, .int .i64 0, .int .i64 0, .int .i64 0, .int .i64 0] t
  rw [sz] at t1
  have eZ : (#[.int .i64 0, .int .i64 0, .int .i64 0, .int .i64 0, .int .i64 0, .int .i64 0, .int .i64 0, .int .i64 0, .int .i64 0, .int .i64 0] : Array Value) = Array.replicate 10 (.int .i64 0) := rfl
  refine ⟨(b.a.keep (bl_alloc _ _)).keep (bl_alloc _ _), (b.b.keep (bl_alloc _ _)).keep (bl_alloc _ _), World.there_alloc t1 _, fun j hj => ?_, fun j hj => ?_, bl_trans b.bel (bl_alloc2 _ _ _)⟩
  · rw [if_neg (by omega)]
    have e : (W.alloc (.cells #[.int .i64 0, .int .i64 0, .int .i64 0, .int .i64 0, .int .i64 0, .int .i64 0, .int .i64 0, .int .i64 0, .int .i64 0, .int .i64 0] t)).heap.size = w.heap.size + 1 + 1 + 1 := by rw [World.size_alloc, sz]
    rw [← e, World.cell?_alloc_mark, eZ]
    simp [hj]
  · have e : (W.alloc (.cells #[.int .i64 0, .int .i64 0, .int .i64 0, .int .i64 0, .int .i64 0, .int .i64 0, .int .i64 0, .int .i64 0, .int .i64 0, .int .i64 0] t)).heap.size = w.heap.size + 1 + 1 + 1 := by rw [World.size_alloc, sz]
    rw [← e]
    go_simp

set_option maxRecDepth 100000 in
set_option maxHeartbeats 4000000 in
theorem minus_any (xs ys : List Int) (w : World) (lx : xs.length = 10) (ly : ys.length = 10) (hx : ∀ z ∈ xs, 0 ≤ z ∧ z < 67108864) (hy : ∀ z ∈ ys, 0 ≤ z ∧ z < 67108864) :
    Calls Tryd.prog 44 #[fv xs, fv ys] w fun e w' => e = .returned (fv (digs (numF xs - numF ys))) ∧ Below w.heap.size w w' := by
  have S0 : (0 : Int) = dv (numF xs - numF ys) 0 - (numF (xs.drop 0) - numF (ys.drop 0)) := by simp [dv]
  have M0 := hidden (MW.start w xs ys (numF xs - numF ys) 29 lx ly)
  have X := hidden (fun k (h : k < 10) => And.intro (numF_drop xs k (by omega)) (numF_drop ys k (by omega)))
  have G := hidden (fun k (h : k < 10) => And.intro (hx (xs.getD k 0) (by simp [List.getD_eq_getElem?_getD, lx, h])) (hy (ys.getD k 0) (by simp [List.getD_eq_getElem?_getD, ly, h])))
  have H0 := hidden S0
  clear lx ly hx hy S0
  generalize numF xs - numF ys = D at *
  unfold fv
  go_enter Tryd.func44, Tryd.ntmps44
  go_wp2_with fail
  go_loopw [6, 7] (fun cv i w' => ∃ (k : Nat) (c : Int), k ≤ 10 ∧ cv = .int .i64 c ∧ i = .int .i64 k ∧ -1 ≤ c ∧ c ≤ 0 ∧ Hid (c = dv D k - (numF (xs.drop k) - numF (ys.drop k))) ∧ Hid (MW w xs ys D k w')) (fun _ i _ => 10 - (intOf i).toNat)
  case atStart => exact ⟨0, 0, by omega, rfl, rfl, by omega, by omega, H0, M0⟩
  case round =>
    obtain ⟨k, c, hk, rfl, rfl, hc1, hc2, hd, hM⟩ := hrel
    clear M0 H0
    by_cases hlt : k < 10
    · obtain ⟨e1, e2⟩ := X.out k hlt
      have hd1 := hd.out
      rw [e1, e2] at hd1
      obtain ⟨s1, s2⟩ := minus_step _ _ _ _ _ _ hd1
      obtain ⟨⟨x0, x1⟩, ⟨y0, y1⟩⟩ := G.out k hlt
      have N0 := hidden (hM.out.step hlt).drew
      have hS1 := hidden (show (c + xs.getD k 0 - ys.getD k 0) % 67108864 = dig D k from s1)
      have hS2 := hidden (show (c + xs.getD k 0 - ys.getD k 0) / 67108864 = dv D (k + 1) - (numF (xs.drop (k + 1)) - numF (ys.drop (k + 1))) from s2)
      have g1 := hM.out.drew.o k hlt
      have g2 := hM.out.drew.fr k hlt
      rw [if_neg (by omega)] at g1
      have K : Hid (∀ w' : World, MW w xs ys D k w' → (fun w' => MW w xs ys D k w' ∧ w'.cell? ⟨w.heap.size, k, none⟩ = some (.int .i64 (xs.getD k 0)) ∧ w'.cell? ⟨w.heap.size + 1, k, none⟩ = some (.int .i64 (ys.getD k 0))) w') := hidden (fun w' h => ⟨h, h.a.2 k hlt, h.b.2 k hlt⟩)
      clear e1 e2 hd1 s1 s2 X G hd
      generalize xs.getD k 0 = x at *
      generalize ys.getD k 0 = y at *
      have hi1 : (k : Int) < 10 := by omega
      have hi0 : (0 : Int) ≤ (k : Int) := by omega
      have hw1 : IntKind.i64.wrap (c + x) = c + x := IntWalk.i64_in _ (by omega)
      have hw2 : IntKind.i64.wrap (c + x - y) = c + x - y := IntWalk.i64_in _ (by omega)
      have K0 := hidden (K.out _ hM.out.drew)
      go_upto_region 6 with fail
      go_region_held3 (fun w' => MW w xs ys D k w' ∧ w'.cell? ⟨w.heap.size, k, none⟩ = some (.int .i64 x) ∧ w'.cell? ⟨w.heap.size + 1, k, none⟩ = some (.int .i64 y)) (with_reducible exact K0.out) (fail)
      have hA := i64_and26 (c + x - y)
      have hb1 : -1 ≤ (c + x - y) / 67108864 ∧ (c + x - y) / 67108864 ≤ 0 := by omega
      clear K K0 hM
      go_wp2_with fail
      refine ⟨⟨k + 1, _, by omega, rfl, by go_num, hb1.1, hb1.2, hS2, ?_⟩, by simp [intOf]; omega⟩
      rw [hS1.out]
      exact N0
    · have hk10 : k = 10 := by omega
      subst hk10
      have hE := hM.out
      have hr : wr.rangeAt (w.heap.size + 1 + 1 + 1) 0 ((digs D).map fun z => Value.int .i64 z) := fun j v hv => by
        obtain ⟨hj, rfl⟩ := digsV D j v hv
        rw [Nat.zero_add, hE.o j hj, if_pos hj]
      have hl : ((digs D).map fun z => Value.int .i64 z).length = 10 := by simp [digs]
      have ho : ((digs D).map fun z => Value.int .i64 z).toArray.all (·.oneCell') = true := all_oneCell_toArray (fun v hv => by
        obtain ⟨z, _, rfl⟩ := List.mem_map.1 hv
        rfl)
      have hi : (Tryd.prog.info? 29).map (·.size) = some ((digs D).map fun z => Value.int .i64 z).length := by rw [hl]; kernel_rfl
      have hu : Tryd.prog.underlying 29 = some (.array 10 2) := by kernel_rfl
      have hth := hE.th
      have hbel := hidden hE.bel
      clear hE hM X G hd
      generalize hcs : ((digs D).map fun z => Value.int .i64 z) = cs at *
      have hth2 : wr.there (w.heap.size + 1 + 1) 0 cs.toArray.size := by simpa [hl] using hth
      have hi2 : (Tryd.prog.info? 29).map (·.size) = some cs.toArray.size := by simpa using hi
      have RD := run_loadVar_mid (P := Tryd.prog) (wr.setCells (w.heap.size + 1 + 1) 0 cs) (w.heap.size + 1 + 1) 0 29 cs _ (World.rangeAt_setCells_same wr (w.heap.size + 1 + 1) 0 cs (by rw [hl]; exact hth)) hu rfl hi
      have BEL : Below w.heap.size w (wr.setCells (w.heap.size + 1 + 1) 0 cs) := below_setCellsR (w.heap.size + 1 + 1) cs 0 hbel.out (by omega)
      have HU := hidden hu
      have HI := hidden hi
      have HI2 := hidden hi2
      have HTH := hidden hth2
      have HRA := hidden hr
      have HO := hidden ho
      have RDH := hidden RD
      have BELH := hidden BEL
      clear hth hth2 hu hi ho hi2 hr RD BEL
      go_wp2_with (first | refine wpList_load_mid rfl 29 _ rfl (w.heap.size + 1 + 1 + 1) 0 (by rfl) cs _ HRA.out HU.out rfl HI.out ?_ | refine wpList_store_mid rfl 29 _ _ rfl (w.heap.size + 1 + 1) 0 cs.toArray (by rfl) (by rfl) HTH.out HI2.out HO.out ?_)
      have RD := RDH.out
      refine bodyPost_ret (v := .agg cs.toArray) (results_cellR Tryd.results44 _ _ _ _ _ (by rfl) RD) rfl ⟨by rw [hcs], ?_⟩
      exact BELH.out
end Go.Proofs.YtgijodenblpbgaaDoor
