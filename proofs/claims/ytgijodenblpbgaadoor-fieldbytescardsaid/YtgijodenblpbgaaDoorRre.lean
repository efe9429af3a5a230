import Derived.Test.YtgijodenblpbgaaDoorRde
namespace Go.Proofs.YtgijodenblpbgaaDoor
open Go.RowKit
theorem and127 (x : Int) (h0 : 0 ≤ x) (h1 : x ≤ 255) : bits .and .u8 x 127 = x % 128 := by
  rw [u8_and x 127 h0 (by omega) (by omega) (by omega)]
  have : x.toNat &&& (127 : Int).toNat = x.toNat % 128 := Nat.and_two_pow_sub_one_eq_mod x.toNat 7
  rw [this]; omega
theorem strike_len (zs : List Int) : (strike zs).length = zs.length := by simp [strike]
theorem strike_in (zs : List Int) (hz : ∀ z ∈ zs, 0 ≤ z ∧ z ≤ 255) : ∀ z ∈ strike zs, 0 ≤ z ∧ z ≤ 255 := fun z h => by
  unfold strike at h
  rcases List.mem_or_eq_of_mem_set h with h | h
  · exact hz z h
  · rw [h]; omega
theorem strike_get (zs : List Int) (hl : zs.length = 32) (j : Nat) (hj : j < 32) : (strike zs).getD j 0 = if j = 31 then zs.getD 31 0 % 128 else zs.getD j 0 := by
  unfold strike
  by_cases h : j = 31
  · subst h
    rw [if_pos rfl, List.getD_eq_getElem?_getD, List.getElem?_set_self (by omega)]
    rfl
  · rw [if_neg h, List.getD_eq_getElem?_getD, List.getElem?_set_ne (by omega), List.getD_eq_getElem?_getD]
theorem FR.cell {w0 : World} {L : List (Nat × Int)} {w : World} (h : FR w0 L w) (c k : Nat) (v : Value) (hc : ∀ p ∈ L, c ≠ p.1) (h0 : w0.heap.size ≤ c) : FR w0 L (w.setCell ⟨c, k, none⟩ v) := by
  have g := h.g
  refine ⟨fun p hp => ⟨fun j u hu => (World.cell?_setCell_far w _ _ _ (hc p hp)).trans ((h.r p hp).1 j u hu), fun j hj => ⟨?_, by rw [World.frozen?_setCell]; exact ((h.r p hp).2.1 j hj).2⟩, (h.r p hp).2.2⟩, ⟨fun j u hu => (World.cell?_setCell_far w _ _ _ (by show c ≠ 1; omega)).trans (h.p.r j u hu)⟩, h.g, h.bel.setCell h0 _⟩
  have := ((h.r p hp).2.1 j hj).1
  rw [World.cell?_setCell_far w _ _ _ (hc p hp)]
  exact this
set_option maxRecDepth 100000 in
set_option maxHeartbeats 16000000 in
theorem rReduce_any (zs : List Int) (w : World) (hl : zs.length = 32) (hz : ∀ z ∈ zs, 0 ≤ z ∧ z ≤ 255) (hP : Pm w) :
    Calls Tryd.prog 15 #[.agg (vb zs).toArray] w fun e w' => e = .returned (.agg (dg (((num zs % 57896044618658097711785492504343953926634992332820282019728792003956564819968 : Nat) : Int) % pF)).toArray) ∧ Below w.heap.size w w' := by
  have b0 := BF.start w zs 26 29 hl hP
  have NU := hidden (fun (w' : World) (b : BF w (strike zs) [(w.heap.size + 1, 0)] w') => rNumber_any w.heap.size (strike zs) w' (b.byt (by rw [strike_len, hl])) (strike_in zs hz) b.f.p)
  rw [num_strike zs hl hz] at NU
  have x0 := hz (zs.getD 31 0) (by simp [List.getD_eq_getElem?_getD, hl])
  have A1 := and127 (zs.getD 31 0) x0.1 x0.2
  have c0 := b0.b.c 31 (by omega)
  have f0 := b0.b.fr 31 (by omega)
  have SB : ∀ w', BF w zs [(w.heap.size + 1, 0)] w' → BF w (strike zs) [(w.heap.size + 1, 0)] (w'.setCell ⟨w.heap.size, 31, none⟩ (.int .u8 (zs.getD 31 0 % 128))) := fun w' h =>
    ⟨(h.b.at 31 (by omega) (zs.getD 31 0 % 128)).congr (fun j hj => (strike_get zs hl j hj).symm), h.f.cell w.heap.size 31 _ (by simp) (Nat.le_refl _), h.n⟩
  have S1 := hidden (SB _ b0)
  have D := hidden dgs
  generalize (((num zs % 57896044618658097711785492504343953926634992332820282019728792003956564819968 : Nat) : Int) % pF) = N at *
  clear b0 SB hP hz hl x0
  generalize zs.getD 31 0 = x at *
  go_enter Tryd.func15, Tryd.ntmps15
  go_upto_region 1 with fail
  generalize ((w.alloc (.cells (vb zs).toArray 26)).alloc (.cells #[.int .i64 0, .int .i64 0, .int .i64 0, .int .i64 0, .int .i64 0, .int .i64 0, .int .i64 0, .int .i64 0, .int .i64 0, .int .i64 0] 29)) = wB at S1 c0 f0 ⊢
  go_wp2_with fail
  refine (NU.out _ S1.out).mono ?_
  rintro e w1 ⟨rfl, hb⟩
  have k1 := S1.out.keep hb
  have TH := hidden (k1.f.th (w.heap.size + 1) 0 N (by simp))
  have RDH := hidden (dg_load w1 (w.heap.size + 1) N TH.out)
  have BL := hidden (below_setCellsR (w.heap.size + 1) (dg N) 0 k1.f.bel (by omega))
  have I2 := hidden (D.out.i2 N)
  have O1 := hidden (D.out.o N)
  have EE : Hid (dg N = dg N) := hidden rfl
  clear k1 hb S1 NU c0 f0 A1
  generalize hds : dg N = ds at TH RDH BL I2 O1 ⊢
  have HDS := hidden hds
  clear hds EE
  go_wp2_with (first | refine wpList_store_mid rfl 29 _ _ rfl (w.heap.size + 1) 0 ds.toArray (by rfl) (by rfl) TH.out I2.out O1.out ?_)
  have RD := RDH.out
  refine bodyPost_ret (v := .agg ds.toArray) (results_cellR Tryd.results15 _ _ _ _ _ (by rfl) RD) rfl ⟨by rw [HDS.out], BL.out⟩
/-- what lies where in FieldBytes -/
structure YW (w0 : World) (a : E5) (bs : List Value) (L : List (Nat × Int)) (w : World) : Prop where
  a : Ru w w0.heap.size 5 (lmf a)
  b : w.rangeAt (w0.heap.size + 1) 0 bs
  f : FR w0 L w
  n : ∀ p ∈ L, w0.heap.size + 1 < p.1
theorem YW.keep {w0 : World} {a : E5} {bs : List Value} {L : List (Nat × Int)} {w w' : World} (h : YW w0 a bs L w) (hb : Below w.heap.size w w') : YW w0 a bs L w' := ⟨h.a.keep hb, range_keep h.b hb, h.f.keep hb, h.n⟩
theorem YW.cell {w0 : World} {a : E5} {bs : List Value} {L : List (Nat × Int)} {w : World} (h : YW w0 a bs L w) (c k : Nat) (v : Value) (hc : ∀ p ∈ L, c ≠ p.1) (h0 : w0.heap.size + 1 < c) : YW w0 a bs L (w.setCell ⟨c, k, none⟩ v) :=
  ⟨h.a.far (by omega) _ _, fun j u hu => (World.cell?_setCell_far w _ _ _ (by show c ≠ w0.heap.size + 1; omega)).trans (h.b j u hu), h.f.cell c k v hc (by omega), h.n⟩
theorem YW.new {w0 : World} {a : E5} {bs : List Value} {L : List (Nat × Int)} {w : World} (h : YW w0 a bs L w) (hbl : w0.heap.size + 1 < w.heap.size) (N : Int) (t : TypeId) : YW w0 a bs ((w.heap.size, N) :: L) ((w.alloc (.cells #[.int .i64 0, .int .i64 0, .int .i64 0, .int .i64 0, .int .i64 0, .int .i64 0, .int .i64 0, .int .i64 0, .int .i64 0, .int .i64 0] t)).setCells w.heap.size 0 (dg N)) := by
  have k := h.keep (bl_alloc w (.cells #[.int .i64 0, .int .i64 0, .int .i64 0, .int .i64 0, .int .i64 0, .int .i64 0, .int .i64 0, .int .i64 0, .int .i64 0, .int .i64 0] t))
  have hne : ∀ (j d : Nat), d ≠ w.heap.size → ((w.alloc (.cells #[.int .i64 0, .int .i64 0, .int .i64 0, .int .i64 0, .int .i64 0, .int .i64 0, .int .i64 0, .int .i64 0, .int .i64 0, .int .i64 0] t)).setCells w.heap.size 0 (dg N)).cell? ⟨d, j, none⟩ = (w.alloc (.cells #[.int .i64 0, .int .i64 0, .int .i64 0, .int .i64 0, .int .i64 0, .int .i64 0, .int .i64 0, .int .i64 0, .int .i64 0, .int .i64 0] t)).cell? ⟨d, j, none⟩ := fun j d hd => World.cell?_setCells_out w.heap.size (dg N) 0 _ ⟨d, j, none⟩ (fun e _ => absurd e hd)
  refine ⟨⟨fun j hj => (hne _ _ (by omega)).trans (k.a.c j hj), fun j hj => by rw [World.frozen?_setCells]; exact k.a.fr j hj, by rw [size_setCells]; exact k.a.lt⟩, World.rangeAt_setCells_apart k.b _ _ _ (Or.inl (by omega)), ((h.f.zero t).set (c := w.heap.size) (o := 0) N (M := L) (by simp) (fun p hp => ⟨List.mem_cons_of_mem _ hp, by have := h.f.lt p hp; omega⟩)), fun p hp => ?_⟩
  rcases List.mem_cons.1 hp with rfl | hp
  · exact hbl
  · exact h.n p hp
theorem R5.set {w : World} {P : Nat} (h : Ru w P 5 (fun _ => 0)) (x : E5) : Ru (((((w.setCell ⟨P, 0, none⟩ (.int .u64 x.x0)).setCell ⟨P, 1, none⟩ (.int .u64 x.x1)).setCell ⟨P, 2, none⟩ (.int .u64 x.x2)).setCell ⟨P, 3, none⟩ (.int .u64 x.x3)).setCell ⟨P, 4, none⟩ (.int .u64 x.x4)) P 5 (lmf x) :=
  (((((h.at 0 (by omega) x.x0).at 1 (by omega) x.x1).at 2 (by omega) x.x2).at 3 (by omega) x.x3).at 4 (by omega) x.x4).congr (fun j hj => by
    have : j = 0 ∨ j = 1 ∨ j = 2 ∨ j = 3 ∨ j = 4 := by omega
    rcases this with rfl | rfl | rfl | rfl | rfl <;> simp [lmf])
/-- and an element more -/
structure YX (w0 : World) (a : E5) (bs : List Value) (L : List (Nat × Int)) (P : Nat) (x : E5) (w : World) : Prop where
  y : YW w0 a bs L w
  x : Ru w P 5 (lmf x)
  n : w0.heap.size + 1 < P
theorem YX.keep {w0 : World} {a : E5} {bs : List Value} {L : List (Nat × Int)} {P : Nat} {x : E5} {w w' : World} (h : YX w0 a bs L P x w) (hb : Below w.heap.size w w') : YX w0 a bs L P x w' := ⟨h.y.keep hb, h.x.keep hb, h.n⟩
theorem YW.elem {w0 : World} {a : E5} {bs : List Value} {w : World} (h : YW w0 a bs [] w) (hbl : w0.heap.size + 1 < w.heap.size) (x : E5) (t : TypeId) :
    YX w0 a bs [] w.heap.size x ((((((w.alloc (.cells #[.int .u64 0, .int .u64 0, .int .u64 0, .int .u64 0, .int .u64 0] t)).setCell ⟨w.heap.size, 0, none⟩ (.int .u64 x.x0)).setCell ⟨w.heap.size, 1, none⟩ (.int .u64 x.x1)).setCell ⟨w.heap.size, 2, none⟩ (.int .u64 x.x2)).setCell ⟨w.heap.size, 3, none⟩ (.int .u64 x.x3)).setCell ⟨w.heap.size, 4, none⟩ (.int .u64 x.x4)) := by
  have k := h.keep (bl_alloc w (.cells #[.int .u64 0, .int .u64 0, .int .u64 0, .int .u64 0, .int .u64 0] t))
  have hn : ∀ p ∈ ([] : List (Nat × Int)), w.heap.size ≠ p.1 := fun p hp => by cases hp
  exact ⟨((((k.cell _ _ _ hn hbl).cell _ _ _ hn hbl).cell _ _ _ hn hbl).cell _ _ _ hn hbl).cell _ _ _ hn hbl, R5.set (Ru.zero5 w t) x, hbl⟩
theorem YX.row {w0 : World} {a : E5} {bs : List Value} {P : Nat} {x : E5} {w : World} (h : YX w0 a bs [] P x w) (hbl : w0.heap.size + 1 < w.heap.size) (N : Int) (t : TypeId) : YX w0 a bs [(w.heap.size, N)] P x ((w.alloc (.cells #[.int .i64 0, .int .i64 0, .int .i64 0, .int .i64 0, .int .i64 0, .int .i64 0, .int .i64 0, .int .i64 0, .int .i64 0, .int .i64 0] t)).setCells w.heap.size 0 (dg N)) := by
  have k := h.keep (bl_alloc w (.cells #[.int .i64 0, .int .i64 0, .int .i64 0, .int .i64 0, .int .i64 0, .int .i64 0, .int .i64 0, .int .i64 0, .int .i64 0, .int .i64 0] t))
  have hlt := h.x.lt
  refine ⟨h.y.new hbl N t, ⟨fun j hj => (World.cell?_setCells_out w.heap.size (dg N) 0 _ ⟨P, j, none⟩ (fun e _ => absurd e (by show P ≠ w.heap.size; omega))).trans (k.x.c j hj), fun j hj => by rw [World.frozen?_setCells]; exact k.x.fr j hj, by rw [size_setCells]; exact k.x.lt⟩, h.n⟩
/-- the two Decodes refuse the same bytes -/
theorem canon_same (zs : List Int) :
    (bytes (((num zs % 57896044618658097711785492504343953926634992332820282019728792003956564819968 : Nat) : Int) % Fm.P) = zs ↔ bytes ((num zs : Int) % pF) = zs) ∧ (bytes ((num zs : Int) % pF) = zs → ((num zs % 57896044618658097711785492504343953926634992332820282019728792003956564819968 : Nat) : Int) = (num zs : Int) ∧ (num zs : Int) % pF = num zs) := by
  have key : ∀ n : Int, bytes (n % Fm.P) = zs → (num zs : Int) < Fm.P := fun n h => by
    have h1 := num_bytes_P n
    rw [h] at h1
    have h2 := P_lt n
    unfold Fm.P
    omega
  have low : (num zs : Int) < Fm.P → ((num zs % 57896044618658097711785492504343953926634992332820282019728792003956564819968 : Nat) : Int) = (num zs : Int) ∧ (num zs : Int) % Fm.P = num zs := fun h => by
    refine ⟨?_, Int.emod_eq_of_lt (by omega) h⟩
    unfold Fm.P at h
    omega
  have e : pF = Fm.P := rfl
  rw [e]
  refine ⟨⟨fun h => ?_, fun h => ?_⟩, fun h => low (key _ h)⟩
  · rw [(low (key _ h)).1] at h; exact h
  · rw [(low (key _ h)).1]; exact h
end Go.Proofs.YtgijodenblpbgaaDoor
