import Derived.Test.YtgijodenblpbgaaDoorRnu
import Derived.Test.YtgijodenblpbgaaDoorCmath
namespace Go.Proofs.YtgijodenblpbgaaDoor
open Go.RowKit
/-- bytes as far as one has come: the first k bits -/
def yb (N : Int) (k j : Nat) : Int := N / 2 ^ (8 * j) % 2 ^ (min 8 (k - 8 * j))
theorem yb_bd (N : Int) (k j : Nat) : 0 ≤ yb N k j ∧ yb N k j < 256 := by
  unfold yb
  have hp := p2pos (min 8 (k - 8 * j))
  refine ⟨Int.emod_nonneg _ (by omega), Int.lt_of_lt_of_le (Int.emod_lt_of_pos _ hp) ?_⟩
  have h2 : (2 : Nat) ^ (min 8 (k - 8 * j)) ≤ 256 := Nat.pow_le_pow_right (n := 2) (by decide) (show min 8 (k - 8 * j) ≤ 8 by omega)
  have e : (2 : Int) ^ (min 8 (k - 8 * j)) = ((2 ^ (min 8 (k - 8 * j)) : Nat) : Int) := by simp
  rw [e]
  omega
theorem yb_zero (N : Int) (j : Nat) : yb N 0 j = 0 := by
  unfold yb
  rw [show min 8 (0 - 8 * j) = 0 by omega, Int.pow_zero, Int.emod_one]
theorem yb_far (N : Int) (k j : Nat) (h : j ≠ k / 8) : yb N (k + 1) j = yb N k j := by
  unfold yb
  by_cases hl : j < k / 8
  · rw [show min 8 (k + 1 - 8 * j) = 8 by omega, show min 8 (k - 8 * j) = 8 by omega]
  · rw [show k + 1 - 8 * j = 0 by omega, show k - 8 * j = 0 by omega]
theorem yb_here (N : Int) (hN : 0 ≤ N) (k : Nat) : yb N (k + 1) (k / 8) = yb N k (k / 8) + 2 ^ (k % 8) * (N / 2 ^ k % 2) := by
  unfold yb
  rw [show min 8 (k + 1 - 8 * (k / 8)) = k % 8 + 1 by omega, show min 8 (k - 8 * (k / 8)) = k % 8 by omega, mod_bit _ (Int.ediv_nonneg hN (Int.le_of_lt (p2pos _))), Int.ediv_ediv_of_nonneg (Int.le_of_lt (p2pos _)), ← Int.pow_add, Nat.div_add_mod]
theorem yb_byt (N : Int) (h0 : 0 ≤ N) (h1 : N < 57896044618658097711785492504343953926634992332820282019728792003956564819968) (j : Nat) (hj : j < 32) : yb N 255 j = byt N j := by
  unfold yb byt
  have e : (256 : Int) ^ j = 2 ^ (8 * j) := by rw [show (256 : Int) = 2 ^ 8 by decide, ← Int.pow_mul]
  rw [e]
  by_cases hl : j < 31
  · rw [show min 8 (255 - 8 * j) = 8 by omega]; rfl
  · have hj : j = 31 := by omega
    subst hj
    have hq : N / 2 ^ (8 * 31) < 128 := Int.ediv_lt_of_lt_mul (p2pos _) (by rw [show (128 : Int) * 2 ^ (8 * 31) = 57896044618658097711785492504343953926634992332820282019728792003956564819968 by decide +kernel]; exact h1)
    have hq0 : 0 ≤ N / 2 ^ (8 * 31) := Int.ediv_nonneg h0 (Int.le_of_lt (p2pos _))
    rw [show min 8 (255 - 8 * 31) = 7 by omega, show (2 : Int) ^ 7 = 128 by decide]
    omega
/-- n bytes lie there -/
structure R8 (w : World) (b n : Nat) (g : Nat → Int) : Prop where
  c : ∀ j, j < n → w.cell? ⟨b, j, none⟩ = some (.int .u8 (g j))
  fr : ∀ j, j < n → w.frozen? ⟨b, j, none⟩ = false
  lt : b < w.heap.size
theorem R8.keep {w w' : World} {b n : Nat} {g : Nat → Int} (h : R8 w b n g) (hb : Below w.heap.size w w') : R8 w' b n g :=
  ⟨fun j hj => by rw [hb.cell (p := ⟨b, j, none⟩) h.lt]; exact h.c j hj, fun j hj => (hb.frozen (p := ⟨b, j, none⟩) h.lt).trans (h.fr j hj), Nat.lt_of_lt_of_le h.lt hb.size⟩
theorem R8.congr {w : World} {b n : Nat} {g f : Nat → Int} (h : R8 w b n g) (e : ∀ j, j < n → g j = f j) : R8 w b n f := ⟨fun j hj => by rw [← e j hj]; exact h.c j hj, h.fr, h.lt⟩
theorem R8.far {w : World} {b n : Nat} {g : Nat → Int} (h : R8 w b n g) {c : Nat} (hne : c ≠ b) (k : Nat) (v : Value) : R8 (w.setCell ⟨c, k, none⟩ v) b n g :=
  ⟨fun j hj => (World.cell?_setCell_far w _ _ _ hne).trans (h.c j hj), fun j hj => by rw [World.frozen?_setCell]; exact h.fr j hj, by have := h.lt; simpa using this⟩
theorem R8.at {w : World} {b n : Nat} {g : Nat → Int} (h : R8 w b n g) (k : Nat) (hk : k < n) (v : Int) : R8 (w.setCell ⟨b, k, none⟩ (.int .u8 v)) b n (fun j => if j = k then v else g j) := by
  refine ⟨fun j hj => ?_, fun j hj => by rw [World.frozen?_setCell]; exact h.fr j hj, by have := h.lt; simpa using this⟩
  by_cases hjk : j = k
  · subst hjk
    have hb := h.c j hj
    rw [if_pos rfl]
    go_simp
  · rw [if_neg hjk, World.cell?_setCell_other w _ _ _ (by intro e; exact hjk (congrArg Addr.off e).symm)]
    exact h.c j hj
theorem R8.new (w : World) (xs : List Int) (t : TypeId) : R8 (w.alloc (.cells (xs.map fun z => Value.int .u8 z).toArray t)) w.heap.size xs.length (fun j => xs.getD j 0) := by
  refine ⟨fun j hj => ?_, fun j _ => by go_simp, by simp⟩
  rw [World.cell?_alloc_mark]
  simp [hj]
theorem R8.zero (w : World) (t : TypeId) : R8 (w.alloc (.cells #[.int .u8 0, .int .u8 0, .int .u8 0, .int .u8 0, .int .u8 0, .int .u8 0, .int .u8 0, .int .u8 0, .int .u8 0, .int .u8 0, .int .u8 0, .int .u8 0, .int .u8 0, .int .u8 0, .int .u8 0, .int .u8 0, .int .u8 0, .int .u8 0, .int .u8 0, .int .u8 0, .int .u8 0, .int .u8 0, .int .u8 0, .int .u8 0, .int .u8 0, .int .u8 0, .int .u8 0, .int .u8 0, .int .u8 0, .int .u8 0, .int .u8 0, .int .u8 0] t)) w.heap.size 32 (fun _ => 0) :=
  (R8.new w (List.replicate 32 0) t).congr (fun j _ => getD_rep 32 j)
theorem R8.there {w : World} {b n : Nat} {g : Nat → Int} (h : R8 w b n g) : w.there b 0 n := fun j hj => by
  rw [Nat.zero_add]
  exact ⟨by rw [h.c j hj]; rfl, h.fr j hj⟩
def vb (zs : List Int) : List Value := zs.map fun z => Value.int .u8 z
theorem R8.range {w : World} {b : Nat} {g : Nat → Int} {N : Int} (h : R8 w b 32 g) (e : ∀ j, j < 32 → g j = byt N j) : w.rangeAt b 0 (vb (bytes N)) := fun j v hv => by
  have hj : j < 32 := by
    have := (List.getElem?_eq_some_iff.1 hv).1
    simpa [vb, bytes] using this
  simp [vb, bytes, hj] at hv
  rw [Nat.zero_add, h.c j hj, e j hj, hv]
structure V8 (zs : List Int) : Prop where
  u : Tryd.prog.underlying 26 = some (.array 32 5)
  i : (Tryd.prog.info? 26).map (·.size) = some (vb zs).length
  i2 : (Tryd.prog.info? 26).map (·.size) = some (vb zs).toArray.size
  o : (vb zs).toArray.all (·.oneCell') = true
  l : (vb zs).length = 32
theorem v8 (zs : List Int) (hl : zs.length = 32) : V8 zs := by
  have hl2 : (vb zs).length = 32 := by simp [vb, hl]
  have hi : (Tryd.prog.info? 26).map (·.size) = some (vb zs).length := by rw [hl2]; kernel_rfl
  refine ⟨by kernel_rfl, hi, by simpa using hi, all_oneCell_toArray (fun v hv => ?_), hl2⟩
  obtain ⟨z, _, rfl⟩ := List.mem_map.1 hv
  rfl
/-- what lies where in Encode -/
structure EnW (w0 : World) (N : Int) (y : Nat → Int) (w : World) : Prop where
  a : Ri w w0.heap.size 10 (dig N)
  r : R8 w (w0.heap.size + 1) 32 (fun _ => 0)
  o : R8 w (w0.heap.size + 1 + 1) 32 y
  bel : Below w0.heap.size w0 w
theorem EnW.keep {w0 : World} {N : Int} {y : Nat → Int} {w w' : World} (h : EnW w0 N y w) (hb : Below w.heap.size w w') : EnW w0 N y w' := ⟨h.a.keep hb, h.r.keep hb, h.o.keep hb, bl_trans h.bel hb⟩
theorem EnW.put {w0 : World} {N : Int} {y : Nat → Int} {w : World} (h : EnW w0 N y w) (k : Nat) (hk : k < 32) (v : Int) : EnW w0 N (fun j => if j = k then v else y j) (w.setCell ⟨w0.heap.size + 1 + 1, k, none⟩ (.int .u8 v)) :=
  ⟨h.a.far (by omega) _ _, h.r.far (by omega) _ _, h.o.at k hk v, h.bel.setCell (by show w0.heap.size ≤ w0.heap.size + 1 + 1; omega) _⟩
theorem EnW.congr {w0 : World} {N : Int} {y z : Nat → Int} {w : World} (h : EnW w0 N y w) (e : ∀ j, j < 32 → y j = z j) : EnW w0 N z w := ⟨h.a, h.r, h.o.congr e, h.bel⟩
theorem pow_8 (r : Nat) (h : r < 8) : (1 : Int) ≤ 2 ^ r ∧ (2 : Int) ^ r ≤ 128 := by
  constructor
  · have := p2pos r; omega
  · have h2 : (2 : Nat) ^ r ≤ 128 := Nat.pow_le_pow_right (n := 2) (by decide) (show r ≤ 7 by omega)
    have e : (2 : Int) ^ r = ((2 ^ r : Nat) : Int) := by simp
    rw [e]
    omega
theorem yb_room (N : Int) (k : Nat) : yb N k (k / 8) + 2 ^ (k % 8) ≤ 255 := by
  unfold yb
  rw [show min 8 (k - 8 * (k / 8)) = k % 8 by omega]
  have hp := p2pos (k % 8)
  have h := Int.emod_lt_of_pos (N / 2 ^ (8 * (k / 8))) hp
  have := pow_8 (k % 8) (by omega)
  omega
set_option maxRecDepth 100000 in
set_option maxHeartbeats 16000000 in
theorem rEncode_any (N : Int) (w : World) (hN : 0 ≤ N) (hN1 : N < 57896044618658097711785492504343953926634992332820282019728792003956564819968) :
    Calls Tryd.prog 10 #[.agg (dg N).toArray] w fun e w' => e = .returned (.agg (vb (bytes N)).toArray) ∧ Below w.heap.size w w' := by
  have HN := hidden hN
  have YE := hidden (yb_byt N hN hN1)
  have r1 : Ri (w.alloc (.cells (dg N).toArray 29)) w.heap.size 10 (dig N) := digs_row w N 29
  have r2 := R8.zero (w.alloc (.cells (dg N).toArray 29)) 26
  have r3 := R8.zero ((w.alloc (.cells (dg N).toArray 29)).alloc (.cells #[.int .u8 0, .int .u8 0, .int .u8 0, .int .u8 0, .int .u8 0, .int .u8 0, .int .u8 0, .int .u8 0, .int .u8 0, .int .u8 0, .int .u8 0, .int .u8 0, .int .u8 0, .int .u8 0, .int .u8 0, .int .u8 0, .int .u8 0, .int .u8 0, .int .u8 0, .int .u8 0, .int .u8 0, .int .u8 0, .int .u8 0, .int .u8 0, .int .u8 0, .int .u8 0, .int .u8 0, .int .u8 0, .int .u8 0, .int .u8 0, .int .u8 0, .int .u8 0] 26)) 26
  simp only [World.size_alloc] at r2 r3
  have E0 := hidden (⟨(r1.keep (bl_alloc _ _)).keep (bl_alloc _ _), r2.keep (bl_alloc _ _), r3.congr (fun j _ => (yb_zero N j).symm), bl_alloc3 _ _ _ _⟩ : EnW w N (yb N 0) _)
  have VV := hidden (v8 (bytes N) (bytes_len N))
  clear r1 r2 r3 hN hN1
  go_enter Tryd.func10, Tryd.ntmps10
  go_upto_region 2 with fail
  generalize (((w.alloc (.cells (dg N).toArray 29)).alloc (.cells #[.int .u8 0, .int .u8 0, .int .u8 0, .int .u8 0, .int .u8 0, .int .u8 0, .int .u8 0, .int .u8 0, .int .u8 0, .int .u8 0, .int .u8 0, .int .u8 0, .int .u8 0, .int .u8 0, .int .u8 0, .int .u8 0, .int .u8 0, .int .u8 0, .int .u8 0, .int .u8 0, .int .u8 0, .int .u8 0, .int .u8 0, .int .u8 0, .int .u8 0, .int .u8 0, .int .u8 0, .int .u8 0, .int .u8 0, .int .u8 0, .int .u8 0, .int .u8 0] 26)).alloc (.cells #[.int .u8 0, .int .u8 0, .int .u8 0, .int .u8 0, .int .u8 0, .int .u8 0, .int .u8 0, .int .u8 0, .int .u8 0, .int .u8 0, .int .u8 0, .int .u8 0, .int .u8 0, .int .u8 0, .int .u8 0, .int .u8 0, .int .u8 0, .int .u8 0, .int .u8 0, .int .u8 0, .int .u8 0, .int .u8 0, .int .u8 0, .int .u8 0, .int .u8 0, .int .u8 0, .int .u8 0, .int .u8 0, .int .u8 0, .int .u8 0, .int .u8 0, .int .u8 0] 26)) = wB at E0 ⊢
  go_wp2_with fail
  go_loopw [4] (fun kv w' => ∃ k : Nat, k ≤ 255 ∧ kv = .int .i64 k ∧ Hid (EnW w N (yb N k) w')) (fun k _ => 255 - (intOf k).toNat)
  case atStart => exact ⟨0, by omega, rfl, E0⟩
  case round =>
    clear E0
    obtain ⟨k, hk, rfl, hM⟩ := hrel
    by_cases hk5 : k < 255
    · have k0 : (0 : Int) ≤ (k : Int) := by omega
      have k1 : (k : Int) < 255 := by omega
      obtain ⟨q, hq⟩ : ∃ q, k / 26 = q := ⟨_, rfl⟩
      obtain ⟨r, hr⟩ : ∃ r, k % 26 = r := ⟨_, rfl⟩
      have c0 := hM.out.a.c q (by omega)
      have db := dig_bit N k
      rw [hq, hr] at db
      have A1 := and1i (dig N q / 2 ^ r)
      have t1 : (k : Int).tdiv 26 = (q : Int) := by rw [Int.tdiv_eq_ediv_of_nonneg (by omega)]; omega
      have t2 : (k : Int).tmod 26 = (r : Int) := by rw [Int.tmod_eq_emod_of_nonneg (by omega)]; omega
      have q0 : (0 : Int) ≤ (q : Int) := by omega
      have q1 : (q : Int) < 10 := by omega
      have r0 : (0 : Int) ≤ (r : Int) := by omega
      have r1 : (r : Int) < 64 := by omega
      have wq : IntKind.i64.wrap (q : Int) = (q : Int) := IntWalk.i64_in _ (by omega)
      have wr' : IntKind.i64.wrap (r : Int) = (r : Int) := IntWalk.i64_in _ (by omega)
      have HE := yb_here N HN.out k
      by_cases hz : N / 2 ^ k % 2 = 1
      · rw [db, hz] at A1
        rw [hz, Int.mul_one] at HE
        have RM := yb_room N k
        obtain ⟨p, hp⟩ : ∃ p, k / 8 = p := ⟨_, rfl⟩
        obtain ⟨s, hs⟩ : ∃ s, k % 8 = s := ⟨_, rfl⟩
        rw [hp, hs] at HE RM
        have p5 : p < 32 := by omega
        have hd := hM.out.keep (drew_bl wr)
        have o0 := hd.o.c p p5
        have f0 := hd.o.fr p p5
        have ybd := yb_bd N k p
        have pb := pow_8 s (by omega)
        have NM := hidden ((hd.put p p5 (yb N k p + 2 ^ s)).congr (z := yb N (k + 1)) (fun j _ => by
          by_cases hj : j = p
          · subst hj; rw [if_pos rfl, HE]
          · rw [if_neg hj, yb_far N k j (by omega)]))
        have t3 : (k : Int).tdiv 8 = (p : Int) := by rw [Int.tdiv_eq_ediv_of_nonneg (by omega)]; omega
        have t4 : (k : Int).tmod 8 = (s : Int) := by rw [Int.tmod_eq_emod_of_nonneg (by omega)]; omega
        have p0 : (0 : Int) ≤ (p : Int) := by omega
        have p1 : (p : Int) < 32 := by omega
        have s0 : (0 : Int) ≤ (s : Int) := by omega
        have s1 : (s : Int) < 64 := by omega
        have s8 : min s 8 = s := by omega
        have wp : IntKind.i64.wrap (p : Int) = (p : Int) := IntWalk.i64_in _ (by omega)
        have ws : IntKind.i64.wrap (s : Int) = (s : Int) := IntWalk.i64_in _ (by omega)
        generalize yb N k p = z at *
        generalize dig N q = x at *
        have w3 : IntKind.u8.wrap (2 ^ s) = 2 ^ s := by rw [IntKind.wrap_u8]; omega
        have w4 : IntKind.u8.wrap (z + 2 ^ s) = z + 2 ^ s := by rw [IntKind.wrap_u8]; omega
        clear hM hd ybd pb hz HE hq hr hp hs db RM
        go_upto_region 6 with fail
        go_region_with fail
        all_goals
          clear o0 f0 w3 w4 t1 t2 t3 t4 q0 q1 r0 r1 p0 p1 s0 s1 wp ws wq wr' A1 c0 s8
          go_wp2_with fail
          go_roundw
          case rel => exact ⟨k + 1, by omega, by go_num, NM⟩
          case measure => simp [intOf]; omega
      · have hz0 : N / 2 ^ k % 2 = 0 := by omega
        rw [db, hz0] at A1
        rw [hz0, Int.mul_zero, Int.add_zero] at HE
        have NM := hidden (hM.out.congr (z := yb N (k + 1)) (fun j _ => by
          by_cases hj : j = k / 8
          · rw [hj, HE]
          · rw [yb_far N k j hj]))
        generalize dig N q = x at *
        clear hM hz hz0 HE hq hr db
        go_wp2_with fail
        go_roundw
        case rel => exact ⟨k + 1, by omega, by go_num, NM⟩
        case measure => simp [intOf]; omega
    · have hk5 : k = 255 := by omega
      subst hk5
      have RO := hidden (hM.out.o.range (N := N) YE.out)
      have TR : Hid (wr.there (w.heap.size + 1) 0 (vb (bytes N)).toArray.size) := hidden (by have := hM.out.r.there; simpa [VV.out.l] using this)
      have BL := hidden (below_setCellsR (w.heap.size + 1) (vb (bytes N)) 0 hM.out.bel (by omega))
      have RDH := hidden (run_loadVar_mid (P := Tryd.prog) (wr.setCells (w.heap.size + 1) 0 (vb (bytes N))) (w.heap.size + 1) 0 26 (vb (bytes N)) _ (World.rangeAt_setCells_same wr (w.heap.size + 1) 0 (vb (bytes N)) (by simpa using TR.out)) VV.out.u rfl VV.out.i)
      have hu := hidden VV.out.u
      have hi := hidden VV.out.i
      have hi2 := hidden VV.out.i2
      have ho := hidden VV.out.o
      have HC : Hid (vb (bytes N) = vb (bytes N)) := hidden rfl
      clear hM VV
      generalize hcs : vb (bytes N) = cs at RO TR BL RDH hi hi2 ho
      have HCS := hidden hcs
      clear hcs HC
      go_wp2_with (first | refine wpList_load_mid rfl 26 _ rfl (w.heap.size + 1 + 1) 0 (by rfl) cs _ RO.out hu.out rfl hi.out ?_ | refine wpList_store_mid rfl 26 _ _ rfl (w.heap.size + 1) 0 cs.toArray (by rfl) (by rfl) TR.out hi2.out ho.out ?_)
      have RD := RDH.out
      refine bodyPost_ret (v := .agg cs.toArray) (results_cellR Tryd.results10 _ _ _ _ _ (by rfl) RD) rfl ⟨by rw [HCS.out], BL.out⟩
end Go.Proofs.YtgijodenblpbgaaDoor
