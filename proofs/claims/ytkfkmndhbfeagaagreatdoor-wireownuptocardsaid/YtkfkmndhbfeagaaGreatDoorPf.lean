import Derived.Test.YtkfkmndhbfeagaaGreatDoorPe
namespace Go.Proofs.YtkfkmndhbfeagaaGreatDoor
open Go.RowKit
set_option linter.unusedVariables false
theorem rd_kp {w w' : World} {g b c : Nat} {P : Option Addr} {bs : List UInt8} {e : Int} (h : Tr.Rd w g P c bs e) (k : Tr.Kp b w w') (hg : g ≠ b) (hP : ∀ a, P = some a → a.block ≠ b) : Tr.Rd w' g P c bs e :=
  ⟨(k.block g h.glt hg).trans h.at', k.by' h.by' (fun a ha => ⟨hP a ha, (h.fr a ha).2⟩), fun a ha => ⟨(h.fr a ha).1, Nat.lt_of_lt_of_le (h.fr a ha).2 k.size⟩, h.cap⟩
theorem kp_new {g b : Nat} {w w1 w2 : World} (h : Tr.Kp g w w1) (k : Tr.Kp b w1 w2) (hb : w.heap.size ≤ b) : Tr.Kp g w w2 :=
  ⟨k.os.trans h.os, k.tape.trans h.tape, k.output.trans h.output, Nat.le_trans h.size k.size, fun j hj hne => (k.block j (Nat.lt_of_lt_of_le hj h.size) (by omega)).trans (h.block j hj hne)⟩
theorem kp_setCells (b : Nat) : ∀ (vs : List Value) (o : Nat) (w : World), Tr.Kp b w (w.setCells b o vs)
  | [], _, w => Tr.Kp.refl _ _
  | v :: vs, o, w => by
    rw [World.setCells]
    exact (Tr.Kp.grown (Tr.grown_set w b o v)).trans (kp_setCells b vs (o + 1) _)
theorem there_kp {G : Nat} {w w' : World} {b n : Nat} (h : w.there b 0 n) (k : Tr.Kp G w w') (hne : b ≠ G) : w'.there b 0 n := fun j hj => by
  obtain ⟨h1, h2⟩ := h j hj
  obtain ⟨u, hu⟩ := Option.isSome_iff_exists.1 h1
  have hl := World.block_lt_of_cell? w _ hu
  have hk := k.block b hl hne
  exact ⟨by rw [World.cell?_of_block (a := ⟨b, 0 + j, none⟩) hk]; exact h1, by rw [World.frozen?_of_block (a := ⟨b, 0 + j, none⟩) hk]; exact h2⟩
/-- the reader behind 32 bytes -/
def nb (bs : List UInt8) (e : Int) : List UInt8 := if e = 0 ∧ de bs = 0 then bs.drop 32 else bs
def ne (bs : List UInt8) (e : Int) : Int := if e = 0 then de bs else e
def nd (bs : List UInt8) (e : Int) : E4 := if e = 0 then d4 bs else zero4
theorem de_or (bs : List UInt8) : de bs = 0 ∨ (de bs = 3 ∧ d4 bs = zero4) := by
  unfold de d4
  by_cases h : dn (bs.take 32) < Sm.L
  · left; simp [h]
  · right; simp [h]
theorem zero4_v : zero4.v = .agg #[.int .u64 0, .int .u64 0, .int .u64 0, .int .u64 0] := rfl
set_option maxRecDepth 100000 in
set_option maxHeartbeats 8000000 in
theorem readL_no {w : World} {g c : Nat} {P : Option Addr} {bs : List UInt8} {e : Int} (f : Value) (h : Tr.Rd w g P c bs e) (he : e ≠ 0) :
    Calls Tryz.prog 62 #[.pointer (some ⟨g, 0, none⟩), f] w fun r w' => r = .returned (.agg #[.int .u64 0, .int .u64 0, .int .u64 0, .int .u64 0]) ∧ Below w.heap.size w w' := by
  have B0 := hidden (Tr.bl_trans (Tr.bl_alloc w (.cells #[.int .u64 0, .int .u64 0, .int .u64 0, .int .u64 0] 52)) (Tr.bl_alloc _ (.cells #[.int .u64 0, .int .u64 0, .int .u64 0, .int .u64 0] 52)))
  have E := hidden (Tr.err_any (h.keep B0.out))
  have n0 : (e != 0) = true := by simpa using he
  clear h he
  go_enter Tryz.func62, Tryz.ntmps62
  go_wp2_with (first | (go_at_call 41; refine E.out.mono ?_; rintro r w2 ⟨rfl, rfl⟩; clear E))
  refine bodyPost_ret (v := .agg #[.int .u64 0, .int .u64 0, .int .u64 0, .int .u64 0]) (by simp [results, Tryz.results62, go_sem]) rfl ⟨rfl, B0.out⟩
set_option maxRecDepth 100000 in
set_option maxHeartbeats 8000000 in
theorem readL_okB {w : World} {g c X b o : Nat} {bs : List UInt8} (hT : Tb w) (h : Tr.Rd w g (some ⟨b, o, none⟩) c bs 0) (h32 : 32 ≤ bs.length) (hX : w.cell? ⟨X, 0, none⟩ = some fvL) (hd : de bs = 0) :
    Calls Tryz.prog 62 #[.pointer (some ⟨g, 0, none⟩), .func (.func 63) #[] #[.pointer (some ⟨X, 0, none⟩)]] w fun e w' => ∃ (P' : Option Addr) (c' : Nat), e = .returned (d4 bs).v ∧ Tr.Rd w' g P' c' (bs.drop 32) 0 ∧ Tr.Kp g w w' ∧ ∀ a, P' = some a → a.block = b := by
  have M0 := ((Mw.start w).new [.int .u64 0, .int .u64 0, .int .u64 0, .int .u64 0] 52).new [.int .u64 0, .int .u64 0, .int .u64 0, .int .u64 0] 52
  simp only [World.size_alloc] at M0
  have R0 := h.keep M0.bel
  have E := hidden (Tr.err_any R0)
  have T := hidden (toldL b o c X bs _ (hT.keep M0.bel) R0.by' h32 R0.cap (cell_keep hX M0.bel))
  rw [hd] at T
  have GL := hidden h.glt
  have BF := hidden (h.fr _ rfl)
  have x0 := R0.c0
  have RR := hidden R0
  have MM := hidden M0
  have n0 : (32 : Int) ≤ (bs.length : Int) := by omega
  have hc := h.cap
  have HB := hidden h32
  generalize d4 bs = z at T ⊢
  generalize hW : (w.alloc (.cells #[.int .u64 0, .int .u64 0, .int .u64 0, .int .u64 0] 52)).alloc (.cells #[.int .u64 0, .int .u64 0, .int .u64 0, .int .u64 0] 52) = W at T E RR MM x0
  clear hT h hX hd M0 R0
  unfold E4.v at T ⊢
  have GO : ∀ (o' n' d' : Nat), n' = bs.length - 32 → n' ≤ d' → (∀ V, Tr.By V (some ⟨b, o, none⟩) c bs → Tr.By V (some ⟨b, o', none⟩) d' (bs.drop 32)) → ∀ wa, Below W.heap.size W wa → Mw w [(w.heap.size + 1, [.int .u64 0, .int .u64 0, .int .u64 0, .int .u64 0]), (w.heap.size, [.int .u64 0, .int .u64 0, .int .u64 0, .int .u64 0])] wa →
      Tr.Rd (((wa.alloc (.cells #[.int .u64 z.x0, .int .u64 z.x1, .int .u64 z.x2, .int .u64 z.x3] 52)).setCell ⟨g, 0, none⟩ (.slice (some ⟨b, o', none⟩) n' d')).setCells w.heap.size 0 [.int .u64 z.x0, .int .u64 z.x1, .int .u64 z.x2, .int .u64 z.x3]) g (some ⟨b, o', none⟩) d' (bs.drop 32) 0 ∧ Tr.Kp g w (((wa.alloc (.cells #[.int .u64 z.x0, .int .u64 z.x1, .int .u64 z.x2, .int .u64 z.x3] 52)).setCell ⟨g, 0, none⟩ (.slice (some ⟨b, o', none⟩) n' d')).setCells w.heap.size 0 [.int .u64 z.x0, .int .u64 z.x1, .int .u64 z.x2, .int .u64 z.x3]) ∧
      ((wa.alloc (.cells #[.int .u64 z.x0, .int .u64 z.x1, .int .u64 z.x2, .int .u64 z.x3] 52)).setCell ⟨g, 0, none⟩ (.slice (some ⟨b, o', none⟩) n' d')).there w.heap.size 0 ([.int .u64 z.x0, .int .u64 z.x1, .int .u64 z.x2, .int .u64 z.x3] : List Value).toArray.size ∧ (((wa.alloc (.cells #[.int .u64 z.x0, .int .u64 z.x1, .int .u64 z.x2, .int .u64 z.x3] 52)).setCell ⟨g, 0, none⟩ (.slice (some ⟨b, o', none⟩) n' d')).setCells w.heap.size 0 [.int .u64 z.x0, .int .u64 z.x1, .int .u64 z.x2, .int .u64 z.x3]).rangeAt w.heap.size 0 [.int .u64 z.x0, .int .u64 z.x1, .int .u64 z.x2, .int .u64 z.x3] := by
    intro o' n' d' hn hd hy wa hwa MA
    have hl := GL.out
    have R1 := (RR.out.keep hwa).keep (Tr.bl_alloc wa (.cells #[.int .u64 z.x0, .int .u64 z.x1, .int .u64 z.x2, .int .u64 z.x3] 52))
    have R2 := R1.move 32 o' n' d' hn hd (hy _ R1.by')
    have K1 : Tr.Kp g w (wa.alloc (.cells #[.int .u64 z.x0, .int .u64 z.x1, .int .u64 z.x2, .int .u64 z.x3] 52)) := Tr.Kp.of (Tr.bl_trans MA.bel (Tr.bl_alloc wa _))
    have KS := Tr.Kp.grown (Tr.grown_set (wa.alloc (.cells #[.int .u64 z.x0, .int .u64 z.x1, .int .u64 z.x2, .int .u64 z.x3] 52)) g 0 (.slice (some ⟨b, o', none⟩) n' d'))
    have KT := kp_setCells w.heap.size [.int .u64 z.x0, .int .u64 z.x1, .int .u64 z.x2, .int .u64 z.x3] 0 ((wa.alloc (.cells #[.int .u64 z.x0, .int .u64 z.x1, .int .u64 z.x2, .int .u64 z.x3] 52)).setCell ⟨g, 0, none⟩ (.slice (some ⟨b, o', none⟩) n' d'))
    have t0 := (MA.r (w.heap.size, [.int .u64 0, .int .u64 0, .int .u64 0, .int .u64 0]) (by simp)).2.1
    have t1 := there_kp (there_keepM t0 (Tr.bl_alloc wa (.cells #[.int .u64 z.x0, .int .u64 z.x1, .int .u64 z.x2, .int .u64 z.x3] 52))) KS (by simp only; omega)
    have t2 : ((wa.alloc (.cells #[.int .u64 z.x0, .int .u64 z.x1, .int .u64 z.x2, .int .u64 z.x3] 52)).setCell ⟨g, 0, none⟩ (.slice (some ⟨b, o', none⟩) n' d')).there w.heap.size 0 ([.int .u64 z.x0, .int .u64 z.x1, .int .u64 z.x2, .int .u64 z.x3] : List Value).length := by simpa using t1
    exact ⟨rd_kp R2 KT (by omega) (fun a ha => by have := BF.out.2; obtain rfl := Option.some.inj ha; simp only at *; omega), kp_new (K1.trans KS) KT (Nat.le_refl _), by simpa using t1, World.rangeAt_setCells_same _ w.heap.size 0 _ t2⟩
  have HG := hidden GO
  have I4 := hidden (i4aL z)
  have O4 := hidden (c4_one z)
  have I5 := hidden (i4L z)
  have UT : Hid (Tryz.prog.underlying 52 = _) := hidden Tryz.underlying52
  clear GO

  by_cases hcs : c = 32
  · subst hcs
    have hbl : bs.length = 32 := by omega
    have HQ := hidden (fun wa h1 h2 => HG.out o (bs.length - 32) 0 rfl (by omega) (fun V hV => by rw [List.drop_eq_nil_of_le (by omega)]; exact ⟨fun e => (by cases e), fun a ha j u hu => (by simp [Tr.cb] at hu)⟩) wa h1 h2)
    clear HG hc hbl
    go_enter Tryz.func62, Tryz.ntmps62
    go_wp2_with (first | (go_at_call 41; refine E.out.mono ?_; rintro r w2 ⟨rfl, rfl⟩; clear E) | (go_at_call 63; refine T.out.mono ?_; rintro r wa ⟨rfl, ha⟩; have MA := hidden (MM.out.keep ha); have HA := hidden (HQ.out wa ha MA.out); have GW := hidden (Nat.lt_of_lt_of_le (Nat.lt_of_lt_of_le GL.out MA.out.bel.size) (Nat.le_refl _)); have y0 := ((RR.out.keep ha).keep (Tr.bl_alloc wa (.cells #[.int .u64 z.x0, .int .u64 z.x1, .int .u64 z.x2, .int .u64 z.x3] 52))).c0; have f0 := ((RR.out.keep ha).keep (Tr.bl_alloc wa (.cells #[.int .u64 z.x0, .int .u64 z.x1, .int .u64 z.x2, .int .u64 z.x3] 52))).f 0; have L6 := hidden (range_kp (range_newM wa [.int .u64 z.x0, .int .u64 z.x1, .int .u64 z.x2, .int .u64 z.x3] 52) (Tr.Kp.grown (Tr.grown_set (wa.alloc (.cells #[.int .u64 z.x0, .int .u64 z.x1, .int .u64 z.x2, .int .u64 z.x3] 52)) g 0 (.slice (some ⟨b, o, none⟩) (bs.length - 32) 0))) (Nat.ne_of_gt GW.out)); have LD := hidden (run_loadVar_mid _ w.heap.size 0 52 [.int .u64 z.x0, .int .u64 z.x1, .int .u64 z.x2, .int .u64 z.x3] _ HA.out.2.2.2 UT.out rfl I5.out); clear T x0 ha MM RR HQ hW) | refine wpList_load_mid rfl 52 _ rfl wa.heap.size 0 (by rfl) [.int .u64 z.x0, .int .u64 z.x1, .int .u64 z.x2, .int .u64 z.x3] _ L6.out UT.out rfl I5.out ?_ | refine wpList_storeL rfl 52 _ _ rfl rfl w.heap.size 0 [.int .u64 z.x0, .int .u64 z.x1, .int .u64 z.x2, .int .u64 z.x3] (by rfl) (by rfl) HA.out.2.2.1 I4.out O4.out ?_)
    refine bodyPost_ret (v := .agg [.int .u64 z.x0, .int .u64 z.x1, .int .u64 z.x2, .int .u64 z.x3].toArray) (results_cellM Tryz.results62 _ _ _ _ _ (by rfl) LD.out) rfl ⟨_, _, rfl, HA.out.1, HA.out.2.1, fun a ha => by obtain rfl := Option.some.inj ha; rfl⟩
  · have n2 : ¬ c = 32 := hcs
    have HQ := hidden (fun wa h1 h2 => HG.out (o + 32) (bs.length - 32) (c - 32) rfl (by omega) (fun V hV => hV.drop 32 _) wa h1 h2)
    clear HG hcs hc
    go_enter Tryz.func62, Tryz.ntmps62
    go_wp2_with (first | (go_at_call 41; refine E.out.mono ?_; rintro r w2 ⟨rfl, rfl⟩; clear E) | (go_at_call 63; refine T.out.mono ?_; rintro r wa ⟨rfl, ha⟩; have MA := hidden (MM.out.keep ha); have HA := hidden (HQ.out wa ha MA.out); have GW := hidden (Nat.lt_of_lt_of_le (Nat.lt_of_lt_of_le GL.out MA.out.bel.size) (Nat.le_refl _)); have y0 := ((RR.out.keep ha).keep (Tr.bl_alloc wa (.cells #[.int .u64 z.x0, .int .u64 z.x1, .int .u64 z.x2, .int .u64 z.x3] 52))).c0; have f0 := ((RR.out.keep ha).keep (Tr.bl_alloc wa (.cells #[.int .u64 z.x0, .int .u64 z.x1, .int .u64 z.x2, .int .u64 z.x3] 52))).f 0; have L6 := hidden (range_kp (range_newM wa [.int .u64 z.x0, .int .u64 z.x1, .int .u64 z.x2, .int .u64 z.x3] 52) (Tr.Kp.grown (Tr.grown_set (wa.alloc (.cells #[.int .u64 z.x0, .int .u64 z.x1, .int .u64 z.x2, .int .u64 z.x3] 52)) g 0 (.slice (some ⟨b, o + 32, none⟩) (bs.length - 32) (c - 32)))) (Nat.ne_of_gt GW.out)); have LD := hidden (run_loadVar_mid _ w.heap.size 0 52 [.int .u64 z.x0, .int .u64 z.x1, .int .u64 z.x2, .int .u64 z.x3] _ HA.out.2.2.2 UT.out rfl I5.out); clear T x0 ha MM RR HQ hW) | refine wpList_load_mid rfl 52 _ rfl wa.heap.size 0 (by rfl) [.int .u64 z.x0, .int .u64 z.x1, .int .u64 z.x2, .int .u64 z.x3] _ L6.out UT.out rfl I5.out ?_ | refine wpList_storeL rfl 52 _ _ rfl rfl w.heap.size 0 [.int .u64 z.x0, .int .u64 z.x1, .int .u64 z.x2, .int .u64 z.x3] (by rfl) (by rfl) HA.out.2.2.1 I4.out O4.out ?_)
    refine bodyPost_ret (v := .agg [.int .u64 z.x0, .int .u64 z.x1, .int .u64 z.x2, .int .u64 z.x3].toArray) (results_cellM Tryz.results62 _ _ _ _ _ (by rfl) LD.out) rfl ⟨_, _, rfl, HA.out.1, HA.out.2.1, fun a ha => by obtain rfl := Option.some.inj ha; rfl⟩
set_option maxRecDepth 100000 in
set_option maxHeartbeats 8000000 in
theorem readL_bad {w : World} {g c X b o : Nat} {bs : List UInt8} (hT : Tb w) (h : Tr.Rd w g (some ⟨b, o, none⟩) c bs 0) (h32 : 32 ≤ bs.length) (hX : w.cell? ⟨X, 0, none⟩ = some fvL) (hd : de bs = 3) :
    Calls Tryz.prog 62 #[.pointer (some ⟨g, 0, none⟩), .func (.func 63) #[] #[.pointer (some ⟨X, 0, none⟩)]] w fun e w' => e = .returned (.agg #[.int .u64 0, .int .u64 0, .int .u64 0, .int .u64 0]) ∧ Tr.Rd w' g (some ⟨b, o, none⟩) c bs 3 ∧ Tr.Kp g w w' := by
  have M0 := ((Mw.start w).new [.int .u64 0, .int .u64 0, .int .u64 0, .int .u64 0] 52).new [.int .u64 0, .int .u64 0, .int .u64 0, .int .u64 0] 52
  simp only [World.size_alloc] at M0
  have R0 := h.keep M0.bel
  have E := hidden (Tr.err_any R0)
  have T := hidden (toldL b o c X bs _ (hT.keep M0.bel) R0.by' h32 R0.cap (cell_keep hX M0.bel))
  rw [hd] at T
  have GL := hidden h.glt
  have BF := hidden (h.fr _ rfl)
  have x0 := R0.c0
  have RR := hidden R0
  have MM := hidden M0
  generalize d4 bs = z at T
  generalize hW : (w.alloc (.cells #[.int .u64 0, .int .u64 0, .int .u64 0, .int .u64 0] 52)).alloc (.cells #[.int .u64 0, .int .u64 0, .int .u64 0, .int .u64 0] 52) = W at T E RR MM x0
  clear hT h hX hd M0 R0 h32
  unfold E4.v at T
  have GO : ∀ wa, Below W.heap.size W wa → Mw w [(w.heap.size + 1, [.int .u64 0, .int .u64 0, .int .u64 0, .int .u64 0]), (w.heap.size, [.int .u64 0, .int .u64 0, .int .u64 0, .int .u64 0])] wa →
      Tr.Rd (((wa.alloc (.cells #[.int .u64 z.x0, .int .u64 z.x1, .int .u64 z.x2, .int .u64 z.x3] 52)).setCell ⟨g, 1, none⟩ (.int .i64 3)).setCells w.heap.size 0 [.int .u64 0, .int .u64 0, .int .u64 0, .int .u64 0]) g (some ⟨b, o, none⟩) c bs 3 ∧ Tr.Kp g w (((wa.alloc (.cells #[.int .u64 z.x0, .int .u64 z.x1, .int .u64 z.x2, .int .u64 z.x3] 52)).setCell ⟨g, 1, none⟩ (.int .i64 3)).setCells w.heap.size 0 [.int .u64 0, .int .u64 0, .int .u64 0, .int .u64 0]) ∧
      ((wa.alloc (.cells #[.int .u64 z.x0, .int .u64 z.x1, .int .u64 z.x2, .int .u64 z.x3] 52)).setCell ⟨g, 1, none⟩ (.int .i64 3)).there w.heap.size 0 ([.int .u64 0, .int .u64 0, .int .u64 0, .int .u64 0] : List Value).toArray.size ∧ (((wa.alloc (.cells #[.int .u64 z.x0, .int .u64 z.x1, .int .u64 z.x2, .int .u64 z.x3] 52)).setCell ⟨g, 1, none⟩ (.int .i64 3)).setCells w.heap.size 0 [.int .u64 0, .int .u64 0, .int .u64 0, .int .u64 0]).rangeAt w.heap.size 0 [.int .u64 0, .int .u64 0, .int .u64 0, .int .u64 0] ∧ ((wa.alloc (.cells #[.int .u64 z.x0, .int .u64 z.x1, .int .u64 z.x2, .int .u64 z.x3] 52)).setCell ⟨g, 1, none⟩ (.int .i64 3)).rangeAt (w.heap.size + 1) 0 [.int .u64 0, .int .u64 0, .int .u64 0, .int .u64 0] := by
    intro wa hwa MA
    have hl := GL.out
    have R1 := (RR.out.keep hwa).keep (Tr.bl_alloc wa (.cells #[.int .u64 z.x0, .int .u64 z.x1, .int .u64 z.x2, .int .u64 z.x3] 52))
    have R2 := R1.fail 3
    have K1 : Tr.Kp g w (wa.alloc (.cells #[.int .u64 z.x0, .int .u64 z.x1, .int .u64 z.x2, .int .u64 z.x3] 52)) := Tr.Kp.of (Tr.bl_trans MA.bel (Tr.bl_alloc wa _))
    have KS := Tr.Kp.grown (Tr.grown_set (wa.alloc (.cells #[.int .u64 z.x0, .int .u64 z.x1, .int .u64 z.x2, .int .u64 z.x3] 52)) g 1 (.int .i64 3))
    have KT := kp_setCells w.heap.size [.int .u64 0, .int .u64 0, .int .u64 0, .int .u64 0] 0 ((wa.alloc (.cells #[.int .u64 z.x0, .int .u64 z.x1, .int .u64 z.x2, .int .u64 z.x3] 52)).setCell ⟨g, 1, none⟩ (.int .i64 3))
    have t0 := (MA.r (w.heap.size, [.int .u64 0, .int .u64 0, .int .u64 0, .int .u64 0]) (by simp)).2.1
    have t1 := there_kp (there_keepM t0 (Tr.bl_alloc wa (.cells #[.int .u64 z.x0, .int .u64 z.x1, .int .u64 z.x2, .int .u64 z.x3] 52))) KS (by simp only; omega)
    exact ⟨rd_kp R2 KT (by omega) (fun a ha => by have := BF.out.2; obtain rfl := Option.some.inj ha; simp only at *; omega), kp_new (K1.trans KS) KT (Nat.le_refl _), by simpa using t1, World.rangeAt_setCells_same _ w.heap.size 0 _ t1, range_kp (range_keepM (MA.r (w.heap.size + 1, [.int .u64 0, .int .u64 0, .int .u64 0, .int .u64 0]) (by simp)).1 (Tr.bl_alloc wa (.cells #[.int .u64 z.x0, .int .u64 z.x1, .int .u64 z.x2, .int .u64 z.x3] 52))) KS (by first | omega | (simp only; omega))⟩
  have HQ := hidden GO
  have I4 := hidden (i4aL zero4)
  have O4 := hidden (c4_one zero4)
  have I5 := hidden (i4L zero4)
  have UT : Hid (Tryz.prog.underlying 52 = _) := hidden Tryz.underlying52
  clear GO
  go_enter Tryz.func62, Tryz.ntmps62
  go_wp2_with (first | (go_at_call 41; refine E.out.mono ?_; rintro r w2 ⟨rfl, rfl⟩; clear E) | (go_at_call 63; refine T.out.mono ?_; rintro r wa ⟨rfl, ha⟩; have MA := hidden (MM.out.keep ha); have HA := hidden (HQ.out wa ha MA.out); have FA := hidden (Tr.fail_any ((RR.out.keep ha).keep (Tr.bl_alloc wa (.cells #[.int .u64 z.x0, .int .u64 z.x1, .int .u64 z.x2, .int .u64 z.x3] 52))) 3); have LD := hidden (run_loadVar_mid _ w.heap.size 0 52 [.int .u64 0, .int .u64 0, .int .u64 0, .int .u64 0] _ HA.out.2.2.2.1 UT.out rfl I5.out); clear T x0 ha MM RR HQ hW) | (go_at_call 49; refine FA.out.mono ?_; rintro r w3 ⟨rfl, rfl⟩; clear FA) | refine wpList_load_mid rfl 52 _ rfl (w.heap.size + 1) 0 (by rfl) [.int .u64 0, .int .u64 0, .int .u64 0, .int .u64 0] _ HA.out.2.2.2.2 UT.out rfl I5.out ?_ | refine wpList_storeL rfl 52 _ _ rfl rfl w.heap.size 0 [.int .u64 0, .int .u64 0, .int .u64 0, .int .u64 0] (by rfl) (by rfl) HA.out.2.2.1 I4.out O4.out ?_)
  refine bodyPost_ret (v := .agg [.int .u64 0, .int .u64 0, .int .u64 0, .int .u64 0].toArray) (results_cellM Tryz.results62 _ _ _ _ _ (by rfl) LD.out) rfl ⟨rfl, HA.out.1, HA.out.2.1⟩
set_option maxRecDepth 100000 in
set_option maxHeartbeats 8000000 in
theorem readS_no {w : World} {g c : Nat} {P : Option Addr} {bs : List UInt8} {e : Int} (f : Value) (h : Tr.Rd w g P c bs e) (he : e ≠ 0) :
    Calls Tryz.prog 64 #[.pointer (some ⟨g, 0, none⟩), f] w fun r w' => r = .returned (.agg #[.int .u64 0, .int .u64 0, .int .u64 0, .int .u64 0]) ∧ Below w.heap.size w w' := by
  have B0 := hidden (Tr.bl_trans (Tr.bl_alloc w (.cells #[.int .u64 0, .int .u64 0, .int .u64 0, .int .u64 0] 24)) (Tr.bl_alloc _ (.cells #[.int .u64 0, .int .u64 0, .int .u64 0, .int .u64 0] 24)))
  have E := hidden (Tr.err_any (h.keep B0.out))
  have n0 : (e != 0) = true := by simpa using he
  clear h he
  go_enter Tryz.func64, Tryz.ntmps64
  go_wp2_with (first | (go_at_call 41; refine E.out.mono ?_; rintro r w2 ⟨rfl, rfl⟩; clear E))
  refine bodyPost_ret (v := .agg #[.int .u64 0, .int .u64 0, .int .u64 0, .int .u64 0]) (by simp [results, Tryz.results64, go_sem]) rfl ⟨rfl, B0.out⟩
set_option maxRecDepth 100000 in
set_option maxHeartbeats 8000000 in
theorem readS_okB {w : World} {g c X b o : Nat} {bs : List UInt8} (hT : Tb w) (h : Tr.Rd w g (some ⟨b, o, none⟩) c bs 0) (h32 : 32 ≤ bs.length) (hX : w.cell? ⟨X, 0, none⟩ = some fvS) (hd : de bs = 0) :
    Calls Tryz.prog 64 #[.pointer (some ⟨g, 0, none⟩), .func (.func 65) #[] #[.pointer (some ⟨X, 0, none⟩)]] w fun e w' => ∃ (P' : Option Addr) (c' : Nat), e = .returned (d4 bs).v ∧ Tr.Rd w' g P' c' (bs.drop 32) 0 ∧ Tr.Kp g w w' ∧ ∀ a, P' = some a → a.block = b := by
  have M0 := ((Mw.start w).new [.int .u64 0, .int .u64 0, .int .u64 0, .int .u64 0] 24).new [.int .u64 0, .int .u64 0, .int .u64 0, .int .u64 0] 24
  simp only [World.size_alloc] at M0
  have R0 := h.keep M0.bel
  have E := hidden (Tr.err_any R0)
  have T := hidden (toldS b o c X bs _ (hT.keep M0.bel) R0.by' h32 R0.cap (cell_keep hX M0.bel))
  rw [hd] at T
  have GL := hidden h.glt
  have BF := hidden (h.fr _ rfl)
  have x0 := R0.c0
  have RR := hidden R0
  have MM := hidden M0
  have n0 : (32 : Int) ≤ (bs.length : Int) := by omega
  have hc := h.cap
  have HB := hidden h32
  generalize d4 bs = z at T ⊢
  generalize hW : (w.alloc (.cells #[.int .u64 0, .int .u64 0, .int .u64 0, .int .u64 0] 24)).alloc (.cells #[.int .u64 0, .int .u64 0, .int .u64 0, .int .u64 0] 24) = W at T E RR MM x0
  clear hT h hX hd M0 R0
  unfold E4.v at T ⊢
  have GO : ∀ (o' n' d' : Nat), n' = bs.length - 32 → n' ≤ d' → (∀ V, Tr.By V (some ⟨b, o, none⟩) c bs → Tr.By V (some ⟨b, o', none⟩) d' (bs.drop 32)) → ∀ wa, Below W.heap.size W wa → Mw w [(w.heap.size + 1, [.int .u64 0, .int .u64 0, .int .u64 0, .int .u64 0]), (w.heap.size, [.int .u64 0, .int .u64 0, .int .u64 0, .int .u64 0])] wa →
      Tr.Rd (((wa.alloc (.cells #[.int .u64 z.x0, .int .u64 z.x1, .int .u64 z.x2, .int .u64 z.x3] 24)).setCell ⟨g, 0, none⟩ (.slice (some ⟨b, o', none⟩) n' d')).setCells w.heap.size 0 [.int .u64 z.x0, .int .u64 z.x1, .int .u64 z.x2, .int .u64 z.x3]) g (some ⟨b, o', none⟩) d' (bs.drop 32) 0 ∧ Tr.Kp g w (((wa.alloc (.cells #[.int .u64 z.x0, .int .u64 z.x1, .int .u64 z.x2, .int .u64 z.x3] 24)).setCell ⟨g, 0, none⟩ (.slice (some ⟨b, o', none⟩) n' d')).setCells w.heap.size 0 [.int .u64 z.x0, .int .u64 z.x1, .int .u64 z.x2, .int .u64 z.x3]) ∧
      ((wa.alloc (.cells #[.int .u64 z.x0, .int .u64 z.x1, .int .u64 z.x2, .int .u64 z.x3] 24)).setCell ⟨g, 0, none⟩ (.slice (some ⟨b, o', none⟩) n' d')).there w.heap.size 0 ([.int .u64 z.x0, .int .u64 z.x1, .int .u64 z.x2, .int .u64 z.x3] : List Value).toArray.size ∧ (((wa.alloc (.cells #[.int .u64 z.x0, .int .u64 z.x1, .int .u64 z.x2, .int .u64 z.x3] 24)).setCell ⟨g, 0, none⟩ (.slice (some ⟨b, o', none⟩) n' d')).setCells w.heap.size 0 [.int .u64 z.x0, .int .u64 z.x1, .int .u64 z.x2, .int .u64 z.x3]).rangeAt w.heap.size 0 [.int .u64 z.x0, .int .u64 z.x1, .int .u64 z.x2, .int .u64 z.x3] := by
    intro o' n' d' hn hd hy wa hwa MA
    have hl := GL.out
    have R1 := (RR.out.keep hwa).keep (Tr.bl_alloc wa (.cells #[.int .u64 z.x0, .int .u64 z.x1, .int .u64 z.x2, .int .u64 z.x3] 24))
    have R2 := R1.move 32 o' n' d' hn hd (hy _ R1.by')
    have K1 : Tr.Kp g w (wa.alloc (.cells #[.int .u64 z.x0, .int .u64 z.x1, .int .u64 z.x2, .int .u64 z.x3] 24)) := Tr.Kp.of (Tr.bl_trans MA.bel (Tr.bl_alloc wa _))
    have KS := Tr.Kp.grown (Tr.grown_set (wa.alloc (.cells #[.int .u64 z.x0, .int .u64 z.x1, .int .u64 z.x2, .int .u64 z.x3] 24)) g 0 (.slice (some ⟨b, o', none⟩) n' d'))
    have KT := kp_setCells w.heap.size [.int .u64 z.x0, .int .u64 z.x1, .int .u64 z.x2, .int .u64 z.x3] 0 ((wa.alloc (.cells #[.int .u64 z.x0, .int .u64 z.x1, .int .u64 z.x2, .int .u64 z.x3] 24)).setCell ⟨g, 0, none⟩ (.slice (some ⟨b, o', none⟩) n' d'))
    have t0 := (MA.r (w.heap.size, [.int .u64 0, .int .u64 0, .int .u64 0, .int .u64 0]) (by simp)).2.1
    have t1 := there_kp (there_keepM t0 (Tr.bl_alloc wa (.cells #[.int .u64 z.x0, .int .u64 z.x1, .int .u64 z.x2, .int .u64 z.x3] 24))) KS (by simp only; omega)
    have t2 : ((wa.alloc (.cells #[.int .u64 z.x0, .int .u64 z.x1, .int .u64 z.x2, .int .u64 z.x3] 24)).setCell ⟨g, 0, none⟩ (.slice (some ⟨b, o', none⟩) n' d')).there w.heap.size 0 ([.int .u64 z.x0, .int .u64 z.x1, .int .u64 z.x2, .int .u64 z.x3] : List Value).length := by simpa using t1
    exact ⟨rd_kp R2 KT (by omega) (fun a ha => by have := BF.out.2; obtain rfl := Option.some.inj ha; simp only at *; omega), kp_new (K1.trans KS) KT (Nat.le_refl _), by simpa using t1, World.rangeAt_setCells_same _ w.heap.size 0 _ t2⟩
  have HG := hidden GO
  have I4 := hidden (i4aS z)
  have O4 := hidden (c4_one z)
  have I5 := hidden (i4S z)
  have UT : Hid (Tryz.prog.underlying 24 = _) := hidden Tryz.underlying24
  clear GO

  by_cases hcs : c = 32
  · subst hcs
    have hbl : bs.length = 32 := by omega
    have HQ := hidden (fun wa h1 h2 => HG.out o (bs.length - 32) 0 rfl (by omega) (fun V hV => by rw [List.drop_eq_nil_of_le (by omega)]; exact ⟨fun e => (by cases e), fun a ha j u hu => (by simp [Tr.cb] at hu)⟩) wa h1 h2)
    clear HG hc hbl
    go_enter Tryz.func64, Tryz.ntmps64
    go_wp2_with (first | (go_at_call 41; refine E.out.mono ?_; rintro r w2 ⟨rfl, rfl⟩; clear E) | (go_at_call 65; refine T.out.mono ?_; rintro r wa ⟨rfl, ha⟩; have MA := hidden (MM.out.keep ha); have HA := hidden (HQ.out wa ha MA.out); have GW := hidden (Nat.lt_of_lt_of_le (Nat.lt_of_lt_of_le GL.out MA.out.bel.size) (Nat.le_refl _)); have y0 := ((RR.out.keep ha).keep (Tr.bl_alloc wa (.cells #[.int .u64 z.x0, .int .u64 z.x1, .int .u64 z.x2, .int .u64 z.x3] 24))).c0; have f0 := ((RR.out.keep ha).keep (Tr.bl_alloc wa (.cells #[.int .u64 z.x0, .int .u64 z.x1, .int .u64 z.x2, .int .u64 z.x3] 24))).f 0; have L6 := hidden (range_kp (range_newM wa [.int .u64 z.x0, .int .u64 z.x1, .int .u64 z.x2, .int .u64 z.x3] 24) (Tr.Kp.grown (Tr.grown_set (wa.alloc (.cells #[.int .u64 z.x0, .int .u64 z.x1, .int .u64 z.x2, .int .u64 z.x3] 24)) g 0 (.slice (some ⟨b, o, none⟩) (bs.length - 32) 0))) (Nat.ne_of_gt GW.out)); have LD := hidden (run_loadVar_mid _ w.heap.size 0 24 [.int .u64 z.x0, .int .u64 z.x1, .int .u64 z.x2, .int .u64 z.x3] _ HA.out.2.2.2 UT.out rfl I5.out); clear T x0 ha MM RR HQ hW) | refine wpList_load_mid rfl 24 _ rfl wa.heap.size 0 (by rfl) [.int .u64 z.x0, .int .u64 z.x1, .int .u64 z.x2, .int .u64 z.x3] _ L6.out UT.out rfl I5.out ?_ | refine wpList_storeL rfl 24 _ _ rfl rfl w.heap.size 0 [.int .u64 z.x0, .int .u64 z.x1, .int .u64 z.x2, .int .u64 z.x3] (by rfl) (by rfl) HA.out.2.2.1 I4.out O4.out ?_)
    refine bodyPost_ret (v := .agg [.int .u64 z.x0, .int .u64 z.x1, .int .u64 z.x2, .int .u64 z.x3].toArray) (results_cellM Tryz.results64 _ _ _ _ _ (by rfl) LD.out) rfl ⟨_, _, rfl, HA.out.1, HA.out.2.1, fun a ha => by obtain rfl := Option.some.inj ha; rfl⟩
  · have n2 : ¬ c = 32 := hcs
    have HQ := hidden (fun wa h1 h2 => HG.out (o + 32) (bs.length - 32) (c - 32) rfl (by omega) (fun V hV => hV.drop 32 _) wa h1 h2)
    clear HG hcs hc
    go_enter Tryz.func64, Tryz.ntmps64
    go_wp2_with (first | (go_at_call 41; refine E.out.mono ?_; rintro r w2 ⟨rfl, rfl⟩; clear E) | (go_at_call 65; refine T.out.mono ?_; rintro r wa ⟨rfl, ha⟩; have MA := hidden (MM.out.keep ha); have HA := hidden (HQ.out wa ha MA.out); have GW := hidden (Nat.lt_of_lt_of_le (Nat.lt_of_lt_of_le GL.out MA.out.bel.size) (Nat.le_refl _)); have y0 := ((RR.out.keep ha).keep (Tr.bl_alloc wa (.cells #[.int .u64 z.x0, .int .u64 z.x1, .int .u64 z.x2, .int .u64 z.x3] 24))).c0; have f0 := ((RR.out.keep ha).keep (Tr.bl_alloc wa (.cells #[.int .u64 z.x0, .int .u64 z.x1, .int .u64 z.x2, .int .u64 z.x3] 24))).f 0; have L6 := hidden (range_kp (range_newM wa [.int .u64 z.x0, .int .u64 z.x1, .int .u64 z.x2, .int .u64 z.x3] 24) (Tr.Kp.grown (Tr.grown_set (wa.alloc (.cells #[.int .u64 z.x0, .int .u64 z.x1, .int .u64 z.x2, .int .u64 z.x3] 24)) g 0 (.slice (some ⟨b, o + 32, none⟩) (bs.length - 32) (c - 32)))) (Nat.ne_of_gt GW.out)); have LD := hidden (run_loadVar_mid _ w.heap.size 0 24 [.int .u64 z.x0, .int .u64 z.x1, .int .u64 z.x2, .int .u64 z.x3] _ HA.out.2.2.2 UT.out rfl I5.out); clear T x0 ha MM RR HQ hW) | refine wpList_load_mid rfl 24 _ rfl wa.heap.size 0 (by rfl) [.int .u64 z.x0, .int .u64 z.x1, .int .u64 z.x2, .int .u64 z.x3] _ L6.out UT.out rfl I5.out ?_ | refine wpList_storeL rfl 24 _ _ rfl rfl w.heap.size 0 [.int .u64 z.x0, .int .u64 z.x1, .int .u64 z.x2, .int .u64 z.x3] (by rfl) (by rfl) HA.out.2.2.1 I4.out O4.out ?_)
    refine bodyPost_ret (v := .agg [.int .u64 z.x0, .int .u64 z.x1, .int .u64 z.x2, .int .u64 z.x3].toArray) (results_cellM Tryz.results64 _ _ _ _ _ (by rfl) LD.out) rfl ⟨_, _, rfl, HA.out.1, HA.out.2.1, fun a ha => by obtain rfl := Option.some.inj ha; rfl⟩
set_option maxRecDepth 100000 in
set_option maxHeartbeats 8000000 in
theorem readS_bad {w : World} {g c X b o : Nat} {bs : List UInt8} (hT : Tb w) (h : Tr.Rd w g (some ⟨b, o, none⟩) c bs 0) (h32 : 32 ≤ bs.length) (hX : w.cell? ⟨X, 0, none⟩ = some fvS) (hd : de bs = 3) :
    Calls Tryz.prog 64 #[.pointer (some ⟨g, 0, none⟩), .func (.func 65) #[] #[.pointer (some ⟨X, 0, none⟩)]] w fun e w' => e = .returned (.agg #[.int .u64 0, .int .u64 0, .int .u64 0, .int .u64 0]) ∧ Tr.Rd w' g (some ⟨b, o, none⟩) c bs 3 ∧ Tr.Kp g w w' := by
  have M0 := ((Mw.start w).new [.int .u64 0, .int .u64 0, .int .u64 0, .int .u64 0] 24).new [.int .u64 0, .int .u64 0, .int .u64 0, .int .u64 0] 24
  simp only [World.size_alloc] at M0
  have R0 := h.keep M0.bel
  have E := hidden (Tr.err_any R0)
  have T := hidden (toldS b o c X bs _ (hT.keep M0.bel) R0.by' h32 R0.cap (cell_keep hX M0.bel))
  rw [hd] at T
  have GL := hidden h.glt
  have BF := hidden (h.fr _ rfl)
  have x0 := R0.c0
  have RR := hidden R0
  have MM := hidden M0
  generalize d4 bs = z at T
  generalize hW : (w.alloc (.cells #[.int .u64 0, .int .u64 0, .int .u64 0, .int .u64 0] 24)).alloc (.cells #[.int .u64 0, .int .u64 0, .int .u64 0, .int .u64 0] 24) = W at T E RR MM x0
  clear hT h hX hd M0 R0 h32
  unfold E4.v at T
  have GO : ∀ wa, Below W.heap.size W wa → Mw w [(w.heap.size + 1, [.int .u64 0, .int .u64 0, .int .u64 0, .int .u64 0]), (w.heap.size, [.int .u64 0, .int .u64 0, .int .u64 0, .int .u64 0])] wa →
      Tr.Rd (((wa.alloc (.cells #[.int .u64 z.x0, .int .u64 z.x1, .int .u64 z.x2, .int .u64 z.x3] 24)).setCell ⟨g, 1, none⟩ (.int .i64 3)).setCells w.heap.size 0 [.int .u64 0, .int .u64 0, .int .u64 0, .int .u64 0]) g (some ⟨b, o, none⟩) c bs 3 ∧ Tr.Kp g w (((wa.alloc (.cells #[.int .u64 z.x0, .int .u64 z.x1, .int .u64 z.x2, .int .u64 z.x3] 24)).setCell ⟨g, 1, none⟩ (.int .i64 3)).setCells w.heap.size 0 [.int .u64 0, .int .u64 0, .int .u64 0, .int .u64 0]) ∧
      ((wa.alloc (.cells #[.int .u64 z.x0, .int .u64 z.x1, .int .u64 z.x2, .int .u64 z.x3] 24)).setCell ⟨g, 1, none⟩ (.int .i64 3)).there w.heap.size 0 ([.int .u64 0, .int .u64 0, .int .u64 0, .int .u64 0] : List Value).toArray.size ∧ (((wa.alloc (.cells #[.int .u64 z.x0, .int .u64 z.x1, .int .u64 z.x2, .int .u64 z.x3] 24)).setCell ⟨g, 1, none⟩ (.int .i64 3)).setCells w.heap.size 0 [.int .u64 0, .int .u64 0, .int .u64 0, .int .u64 0]).rangeAt w.heap.size 0 [.int .u64 0, .int .u64 0, .int .u64 0, .int .u64 0] ∧ ((wa.alloc (.cells #[.int .u64 z.x0, .int .u64 z.x1, .int .u64 z.x2, .int .u64 z.x3] 24)).setCell ⟨g, 1, none⟩ (.int .i64 3)).rangeAt (w.heap.size + 1) 0 [.int .u64 0, .int .u64 0, .int .u64 0, .int .u64 0] := by
    intro wa hwa MA
    have hl := GL.out
    have R1 := (RR.out.keep hwa).keep (Tr.bl_alloc wa (.cells #[.int .u64 z.x0, .int .u64 z.x1, .int .u64 z.x2, .int .u64 z.x3] 24))
    have R2 := R1.fail 3
    have K1 : Tr.Kp g w (wa.alloc (.cells #[.int .u64 z.x0, .int .u64 z.x1, .int .u64 z.x2, .int .u64 z.x3] 24)) := Tr.Kp.of (Tr.bl_trans MA.bel (Tr.bl_alloc wa _))
    have KS := Tr.Kp.grown (Tr.grown_set (wa.alloc (.cells #[.int .u64 z.x0, .int .u64 z.x1, .int .u64 z.x2, .int .u64 z.x3] 24)) g 1 (.int .i64 3))
    have KT := kp_setCells w.heap.size [.int .u64 0, .int .u64 0, .int .u64 0, .int .u64 0] 0 ((wa.alloc (.cells #[.int .u64 z.x0, .int .u64 z.x1, .int .u64 z.x2, .int .u64 z.x3] 24)).setCell ⟨g, 1, none⟩ (.int .i64 3))
    have t0 := (MA.r (w.heap.size, [.int .u64 0, .int .u64 0, .int .u64 0, .int .u64 0]) (by simp)).2.1
    have t1 := there_kp (there_keepM t0 (Tr.bl_alloc wa (.cells #[.int .u64 z.x0, .int .u64 z.x1, .int .u64 z.x2, .int .u64 z.x3] 24))) KS (by simp only; omega)
    exact ⟨rd_kp R2 KT (by omega) (fun a ha => by have := BF.out.2; obtain rfl := Option.some.inj ha; simp only at *; omega), kp_new (K1.trans KS) KT (Nat.le_refl _), by simpa using t1, World.rangeAt_setCells_same _ w.heap.size 0 _ t1, range_kp (range_keepM (MA.r (w.heap.size + 1, [.int .u64 0, .int .u64 0, .int .u64 0, .int .u64 0]) (by simp)).1 (Tr.bl_alloc wa (.cells #[.int .u64 z.x0, .int .u64 z.x1, .int .u64 z.x2, .int .u64 z.x3] 24))) KS (by first | omega | (simp only; omega))⟩
  have HQ := hidden GO
  have I4 := hidden (i4aS zero4)
  have O4 := hidden (c4_one zero4)
  have I5 := hidden (i4S zero4)
  have UT : Hid (Tryz.prog.underlying 24 = _) := hidden Tryz.underlying24
  clear GO
  go_enter Tryz.func64, Tryz.ntmps64
  go_wp2_with (first | (go_at_call 41; refine E.out.mono ?_; rintro r w2 ⟨rfl, rfl⟩; clear E) | (go_at_call 65; refine T.out.mono ?_; rintro r wa ⟨rfl, ha⟩; have MA := hidden (MM.out.keep ha); have HA := hidden (HQ.out wa ha MA.out); have FA := hidden (Tr.fail_any ((RR.out.keep ha).keep (Tr.bl_alloc wa (.cells #[.int .u64 z.x0, .int .u64 z.x1, .int .u64 z.x2, .int .u64 z.x3] 24))) 3); have LD := hidden (run_loadVar_mid _ w.heap.size 0 24 [.int .u64 0, .int .u64 0, .int .u64 0, .int .u64 0] _ HA.out.2.2.2.1 UT.out rfl I5.out); clear T x0 ha MM RR HQ hW) | (go_at_call 49; refine FA.out.mono ?_; rintro r w3 ⟨rfl, rfl⟩; clear FA) | refine wpList_load_mid rfl 24 _ rfl (w.heap.size + 1) 0 (by rfl) [.int .u64 0, .int .u64 0, .int .u64 0, .int .u64 0] _ HA.out.2.2.2.2 UT.out rfl I5.out ?_ | refine wpList_storeL rfl 24 _ _ rfl rfl w.heap.size 0 [.int .u64 0, .int .u64 0, .int .u64 0, .int .u64 0] (by rfl) (by rfl) HA.out.2.2.1 I4.out O4.out ?_)
  refine bodyPost_ret (v := .agg [.int .u64 0, .int .u64 0, .int .u64 0, .int .u64 0].toArray) (results_cellM Tryz.results64 _ _ _ _ _ (by rfl) LD.out) rfl ⟨rfl, HA.out.1, HA.out.2.1⟩
end Go.Proofs.YtkfkmndhbfeagaaGreatDoor
