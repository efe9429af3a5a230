import Derived.Test.YtghcfcglakbkeaaGreatDoorEba
namespace Go.Proofs.YtghcfcglakbkeaaGreatDoor
open Go.RowKit
set_option maxRecDepth 100000 in
set_option maxHeartbeats 4000000 in
theorem rEncode_any (m : Int) (w : World) :
  Calls Tryz.prog 60 #[(lst m).v] w fun e w' => e = .returned (.agg ((bytes (m % Sm.L)).map fun z => Value.int .u8 z).toArray) ∧ Below w.heap.size w w' := by
 have hN := byt_word (m % Sm.L)
 have ev : (lst m).v = .agg #[.int .u64 (word64 (m % Sm.L) 0), .int .u64 (word64 (m % Sm.L) 1), .int .u64 (word64 (m % Sm.L) 2), .int .u64 (word64 (m % Sm.L) 3)] := by
  rw [word_lim _ 0 (by omega), word_lim _ 1 (by omega), word_lim _ 2 (by omega), word_lim _ 3 (by omega)]; rfl
 rw [ev]
 clear ev
 generalize m % Sm.L = n at *
 have HNH := Hn hN
 clear hN
 have hB0 := (Blc.new w ⟨word64 n 0, word64 n 1, word64 n 2, word64 n 3⟩ 52).keep (bl_alloc _ (.cells #[.int .u8 0, .int .u8 0, .int .u8 0, .int .u8 0, .int .u8 0, .int .u8 0, .int .u8 0, .int .u8 0, .int .u8 0, .int .u8 0, .int .u8 0, .int .u8 0, .int .u8 0, .int .u8 0, .int .u8 0, .int .u8 0, .int .u8 0, .int .u8 0, .int .u8 0, .int .u8 0, .int .u8 0, .int .u8 0, .int .u8 0, .int .u8 0, .int .u8 0, .int .u8 0, .int .u8 0, .int .u8 0, .int .u8 0, .int .u8 0, .int .u8 0, .int .u8 0] 127))
 have hTh0 := there_new (w.alloc (.cells #[.int .u64 (word64 n 0), .int .u64 (word64 n 1), .int .u64 (word64 n 2), .int .u64 (word64 n 3)] 52)) #[.int .u8 0, .int .u8 0, .int .u8 0, .int .u8 0, .int .u8 0, .int .u8 0, .int .u8 0, .int .u8 0, .int .u8 0, .int .u8 0, .int .u8 0, .int .u8 0, .int .u8 0, .int .u8 0, .int .u8 0, .int .u8 0, .int .u8 0, .int .u8 0, .int .u8 0, .int .u8 0, .int .u8 0, .int .u8 0, .int .u8 0, .int .u8 0, .int .u8 0, .int .u8 0, .int .u8 0, .int .u8 0, .int .u8 0, .int .u8 0, .int .u8 0, .int .u8 0] 127
 have hz0 : w.heap.size + 1 < ((w.alloc (.cells #[.int .u64 (word64 n 0), .int .u64 (word64 n 1), .int .u64 (word64 n 2), .int .u64 (word64 n 3)] 52)).alloc (.cells #[.int .u8 0, .int .u8 0, .int .u8 0, .int .u8 0, .int .u8 0, .int .u8 0, .int .u8 0, .int .u8 0, .int .u8 0, .int .u8 0, .int .u8 0, .int .u8 0, .int .u8 0, .int .u8 0, .int .u8 0, .int .u8 0, .int .u8 0, .int .u8 0, .int .u8 0, .int .u8 0, .int .u8 0, .int .u8 0, .int .u8 0, .int .u8 0, .int .u8 0, .int .u8 0, .int .u8 0, .int .u8 0, .int .u8 0, .int .u8 0, .int .u8 0, .int .u8 0] 127)).heap.size := by simp
 have hbel0 := bl_alloc2 w (.cells #[.int .u64 (word64 n 0), .int .u64 (word64 n 1), .int .u64 (word64 n 2), .int .u64 (word64 n 3)] 52) (.cells #[.int .u8 0, .int .u8 0, .int .u8 0, .int .u8 0, .int .u8 0, .int .u8 0, .int .u8 0, .int .u8 0, .int .u8 0, .int .u8 0, .int .u8 0, .int .u8 0, .int .u8 0, .int .u8 0, .int .u8 0, .int .u8 0, .int .u8 0, .int .u8 0, .int .u8 0, .int .u8 0, .int .u8 0, .int .u8 0, .int .u8 0, .int .u8 0, .int .u8 0, .int .u8 0, .int .u8 0, .int .u8 0, .int .u8 0, .int .u8 0, .int .u8 0, .int .u8 0] 127)
 simp only [World.size_alloc] at hTh0
 have HB := Hn hB0
 have HTh := Hn hTh0
 have HZ := Hn hz0
 have HBel := Hn hbel0
 clear hB0 hTh0 hz0 hbel0
 go_enter Tryz.func60, Tryz.ntmps60
 go_upto_region 1 with fail
 simp only at HB
 generalize ((w.alloc (.cells #[.int .u64 (word64 n 0), .int .u64 (word64 n 1), .int .u64 (word64 n 2), .int .u64 (word64 n 3)] 52)).alloc (.cells #[.int .u8 0, .int .u8 0, .int .u8 0, .int .u8 0, .int .u8 0, .int .u8 0, .int .u8 0, .int .u8 0, .int .u8 0, .int .u8 0, .int .u8 0, .int .u8 0, .int .u8 0, .int .u8 0, .int .u8 0, .int .u8 0, .int .u8 0, .int .u8 0, .int .u8 0, .int .u8 0, .int .u8 0, .int .u8 0, .int .u8 0, .int .u8 0, .int .u8 0, .int .u8 0, .int .u8 0, .int .u8 0, .int .u8 0, .int .u8 0, .int .u8 0, .int .u8 0] 127)) = wc at HB HTh HZ HBel ⊢
 have hB := HB.out
 have hTh : wc.there (w.heap.size + 1) 0 32 := HTh.out
 have hz := HZ.out
 have hbel := HBel.out
 clear HB HTh HZ HBel
 have hwd : ∀ q, q < 4 → wc.cell? ⟨w.heap.size, q, none⟩ = some (.int .u64 (word64 n q)) := fun q hq => by
  have h4 : q = 0 ∨ q = 1 ∨ q = 2 ∨ q = 3 := by omega
  rcases h4 with rfl | rfl | rfl | rfl
  ·exact hB.c0
  ·exact hB.c1
  ·exact hB.c2
  ·exact hB.c3
 have E0 : EncW w n w.heap.size wc.heap.size (w.heap.size + 1) 0 (wc.alloc (.cells #[.int .u8 0, .int .u8 0, .int .u8 0, .int .u8 0, .int .u8 0, .int .u8 0, .int .u8 0, .int .u8 0, .int .u8 0, .int .u8 0, .int .u8 0, .int .u8 0, .int .u8 0, .int .u8 0, .int .u8 0, .int .u8 0, .int .u8 0, .int .u8 0, .int .u8 0, .int .u8 0, .int .u8 0, .int .u8 0, .int .u8 0, .int .u8 0, .int .u8 0, .int .u8 0, .int .u8 0, .int .u8 0, .int .u8 0, .int .u8 0, .int .u8 0, .int .u8 0] 127)) := by
  refine ⟨fun q hq => cell_keep (hwd q hq) (bl_alloc _ _), fun j hj => ?_, fun j hj => by go_simp, World.there_alloc hTh _, bl_trans hbel (bl_alloc _ _)⟩
  rw [World.cell?_alloc_mark, if_neg (by omega)]
  have eZ : (#[.int .u8 0, .int .u8 0, .int .u8 0, .int .u8 0, .int .u8 0, .int .u8 0, .int .u8 0, .int .u8 0, .int .u8 0, .int .u8 0, .int .u8 0, .int .u8 0, .int .u8 0, .int .u8 0, .int .u8 0, .int .u8 0, .int .u8 0, .int .u8 0, .int .u8 0, .int .u8 0, .int .u8 0, .int .u8 0, .int .u8 0, .int .u8 0, .int .u8 0, .int .u8 0, .int .u8 0, .int .u8 0, .int .u8 0, .int .u8 0, .int .u8 0, .int .u8 0] : Array Value) = Array.replicate 32 (.int .u8 0) := rfl
  rw [eZ]
  simp [hj]
 have E0H := Hn E0
 clear E0 hwd hTh hbel hB
 go_wp2_with fail
 go_loopw [4] (fun i w' => ∃ k : Nat, k ≤ 32 ∧ i = .int .i64 k ∧ EncW w n w.heap.size wc.heap.size (w.heap.size + 1) k w') (fun i _ => 32 - (intOf i).toNat)
 case atStart => exact ⟨0, by omega, rfl, E0H.out⟩
 case round =>
  obtain ⟨k, hk, rfl, hE⟩ := hrel
  clear E0H
  by_cases hlt : k < 32
  ·have hw := hE.wd (k / 8) (by omega)
   have hb := hE.bt k hlt
   have hf := hE.fr k hlt
   have hN := HNH.out k
   have NEXT := Hn (hE.step hlt (by omega) (by omega))
   have hwb : 0 ≤ word64 n (k / 8) ∧ word64 n (k / 8) ≤ 18446744073709551615 := by unfold word64; omega
   rw [if_neg (by omega)] at hb
   have HN := Hn hN
   clear hE hN
   generalize word64 n (k / 8) = X at *
   go_wp2_with fail
   refine ⟨⟨k + 1, by omega, by go_num, ?_⟩, by simp [intOf]; omega⟩
   rw [HN.out]
   exact NEXT.out
  ·have hk32 : k = 32 := by omega
   subst hk32
   have hr : wr.rangeAt wc.heap.size 0 ((bytes n).map fun z => Value.int .u8 z) := fun j v hv => by
    obtain ⟨hj, rfl⟩ := bytesV n j v hv
    rw [Nat.zero_add, hE.bt j hj, if_pos hj]
   have hl : ((bytes n).map fun z => Value.int .u8 z).length = 32 := by simp [bytes]
   have ho : ((bytes n).map fun z => Value.int .u8 z).toArray.all (·.oneCell') = true := all_oneCell_toArray (fun v hv => by
    obtain ⟨z, _, rfl⟩ := List.mem_map.1 hv
    rfl)
   have hi : (Tryz.prog.info? 127).map (·.size) = some ((bytes n).map fun z => Value.int .u8 z).length := by rw [hl]; kernel_rfl
   have hu : Tryz.prog.underlying 127 = some (.array 32 5) := by kernel_rfl
   have hth := hE.th
   have hbel := Hn hE.bel
   clear hE
   generalize hcs : ((bytes n).map fun z => Value.int .u8 z) = cs at *
   have hth2 : wr.there (w.heap.size + 1) 0 cs.toArray.size := by simpa [hl] using hth
   have hi2 : (Tryz.prog.info? 127).map (·.size) = some cs.toArray.size := by simpa using hi
   have RD := run_loadVar_mid (P := Tryz.prog) (wr.setCells (w.heap.size + 1) 0 cs) (w.heap.size + 1) 0 127 cs _ (World.rangeAt_setCells_same wr (w.heap.size + 1) 0 cs (by rw [hl]; exact hth)) hu rfl hi
   have BEL : Below w.heap.size w (wr.setCells (w.heap.size + 1) 0 cs) := below_setCells (w.heap.size + 1) cs 0 hbel.out (by omega)
   have HU := Hn hu
   have HI := Hn hi
   have HI2 := Hn hi2
   have HTH := Hn hth2
   have HRA := Hn hr
   have HO := Hn ho
   have RDH := Hn RD
   have BELH := Hn BEL
   clear hth hth2 hu hi ho hi2 hr RD BEL
   go_upto_region 6 with fail
   go_wp2_with (first | refine wpList_load_mid rfl 127 _ rfl wc.heap.size 0 (by rfl) cs _ HRA.out HU.out rfl HI.out ?_ | refine wpList_store_mid rfl 127 _ _ rfl (w.heap.size + 1) 0 cs.toArray (by rfl) (by rfl) HTH.out HI2.out HO.out ?_)
   have RD := RDH.out
   refine bodyPost_ret (v := .agg cs.toArray) (results_cell1 Tryz.results60 _ _ _ _ _ (by rfl) RD) rfl ⟨by rw [hcs], ?_⟩
   exact BELH.out
end Go.Proofs.YtghcfcglakbkeaaGreatDoor
namespace Go.Proofs.YtghcfcglakbkeaaGreatDoor
open Go.RowKit
set_option linter.unusedVariables false
set_option linter.unusedSimpArgs false
open Cm (Wr Tm co bf Ls lf ins Eqm)
open Tr (cb By vn cb_len cb_app cb_one vn_len rNum_any own_by wpList_app_by by_list)
namespace Ci
set_option maxRecDepth 100000
set_option maxHeartbeats 16000000
theorem own_kd {x : World} {b b' s s' n n' : Nat} {e e' : TypeId} {u v : Value} {xs ys : List Value} (hu : x.ownsRow b e s u n xs) (hv : x.ownsRow b' e' s' v n' ys) (hne : e ≠ e') : ∀ k, u.ownBlock = some k → v.ownBlock ≠ some k := fun k hk e9 => by
 rcases hu.2 with ⟨h1, _⟩ | ⟨g, c, cur, h1, _, k1, _⟩
 ·rw [h1] at hk; cases hk
 ·rw [h1] at hk
  simp only [Value.ownBlock, Option.some.injEq] at hk
  subst hk
  rcases hv.2 with ⟨h2, _⟩ | ⟨g', c', cur', h2, _, k2, _⟩
  ·rw [h2] at e9; cases e9
  ·rw [h2] at e9
   simp only [Value.ownBlock, Option.some.injEq] at e9
   subst e9
   rw [k1] at k2
   simp only [Option.some.injEq, Obj.cells.injEq] at k2
   exact hne k2.2.1
theorem box_kd {x : World} {b s n B : Nat} {e T : TypeId} {u : Value} {xs : List Value} {arr : Array Value} (hu : x.ownsRow b e s u n xs) (hB : x.heap[B]? = some (.cells arr T (0, 0))) (hne : e ≠ T) : u.ownBlock ≠ some B := fun e9 => by
 rcases hu.2 with ⟨h1, _⟩ | ⟨g, c, cur, h1, _, k1, _⟩
 ·rw [h1] at e9; cases e9
 ·rw [h1] at e9
  simp only [Value.ownBlock, Option.some.injEq] at e9
  subst e9
  rw [k1] at hB
  simp only [Option.some.injEq, Obj.cells.injEq] at hB
  exact hne hB.2.1
theorem own_kept {x y : World} {b b' s s' n n' : Nat} {e e' : TypeId} {u v : Value} {xs ys : List Value} (hu : x.ownsRow b e s u n xs) (hv : x.ownsRow b' e' s' v n' ys) (hne : e ≠ e') (hg : x.grownBy y v.ownBlock) : y.ownsRow b e s u n xs := hu.kept hg (by
 cases hq : u.ownBlock with
 | none => exact .inl rfl
 | some k => exact .inr (fun e9 => own_kd hu hv hne k hq e9.symm))
theorem heap_setCells_whole {b : Nat} {t : TypeId} : ∀ (ds : List Value) (o : Nat) (w : World) (C : Array Value), w.heap[b]? = some (.cells C t (0, 0)) → o + ds.length = C.size → (w.setCells b o ds).heap[b]? = some (.cells (C.toList.take o ++ ds).toArray t (0, 0))
 | [], o, w, C, h, hl => by
  simp only [World.setCells, List.append_nil]
  rw [h, List.take_of_length_le (by simp at hl ⊢; omega)]
 | d :: ds, o, w, C, h, hl => by
  rw [World.setCells]
  simp only [List.length_cons] at hl
  have h2 := heap_setCell_same w b o C t d h
  rw [heap_setCells_whole ds (o + 1) _ _ h2 (by simp; omega)]
  have e : (C.setIfInBounds o d).toList.take (o + 1) = C.toList.take o ++ [d] := by
   rw [Array.toList_setIfInBounds, List.take_succ_eq_append_getElem (by simp; omega)]
   simp [List.take_set_of_le]
  rw [e]
  simp
theorem hb_kd {x y : World} {b s n B : Nat} {e T : TypeId} {u : Value} {xs : List Value} {arr : Array Value} (hB : x.heap[B]? = some (.cells arr T (0, 0))) (hu : x.ownsRow b e s u n xs) (hne : e ≠ T) (hg : x.grownBy y u.ownBlock) : y.heap[B]? = some (.cells arr T (0, 0)) :=
 (hg.block B (Array.getElem?_eq_some_iff.1 hB).1 (fun e' => box_kd hu hB hne e'.symm)).trans hB
theorem hb_bl {x y : World} {B : Nat} {o : Obj} (hB : x.heap[B]? = some o) (h : Below x.heap.size x y) : y.heap[B]? = some o := (h.block B (Array.getElem?_eq_some_iff.1 hB).1).trans hB
def Yb (w : World) (v : Value) (bs : List UInt8) (x : World) : Prop := x.ownsRow w.heap.size 5 1 v (bs).length (cb (bs)) ∧ Below w.heap.size w x
theorem Yb.bl {w x y : World} {v : Value} {bs : List UInt8} (h : Yb w v bs x) (hb : Below x.heap.size x y) : Yb w v bs y := ⟨own_keepT h.1 hb, bl_trans h.2 hb⟩
theorem Yb.gr {w x y : World} {v v' : Value} {bs cs : List UInt8} (h : Yb w v bs x) (ho : y.ownsRow w.heap.size 5 1 v' (cs).length (cb (cs))) (hg : x.grownBy y v.ownBlock) : Yb w v' cs y := ⟨ho, h.2.trans (below_grown hg h.2.size (fun k hk => (h.1.lt k hk).1))⟩
theorem u64n {n : Nat} (h : n < 18446744073709551616) : IntKind.u64.wrap (n : Int) = (n : Int) := by
 show (n : Int) % 18446744073709551616 = (n : Int)
 omega
def EdP (w : World) (bs : List UInt8) (e : Ending) (w' : World) : Prop := ∃ v, e = .returned v ∧ Yb w v bs w'
theorem dEncode_any {base : Nat} {w : World} {s m Kg : Nat} {vv : Value} {vs : List Value} {Q : List (List Tm)} (h : Dy base w s m Kg vv vs Q) (hW : Wk m Kg Q) (hm : m ≤ 1024) :
  Calls Tryz.prog 20 #[.pointer (some ⟨s, 0, none⟩)] w fun e w' => EdP w (enB m Kg Q) e w' := by
 have HH := Hn h
 have HW := Hn hW
 have LN : Hid (∀ X ∈ Q, X.length ≤ 6150) := Hn (fun X hX => ls_len (h.sm X hX) (hW.wr X hX) hW.k hm)
 obtain ⟨PQ, cQ, rfl, _, hG⟩ := h.shape
 have HG := Hn hG
 have c0 := h.c0
 have c1 := h.c1
 have c2 := h.c2
 have HM := Hn hm
 have um := u64n (n := m) (by omega)
 have uk := u64n (n := Kg) (by have := hW.k; omega)
 have uq := u64n (n := Q.length) (by have := hW.q; omega)
 have CM := Hn (rNum_any m w (by omega))
 have CK := Hn (fun y => rNum_any Kg y (by have := hW.k; omega))
 have CQ := Hn (fun y => rNum_any Q.length y (by have := hW.q; omega))
 clear h hW hm hG
 go_enter Tryz.func20, Tryz.ntmps20
 go_upto_region 2 with (go_at_call 59; refine CM.out.mono ?_; rintro e w1 ⟨v1, rfl, ho, hb⟩; have Y1 : Hid (Yb w v1 (vn m) w1) := Hn ⟨ho, hb⟩; have d1 := cell_keep c1 hb; clear ho hb CM)
 have L1 := Hn (vn_len m)
 go_upto_region 3 with (first | (go_at_call 59; refine (CK.out w1).mono ?_; rintro e w2 ⟨v2, rfl, ho, hb⟩; obtain ⟨P2, c2b, e2, by2⟩ := own_by ho; have BY2 := Hn by2; have B2 := Hn hb; replace Y1 := Hn (Y1.out.bl hb); subst e2; clear ho by2 hb CK) | (at_builtin; refine wpList_app_by rfl _ _ rfl w.heap.size _ (vn m) (vn Kg) P2 c2b rfl rfl Y1.out.1 BY2.out (by have := L1.out; have := vn_len Kg; omega) Y1.out.2.size ?_; intro v3 w3 ho3 hg3; have Y3 := Hn (Y1.out.gr ho3 hg3); clear ho3 hg3 BY2 Y1 B2))
 have d2 := cell_keep c2 Y3.out.2
 go_upto_region 4 with (first | (go_at_call 59; refine (CQ.out w3).mono ?_; rintro e w4 ⟨v4, rfl, ho, hb⟩; obtain ⟨P4, c4b, e4, by4⟩ := own_by ho; have BY4 := Hn by4; replace Y3 := Hn (Y3.out.bl hb); subst e4; clear ho by4 hb CQ) | (at_builtin; refine wpList_app_by rfl _ _ rfl w.heap.size _ (vn m ++ vn Kg) (vn Q.length) P4 c4b rfl rfl Y3.out.1 BY4.out (by have := L1.out; have := vn_len Kg; have := vn_len Q.length; simp only [List.length_append]; omega) Y3.out.2.size ?_; intro v5 w5 ho5 hg5; have Y5 := Hn (Y3.out.gr ho5 hg5); clear ho5 hg5 BY4 Y3))
 have S0 : Hid (Yb w v5 (pre m Kg Q 0) w5) := Hn (by
  have e : vn m ++ vn Kg ++ vn Q.length = pre m Kg Q 0 := by unfold pre; simp
  rw [← e]; exact Y5.out)
 clear Y5 L1 c0 c1 d1 d2
 have qn : Hid (Q.length ≤ 4096) := Hn HW.out.q
 have C2 := Hn c2
 clear c2
 go_upto_region 5 with fail
 go_loopw [3, 4] (fun bv iv x => ∃ i : Nat, i ≤ Q.length ∧ iv = .int .i64 (i : Int) ∧ Hid (Yb w bv (pre m Kg Q i) x)) (fun _ i _ => Q.length - (intOf i).toNat)
 case atStart => exact ⟨0, by omega, rfl, S0⟩
 case round =>
  clear S0
  obtain ⟨i, hi, rfl, hS⟩ := hrel
  have cc2 := cell_keep C2.out hS.out.2
  by_cases hin : i < Q.length
  ·have i1 : (i : Int) < (Q.length : Int) := by omega
   have i0 : (0 : Int) ≤ (i : Int) := by omega
   have w9 : IntKind.i64.wrap ((i : Int) + 1) = (i : Int) + 1 := IntWalk.i64_in _ (by have := qn.out; omega)
   obtain ⟨G, rfl⟩ := HG.out (by omega)
   obtain ⟨X, hX⟩ : ∃ X, Q[i]? = some X := ⟨Q[i], by simp [hin]⟩
   obtain ⟨u, hu, hown⟩ := HH.out.ls i X hX
   obtain ⟨PX, cX, rfl, _⟩ := own_shT hown
   have cc := HH.out.row.cells (g := G) rfl i _ hu
   rw [Addr.add_mid, Nat.zero_add] at cc
   have CC := Hn cc
   have gc := cell_keep cc hS.out.2
   have LX := Hn (own_lts hown)
   have mX := Hn (List.mem_of_getElem? hX)
   have HX := Hn hX
   have ux := u64n (n := X.length) (by have := LN.out X mX.out; omega)
   have CX := Hn (rNum_any X.length wr (by have := LN.out X mX.out; omega))
   clear cc hown hu hX
   go_upto_region 8 with (first | (go_at_call 59; refine CX.out.mono ?_; rintro e w2 ⟨v2, rfl, ho, hb⟩; obtain ⟨P2, c2b, e2, by2⟩ := own_by ho; have BY2 := Hn by2; replace hS := Hn (hS.out.bl hb); subst e2; clear ho by2 hb CX) | (at_builtin; refine wpList_app_by rfl _ _ rfl w.heap.size _ (pre m Kg Q i) (vn X.length) P2 c2b rfl rfl hS.out.1 BY2.out (by have := pre_len (m := m) (Kg := Kg) (i := i) qn.out LN.out; have := vn_len X.length; omega) hS.out.2.size ?_; intro v3 w3 ho3 hg3; have Y3 := Hn (hS.out.gr ho3 hg3); clear ho3 hg3 BY2 hS))
   have S4 : Hid (Yb w v3 (prx m Kg Q i X 0) w3) := Hn (by
    have e : prx m Kg Q i X 0 = pre m Kg Q i ++ vn X.length := by unfold prx; simp
    rw [e]; exact Y3.out)
   clear Y3 gc cc2 ux
   go_upto_region 9 with fail
   have xn : Hid (X.length ≤ 6150) := Hn (LN.out X mX.out)
   go_loopw [3, 5] (fun bv iv x => ∃ j : Nat, j ≤ X.length ∧ iv = .int .i64 (j : Int) ∧ Hid (Yb w bv (prx m Kg Q i X j) x)) (fun _ j _ => X.length - (intOf j).toNat)
   case atStart => exact ⟨0, by omega, rfl, S4⟩
   case round =>
    clear S4
    obtain ⟨j, hj, rfl, hS⟩ := hrel
    have cc2 := cell_keep C2.out hS.out.2
    have gc := cell_keep CC.out hS.out.2
    by_cases hjn : j < X.length
    ·have j1 : (j : Int) < (X.length : Int) := by omega
     have j0 : (0 : Int) ≤ (j : Int) := by omega
     have w9j : IntKind.i64.wrap ((j : Int) + 1) = (j : Int) + 1 := IntWalk.i64_in _ (by have := xn.out; omega)
     obtain ⟨xb, xo, hPs, hRt⟩ := LX.out
     obtain rfl := hPs (by omega)
     have rt := (hRt (by omega)).keep hS.out.2
     obtain ⟨x, hx⟩ : ∃ x, X[j]? = some x := ⟨X[j], by simp [hjn]⟩
     have wx := HW.out.wr X mX.out x (List.mem_of_getElem? hx)
     obtain ⟨kk, hkk⟩ : ∃ kk : Nat, x.1.1 = (kk : Int) := ⟨x.1.1.toNat, by unfold hs at wx; simp only [Bool.and_eq_true, decide_eq_true_eq] at wx; omega⟩
     obtain ⟨ii, hii⟩ : ∃ ii : Nat, x.1.2 = (ii : Int) := ⟨x.1.2.toNat, by unfold hs at wx; simp only [Bool.and_eq_true, decide_eq_true_eq] at wx; omega⟩
     have bk : kk < 6 ∧ ii < 4096 := enc_bd wx hkk hii HW.out.k HM.out
     have fx : ft X j = ⟨((kk : Int), (ii : Int)), lst x.2⟩ := by
      unfold ft tmOf
      rw [List.getD_eq_getElem?_getD, hx]
      show (⟨x.1, lst x.2⟩ : Trm) = _
      rw [← hkk, ← hii]
     have a0 := rt.c0 j hjn
     have a1 := rt.c1 j hjn
     have a2 := rt.c2 j hjn
     have a3 := rt.c3 j hjn
     have a4 := rt.c4 j hjn
     have a5 := rt.c5 j hjn
     rw [fx] at a0 a1 a2 a3 a4 a5
     have PX2 := prx_succ (m := m) (Kg := Kg) (Q := Q) (i := i) hx
     rw [hkk, hii] at PX2
     have uk2 := u64n (n := kk) (by omega)
     have ui2 := u64n (n := ii) (by omega)
     have CE := Hn (fun y => rEncode_any x.2 y)
     obtain ⟨N, hN⟩ : ∃ N, x.2 % Sm.L = N := ⟨_, rfl⟩
     have hN2 : (lst x.2).n % Sm.L = N := by rw [lst_n, Int.emod_emod_of_dvd _ (Int.dvd_refl _)]; exact hN
     rw [hN2] at PX2
     rw [hN] at CE
     rw [← kb32_cb] at CE
     have PXH := Hn PX2
     have HP : Hid ((prx m Kg Q i X j).length ≤ 40 + 4097 * 319810) := Hn (prx_len qn.out LN.out mX.out)
     clear rt hPs hRt fx wx hkk hii hx hN hN2 PX2
     generalize lst x.2 = p at *
     obtain ⟨B, hB⟩ : ∃ B, prx m Kg Q i X j = B := ⟨_, rfl⟩
     rw [hB] at hS PXH HP
     clear hB
     simp only [E4.v] at CE
     have hbk1 := bk.1
     have hbk2 := bk.2
     go_upto_region 12 with fail
     have BA := bl_alloc wr (.cells #[.int .i64 (kk : Int), .int .i64 (ii : Int), .int .u64 p.x0, .int .u64 p.x1, .int .u64 p.x2, .int .u64 p.x3] 116)
     have HT := heap_alloc_new wr (.cells #[.int .i64 (kk : Int), .int .i64 (ii : Int), .int .u64 p.x0, .int .u64 p.x1, .int .u64 p.x2, .int .u64 p.x3] 116)
     have t0 : (wr.alloc (.cells #[.int .i64 (kk : Int), .int .i64 (ii : Int), .int .u64 p.x0, .int .u64 p.x1, .int .u64 p.x2, .int .u64 p.x3] 116)).cell? ⟨wr.heap.size, 0, none⟩ = some (.int .i64 (kk : Int)) := by go_simp
     have t1 : (wr.alloc (.cells #[.int .i64 (kk : Int), .int .i64 (ii : Int), .int .u64 p.x0, .int .u64 p.x1, .int .u64 p.x2, .int .u64 p.x3] 116)).cell? ⟨wr.heap.size, 1, none⟩ = some (.int .i64 (ii : Int)) := by go_simp
     have t2 : (wr.alloc (.cells #[.int .i64 (kk : Int), .int .i64 (ii : Int), .int .u64 p.x0, .int .u64 p.x1, .int .u64 p.x2, .int .u64 p.x3] 116)).cell? ⟨wr.heap.size, 2, none⟩ = some (.int .u64 p.x0) := by go_simp
     have t3 : (wr.alloc (.cells #[.int .i64 (kk : Int), .int .i64 (ii : Int), .int .u64 p.x0, .int .u64 p.x1, .int .u64 p.x2, .int .u64 p.x3] 116)).cell? ⟨wr.heap.size, 3, none⟩ = some (.int .u64 p.x1) := by go_simp
     have t4 : (wr.alloc (.cells #[.int .i64 (kk : Int), .int .i64 (ii : Int), .int .u64 p.x0, .int .u64 p.x1, .int .u64 p.x2, .int .u64 p.x3] 116)).cell? ⟨wr.heap.size, 4, none⟩ = some (.int .u64 p.x2) := by go_simp
     have t5 : (wr.alloc (.cells #[.int .i64 (kk : Int), .int .i64 (ii : Int), .int .u64 p.x0, .int .u64 p.x1, .int .u64 p.x2, .int .u64 p.x3] 116)).cell? ⟨wr.heap.size, 5, none⟩ = some (.int .u64 p.x3) := by go_simp
     replace hS := Hn (hS.out.bl BA)
     clear BA a0 a1 a2 a3 a4 a5 cc2 gc
     generalize (wr.alloc (.cells #[.int .i64 (kk : Int), .int .i64 (ii : Int), .int .u64 p.x0, .int .u64 p.x1, .int .u64 p.x2, .int .u64 p.x3] 116)) = w5 at *
     generalize wr.heap.size = tb at *
     replace HT := Hn HT
     clear t0 t1
     generalize hcs : cb (kb32 N) = cs at *
     have OS : Hid (cs.toArray.all (·.oneCell') = true) := Hn (by rw [← hcs, List.all_toArray, List.all_eq_true]; exact fun u hu => cb_one _ u hu)
     have HI : Hid ((Tryz.prog.info? 127).map (·.size) = some cs.toArray.size) := Hn (by rw [List.size_toArray, ← hcs, cb_len]; exact i32)
     have HC := Hn hcs
     have HCL : Hid (cs.length = 32) := Hn (by rw [← hcs, cb_len]; rfl)
     clear hcs
     go_upto_region 13 with (first | (go_at_call 60; refine (CE.out w5).mono ?_; rintro e w6 ⟨rfl, hb6⟩; have B6 := Hn hb6; have TH := Hn (th32 w6); rw [← HCL.out, ← List.size_toArray] at TH; clear hb6 CE t2 t3 t4 t5) | refine wpList_store_mid rfl 127 _ _ rfl w6.heap.size 0 cs.toArray (by rfl) (by rfl) TH.out HI.out OS.out ?_)
     have BZ := bl_trans B6.out (bl_alloc w6 (.cells #[.int .u8 0, .int .u8 0, .int .u8 0, .int .u8 0, .int .u8 0, .int .u8 0, .int .u8 0, .int .u8 0, .int .u8 0, .int .u8 0, .int .u8 0, .int .u8 0, .int .u8 0, .int .u8 0, .int .u8 0, .int .u8 0, .int .u8 0, .int .u8 0, .int .u8 0, .int .u8 0, .int .u8 0, .int .u8 0, .int .u8 0, .int .u8 0, .int .u8 0, .int .u8 0, .int .u8 0, .int .u8 0, .int .u8 0, .int .u8 0, .int .u8 0, .int .u8 0] 127))
     have HK := heap_setCells_whole cs 0 _ _ (heap_alloc_new w6 (.cells #[.int .u8 0, .int .u8 0, .int .u8 0, .int .u8 0, .int .u8 0, .int .u8 0, .int .u8 0, .int .u8 0, .int .u8 0, .int .u8 0, .int .u8 0, .int .u8 0, .int .u8 0, .int .u8 0, .int .u8 0, .int .u8 0, .int .u8 0, .int .u8 0, .int .u8 0, .int .u8 0, .int .u8 0, .int .u8 0, .int .u8 0, .int .u8 0, .int .u8 0, .int .u8 0, .int .u8 0, .int .u8 0, .int .u8 0, .int .u8 0, .int .u8 0, .int .u8 0] 127)) (by rw [HCL.out]; rfl)
     rw [List.take_zero, List.nil_append] at HK
     have GB := gb_setCells w6.heap.size cs 0 (w6.alloc (.cells #[.int .u8 0, .int .u8 0, .int .u8 0, .int .u8 0, .int .u8 0, .int .u8 0, .int .u8 0, .int .u8 0, .int .u8 0, .int .u8 0, .int .u8 0, .int .u8 0, .int .u8 0, .int .u8 0, .int .u8 0, .int .u8 0, .int .u8 0, .int .u8 0, .int .u8 0, .int .u8 0, .int .u8 0, .int .u8 0, .int .u8 0, .int .u8 0, .int .u8 0, .int .u8 0, .int .u8 0, .int .u8 0, .int .u8 0, .int .u8 0, .int .u8 0, .int .u8 0] 127))
     have B7 : Below w5.heap.size w5 ((w6.alloc (.cells #[.int .u8 0, .int .u8 0, .int .u8 0, .int .u8 0, .int .u8 0, .int .u8 0, .int .u8 0, .int .u8 0, .int .u8 0, .int .u8 0, .int .u8 0, .int .u8 0, .int .u8 0, .int .u8 0, .int .u8 0, .int .u8 0, .int .u8 0, .int .u8 0, .int .u8 0, .int .u8 0, .int .u8 0, .int .u8 0, .int .u8 0, .int .u8 0, .int .u8 0, .int .u8 0, .int .u8 0, .int .u8 0, .int .u8 0, .int .u8 0, .int .u8 0, .int .u8 0] 127)).setCells w6.heap.size 0 cs) := BZ.grown GB BZ.size (fun k hk => by have := Option.some.inj hk; have := B6.out.size; omega)
     clear BZ GB
     generalize ((w6.alloc (.cells #[.int .u8 0, .int .u8 0, .int .u8 0, .int .u8 0, .int .u8 0, .int .u8 0, .int .u8 0, .int .u8 0, .int .u8 0, .int .u8 0, .int .u8 0, .int .u8 0, .int .u8 0, .int .u8 0, .int .u8 0, .int .u8 0, .int .u8 0, .int .u8 0, .int .u8 0, .int .u8 0, .int .u8 0, .int .u8 0, .int .u8 0, .int .u8 0, .int .u8 0, .int .u8 0, .int .u8 0, .int .u8 0, .int .u8 0, .int .u8 0, .int .u8 0, .int .u8 0] 127)).setCells w6.heap.size 0 cs) = w7 at *
     generalize w6.heap.size = kb at *
     replace hS := Hn (hS.out.bl B7)
     have HK7 := Hn HK
     replace HT := Hn (hb_bl HT.out B7)
     clear HK
     clear B7 B6 TH OS HI HCL
     have k0 := cell_of_row w7 tb 0 _ _ (0, 0) HT.out
     have HB := HP.out
     have HV1 := vn_len kk
     have HV2 := vn_len ii
     go_upto_region 14 with (first | (go_at_call 59; refine (rNum_any kk w7 (by omega)).mono ?_; rintro e w8 ⟨v8, rfl, ho, hb⟩; obtain ⟨P8, c8b, e8, by8⟩ := own_by ho; have BY8 := Hn by8; replace hS := Hn (hS.out.bl hb); replace HT := Hn (hb_bl HT.out hb); replace HK7 := Hn (hb_bl HK7.out hb); subst e8; clear ho by8 hb) | (at_builtin; refine wpList_app_by rfl _ _ rfl w.heap.size _ B (vn kk) P8 c8b rfl rfl hS.out.1 BY8.out (by omega) hS.out.2.size ?_; intro v9 w9 ho9 hg9; have Y9 := Hn (hS.out.gr ho9 hg9); replace HT := Hn (hb_kd HT.out hS.out.1 (by decide) hg9); replace HK7 := Hn (hb_kd HK7.out hS.out.1 (by decide) hg9); clear ho9 hg9 BY8 hS k0))
     have k1 := cell_of_row w9 tb 1 _ _ (0, 0) HT.out
     go_upto_region 15 with (first | (go_at_call 59; refine (rNum_any ii w9 (by omega)).mono ?_; rintro e w10 ⟨v10, rfl, ho, hb⟩; obtain ⟨P10, c10b, e10, by10⟩ := own_by ho; have BY10 := Hn by10; replace Y9 := Hn (Y9.out.bl hb); replace HK7 := Hn (hb_bl HK7.out hb); subst e10; clear ho by10 hb HT) | (at_builtin; refine wpList_app_by rfl _ _ rfl w.heap.size _ (B ++ vn kk) (vn ii) P10 c10b rfl rfl Y9.out.1 BY10.out (by rw [List.length_append]; omega) Y9.out.2.size ?_; intro v11 w11 ho11 hg11; have Y11 := Hn (Y9.out.gr ho11 hg11); replace HK7 := Hn (hb_kd HK7.out Y9.out.1 (by decide) hg11); clear ho11 hg11 BY10 Y9 k1))
     have BK : Hid (By w11 (some ⟨kb, 0, none⟩) 32 (kb32 N)) := Hn ⟨fun e => (by cases e), fun a e j u hj => by
      obtain rfl := Option.some.inj e
      rw [HC.out] at hj
      have := cell_of_row w11 kb (0 + j) _ _ (0, 0) HK7.out
      rw [Addr.add_mid, this]
      simpa using hj⟩
     have HNl : (kb32 N).length = 32 := rfl
     go_wp2_with (at_builtin; refine wpList_app_by rfl _ _ rfl w.heap.size _ (B ++ vn kk ++ vn ii) (kb32 N) (some ⟨kb, 0, none⟩) 32 rfl rfl Y11.out.1 BK.out (by simp only [List.length_append]; omega) Y11.out.2.size ?_; intro v12 w12 ho12 hg12; have Y12 := Hn (Y11.out.gr ho12 hg12); clear ho12 hg12 BK Y11)
     have NS : Hid (Yb w v12 (prx m Kg Q i X (j + 1)) w12) := Hn (by rw [PXH.out]; exact Y12.out)
     clear Y12 HK7 HC PXH
     go_roundw
     case rel => exact ⟨j + 1, by omega, by go_num, NS⟩
     case measure => simp [intOf]; omega
    ·obtain rfl : j = X.length := by omega
     have lqj : ¬ (X.length : Int) < (X.length : Int) := by omega
     have NS : Hid (Yb w u3 (pre m Kg Q (i + 1)) wr) := Hn (by rw [← pre_succ HX.out]; exact hS.out)
     clear hS
     go_wp2_with fail
     go_roundw
     case rel => exact ⟨i + 1, by omega, by go_num, NS⟩
     case measure => simp [intOf]; omega
  ·obtain rfl : i = Q.length := by omega
   have lqi : ¬ (Q.length : Int) < (Q.length : Int) := by omega
   have FN : Hid (Yb w u3 (enB m Kg Q) wr) := Hn (by
    have e : pre m Kg Q Q.length = enB m Kg Q := by unfold pre enB; rw [List.take_length]
    rw [← e]; exact hS.out)
   clear hS
   go_wp2_with fail
   exact bodyPost_ret (v := u3) (by simp [results, Tryz.results20, go_sem]) rfl ⟨u3, rfl, FN.out⟩
end Ci
end Go.Proofs.YtghcfcglakbkeaaGreatDoor
