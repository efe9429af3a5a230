import Derived.Test.YtghcfcglakbkeaaGreatDoorCsa
namespace Go.Proofs.YtghcfcglakbkeaaGreatDoor
open Go.RowKit
set_option linter.unusedVariables false
set_option linter.unusedSimpArgs false
open Cm (Wr Tm co bf Ls lf ins Eqm)
namespace Ci
set_option maxRecDepth 100000
set_option maxHeartbeats 4000000
theorem own_gb {w1 w2 : World} {base s b : Nat} {e : TypeId} {v : Value} {n : Nat} {xs : List Value} (h : w1.ownsRow base e s v n xs) (hg : w1.grownBy w2 (some b)) (hb : b < base) : w2.ownsRow base e s v n xs := by
 refine ⟨h.1, ?_⟩
 rcases h.2 with h | ⟨g, c, cur, h1, h2, h3, h4⟩
 ·exact .inl h
 ·refine .inr ⟨g, c, cur, h1, h2, ?_, h4⟩
  rw [hg.block g (Array.getElem?_eq_some_iff.1 h3).1 (fun e => by have := Option.some.inj e; omega)]
  exact h3
structure Pb (w : World) (q : Wr) (K : E4) (v : Value) (out : List Tm) (x : World) : Prop where
 own : x.ownsRow (w.heap.size + 1) 116 6 v out.length (tls out)
 bel : Below w.heap.size w x
 sz : w.heap.size + 1 ≤ x.heap.size
 r0 : x.rangeAt w.heap.size 0 [.int .i64 q.1, .int .i64 q.2]
 r1 : x.rangeAt w.heap.size 2 [.int .u64 K.x0, .int .u64 K.x1, .int .u64 K.x2, .int .u64 K.x3]
 th : x.there w.heap.size 2 4
section
variable {w x x2 x3 : World} {q : Wr} {K r : E4} {v v3 : Value} {out : List Tm} {y : Tm}
theorem Pb.keep (h : Pb w q K v out x) (hb : Below x.heap.size x x2) : Pb w q K v out x2 :=
 ⟨own_keepT h.own hb, bl_trans h.bel hb, Nat.le_trans h.sz hb.size, range_blR h.r0 hb, range_blR h.r1 hb, there_bl h.th hb⟩
theorem Pb.app (h : Pb w q K v out x) (h2 : Below x.heap.size x x2) (hg : x2.grownBy x3 v.ownBlock) (ho : x3.ownsRow (w.heap.size + 1) 116 6 v3 (out.length + 1) (tls out ++ (tmOf y).cs)) : Pb w q K v3 (out ++ [y]) x3 := by
 have k := h.keep h2
 have ne : some w.heap.size ≠ v.ownBlock := fun e => by have := (k.own.lt _ e.symm).1; omega
 refine ⟨by rw [tls_snoc, List.length_append, List.length_singleton]; exact ho, told_bel h.bel h2 (own_monoT h.own (Nat.le_succ _)) hg, Nat.le_trans k.sz hg.size, fun j u hu => hg.cell (k.r0 j u hu) ne, fun j u hu => hg.cell (k.r1 j u hu) ne, fun j hj => ?_⟩
 obtain ⟨h1, h2⟩ := k.th j hj
 have hb := hg.block w.heap.size k.sz ne
 exact ⟨by rw [World.cell?_of_block (a := ⟨w.heap.size, 2 + j, none⟩) hb]; exact h1, by rw [World.frozen?_of_block (a := ⟨w.heap.size, 2 + j, none⟩) hb]; exact h2⟩
theorem Pb.set (h : Pb w q K v out x) (hz : ∃ wy, Below x.heap.size x wy ∧ x2 = wy.setCells w.heap.size 2 [.int .u64 r.x0, .int .u64 r.x1, .int .u64 r.x2, .int .u64 r.x3]) : Pb w q r v out x2 := by
 obtain ⟨wy, hb, rfl⟩ := hz
 have k := h.keep hb
 have hg := gb_setCells w.heap.size [.int .u64 r.x0, .int .u64 r.x1, .int .u64 r.x2, .int .u64 r.x3] 2 wy
 exact ⟨own_gb k.own hg (Nat.lt_succ_self _), k.bel.grown hg k.bel.size (fun j hj => Nat.le_of_eq (Option.some.inj hj)), Nat.le_trans k.sz hg.size, World.rangeAt_setCells_apart k.r0 _ _ _ (.inr (.inl (by simp))), World.rangeAt_setCells_same _ _ _ _ k.th, World.there_setCells k.th _ _ _⟩
theorem Pb.c0 (h : Pb w q K v out x) : x.cell? ⟨w.heap.size, 0, none⟩ = some (.int .i64 q.1) := h.r0 0 _ rfl
theorem Pb.c1 (h : Pb w q K v out x) : x.cell? ⟨w.heap.size, 1, none⟩ = some (.int .i64 q.2) := h.r0 1 _ rfl
theorem Pb.c2 (h : Pb w q K v out x) : x.cell? ⟨w.heap.size, 2, none⟩ = some (.int .u64 K.x0) := h.r1 0 _ rfl
theorem Pb.c3 (h : Pb w q K v out x) : x.cell? ⟨w.heap.size, 3, none⟩ = some (.int .u64 K.x1) := h.r1 1 _ rfl
theorem Pb.c4 (h : Pb w q K v out x) : x.cell? ⟨w.heap.size, 4, none⟩ = some (.int .u64 K.x2) := h.r1 2 _ rfl
theorem Pb.c5 (h : Pb w q K v out x) : x.cell? ⟨w.heap.size, 5, none⟩ = some (.int .u64 K.x3) := h.r1 3 _ rfl
end
theorem Pb.begin (w : World) (q : Wr) (k : E4) : Pb w q k (.slice none 0 0) [] (w.alloc (.cells #[.int .i64 q.1, .int .i64 q.2, .int .u64 k.x0, .int .u64 k.x1, .int .u64 k.x2, .int .u64 k.x3] 116)) := by
 have hc := cells_newT w [.int .i64 q.1, .int .i64 q.2, .int .u64 k.x0, .int .u64 k.x1, .int .u64 k.x2, .int .u64 k.x3] 116
 have ht := there_newM w [.int .i64 q.1, .int .i64 q.2, .int .u64 k.x0, .int .u64 k.x1, .int .u64 k.x2, .int .u64 k.x3] 116
 refine ⟨World.ownsRow_nil _ _ _ _, bl_alloc w _, by simp, fun j u hu => ?_, fun j u hu => ?_, fun j hj => ?_⟩
 ·match j, hu with
  | 0, hu => exact hc 0 u hu
  | 1, hu => exact hc 1 u hu
 ·match j, hu with
  | 0, hu => exact hc 2 u hu
  | 1, hu => exact hc 3 u hu
  | 2, hu => exact hc 4 u hu
  | 3, hu => exact hc 5 u hu
 ·have := ht (2 + j) (by simp; omega)
  simpa using this
def Rs (dn : Bool) (X : List Tm) (i : Nat) (t : Tm) : List Tm := if dn then X.drop i else ins Sm.L (X.drop i) t
theorem Rs.done {X : List Tm} {i : Nat} {x t : Tm} (h : X[i]? = some x) (out R : List Tm) (e : out ++ Rs true X i t = R) : (out ++ [x]) ++ Rs true X (i + 1) t = R := by
 rw [← e]
 obtain ⟨hi, rfl⟩ := List.getElem?_eq_some_iff.1 h
 simp only [Rs, if_true, List.drop_eq_getElem_cons hi, List.append_assoc, List.singleton_append]
theorem Rs.same0 {X : List Tm} {i : Nat} {x t : Tm} (h : X[i]? = some x) (hq : x.1 = t.1) (hz : (x.2 + t.2) % Sm.L = 0) (out R : List Tm) (e : out ++ Rs false X i t = R) : out ++ Rs true X (i + 1) t = R := by
 rw [← e]
 obtain ⟨hi, rfl⟩ := List.getElem?_eq_some_iff.1 h
 simp only [Rs, if_true, Bool.false_eq_true, if_false, List.drop_eq_getElem_cons hi, ins, if_pos hq, if_pos hz]
theorem Rs.same1 {X : List Tm} {i : Nat} {x t : Tm} (h : X[i]? = some x) (hq : x.1 = t.1) (hz : ¬ (x.2 + t.2) % Sm.L = 0) (out R : List Tm) (e : out ++ Rs false X i t = R) : (out ++ [(t.1, (x.2 + t.2) % Sm.L)]) ++ Rs true X (i + 1) t = R := by
 rw [← e]
 obtain ⟨hi, rfl⟩ := List.getElem?_eq_some_iff.1 h
 simp only [Rs, if_true, Bool.false_eq_true, if_false, List.drop_eq_getElem_cons hi, ins, if_pos hq, if_neg hz, List.append_assoc, List.singleton_append]
theorem Rs.bef0 {X : List Tm} {i : Nat} {x t : Tm} (h : X[i]? = some x) (hq : ¬ x.1 = t.1) (hb : bf t.1 x.1 = true) (hz : t.2 % Sm.L = 0) (out R : List Tm) (e : out ++ Rs false X i t = R) : (out ++ [x]) ++ Rs true X (i + 1) t = R := by
 rw [← e]
 obtain ⟨hi, rfl⟩ := List.getElem?_eq_some_iff.1 h
 simp only [Rs, if_true, Bool.false_eq_true, if_false, List.drop_eq_getElem_cons hi, ins, if_neg hq, if_pos hb, if_pos hz, List.append_assoc, List.singleton_append]
theorem Rs.bef1 {X : List Tm} {i : Nat} {x t : Tm} (h : X[i]? = some x) (hq : ¬ x.1 = t.1) (hb : bf t.1 x.1 = true) (hz : ¬ t.2 % Sm.L = 0) (out R : List Tm) (e : out ++ Rs false X i t = R) : ((out ++ [(t.1, t.2 % Sm.L)]) ++ [x]) ++ Rs true X (i + 1) t = R := by
 rw [← e]
 obtain ⟨hi, rfl⟩ := List.getElem?_eq_some_iff.1 h
 simp only [Rs, if_true, Bool.false_eq_true, if_false, List.drop_eq_getElem_cons hi, ins, if_neg hq, if_pos hb, if_neg hz, List.append_assoc, List.singleton_append, List.cons_append, List.nil_append]
theorem Rs.aft {X : List Tm} {i : Nat} {x t : Tm} (h : X[i]? = some x) (hq : ¬ x.1 = t.1) (hb : bf t.1 x.1 = false) (out R : List Tm) (e : out ++ Rs false X i t = R) : (out ++ [x]) ++ Rs false X (i + 1) t = R := by
 rw [← e]
 obtain ⟨hi, rfl⟩ := List.getElem?_eq_some_iff.1 h
 simp only [Rs, Bool.false_eq_true, if_false, List.drop_eq_getElem_cons hi, ins, if_neg hq, hb, List.append_assoc, List.singleton_append]
theorem Rs.end1 {X : List Tm} {t : Tm} (out R : List Tm) (e : out ++ Rs true X X.length t = R) : out = R := by
 rw [← e]; simp [Rs]
theorem Rs.end0 {X : List Tm} {t : Tm} (hz : t.2 % Sm.L = 0) (out R : List Tm) (e : out ++ Rs false X X.length t = R) : out = R := by
 rw [← e]; simp [Rs, ins, hz]
theorem Rs.endt {X : List Tm} {t : Tm} (hz : ¬ t.2 % Sm.L = 0) (out R : List Tm) (e : out ++ Rs false X X.length t = R) : out ++ [(t.1, t.2 % Sm.L)] = R := by
 rw [← e]; simp [Rs, ins, hz]
theorem tm_mod (q : Wr) (m : Int) : tmOf (q, m % Sm.L) = ⟨q, lst m⟩ := by
 unfold tmOf
 rw [show lst (m % Sm.L) = lst m from lst_congr (by rw [Int.emod_emod_of_dvd _ (Int.dvd_refl _)])]
def Dl (w : World) (X : List Tm) (v : Value) (w' : World) : Prop := w'.ownsRow w.heap.size 116 6 v X.length (tls X) ∧ Below w.heap.size w w'
end Ci
end Go.Proofs.YtghcfcglakbkeaaGreatDoor
namespace Go.Proofs.YtghcfcglakbkeaaGreatDoor
set_option maxRecDepth 100000
set_option maxHeartbeats 4000000
open Go.RowKit
theorem requal (a b : E4) (w : World) : (Op.equalIn 10000 52 a.v b.v).run Tryz.prog w = .ok (a.same b) w := by
 have hi : Tryz.prog.info? 39 = some (Tryz.prog.info? 39).get! := by kernel_rfl
 have hc : Tryz.prog.cellsOf 39 = 1 := by kernel_rfl
 unfold E4.v
 rw [run_equalIn_array w 9999 _ _ (by kernel_rfl : Tryz.prog.underlying 52 = some (.array 4 39)) hi, hc]
 rw [eqItems_ints w (k := .u64) 9998 (by kernel_rfl) (by kernel_rfl) _ _ (fun i => [a.x0, a.x1, a.x2, a.x3].getD i 0) (fun i => [b.x0, b.x1, b.x2, b.x3].getD i 0)]
 ·rw [show List.range 4 = [0, 1, 2, 3] from rfl]
  simp only [List.all_cons, List.all_nil, Bool.and_true]
  rfl
 ·intro i hi
  have : i < 4 := List.mem_range.1 hi
  match i, this with
  | 0, _ => exact ⟨rfl, rfl⟩
  | 1, _ => exact ⟨rfl, rfl⟩
  | 2, _ => exact ⟨rfl, rfl⟩
  | 3, _ => exact ⟨rfl, rfl⟩
theorem rIsZero_any (a : E4) (w : World) :
  Calls Tryz.prog 82 #[a.v] w fun e w' => e = .returned (.bool (a.same zero4)) ∧ Below w.heap.size w w' := by
 have hq := fun w => requal a zero4 w
 simp only [E4.v] at hq ⊢
 generalize hB : a.same zero4 = B at hq
 simp only [zero4] at hq
 go_enter Tryz.func82, Tryz.ntmps82
 go_wp2_with fail
 refine bodyPost_ret (v := .bool B) (by simp [results, Tryz.results82, go_sem]) rfl ⟨rfl, ?_⟩
 exact bl_alloc w _
end Go.Proofs.YtghcfcglakbkeaaGreatDoor
namespace Go.Proofs.YtghcfcglakbkeaaGreatDoor
open Go.RowKit
set_option maxRecDepth 100000 in
set_option maxHeartbeats 8000000 in
theorem rNeg_any (n : Int) (w : World) :
  Calls Tryz.prog 90 #[(lst n).v] w fun e w' => e = .returned (lst (-n)).v ∧ Below w.heap.size w w' := by
 obtain ⟨a, hA⟩ : ∃ t : E4, lst n = t := ⟨_, rfl⟩
 obtain ⟨t, hR⟩ : ∃ t : E4, lst (-n) = t := ⟨_, rfl⟩
 have ha : a.ok := by rw [← hA]; exact lst_ok _
 have an : a.n = n % Sm.L := by rw [← hA]; exact lst_n n
 obtain ⟨a0, a1⟩ := mod_bd n
 have iz := Hn (fun w => rIsZero_any a w)
 obtain ⟨B, hBB⟩ : ∃ B, a.same zero4 = B := ⟨_, rfl⟩
 rw [hBB] at iz
 have rl := Hn rl_any
 have lo : B = true → a = t := fun h => by
  have h1 := (E4.same_iff a zero4).1 (hBB.trans h)
  have h2 : n % Sm.L = 0 := by rw [← an, h1]; rfl
  rw [h1, ← hR, ← zero_lst]
  exact lst_congr (by rw [Int.neg_emod_eq_sub_emod, Int.sub_emod, h2]; decide)
 obtain ⟨cz, hcz⟩ : ∃ cz : Int, B = false → ∀ w, Calls Tryz.prog 94 #[lE.v, a.v] w fun e w' => e = .returned (.tuple #[t.v, .int .u64 cz]) ∧ Below w.heap.size w w' := ⟨_, fun h w => by
  have k := rminus_any lE a w lE_ok ha
  have hne : n % Sm.L ≠ 0 := fun h0 => by
   have h1 : a = zero4 := by rw [← hA]; exact (zero_is n).2 h0
   rw [h1, E4.same_self] at hBB
   rw [← hBB] at h
   exact Bool.noConfusion h
  have e1 : limE (lE.n - a.n) = t := by
   rw [lE_n, an, limE_small _ (by omega) (by omega), ← hR]
   exact lst_congr (by rw [Int.sub_emod, Int.emod_self, emod_emod_L, Int.zero_sub, Int.neg_emod_eq_sub_emod, Int.sub_emod, Int.emod_self, emod_emod_L, Int.neg_emod_eq_sub_emod, Int.sub_emod Sm.L n, Int.emod_self])
  rw [e1] at k
  exact k⟩
 have mi := Hn hcz
 have LO := Hn lo
 have s0 := (St.start w a 52).room 52
 simp only [World.size_alloc] at s0
 have S0 := Hn s0
 rw [hA, hR]
 clear s0 hA hR ha an a0 a1 hBB lo hcz
 simp only [E4.v, lE] at iz rl mi ⊢
 go_enter Tryz.func90, Tryz.ntmps90
 go_upto_region 1 with fail
 generalize ((w.alloc (.cells #[.int .u64 a.x0, .int .u64 a.x1, .int .u64 a.x2, .int .u64 a.x3] 52)).alloc (.cells #[.int .u64 0, .int .u64 0, .int .u64 0, .int .u64 0] 52)) = wB at S0 ⊢
 have x0 := (S0.out.live (w.heap.size, a) (by simp)).c0
 have x1 := (S0.out.live (w.heap.size, a) (by simp)).c1
 have x2 := (S0.out.live (w.heap.size, a) (by simp)).c2
 have x3 := (S0.out.live (w.heap.size, a) (by simp)).c3
 go_wp2_with fail
 refine (iz.out _).mono ?_
 rintro e w1 ⟨rfl, hb1⟩
 have S1 := Hn (S0.out.keep hb1)
 clear x0 x1 x2 x3 hb1 S0 iz
 cases B with
 | true =>
  have hst := LO.out rfl
  subst hst
  clear mi rl
  have x0 := (S1.out.live (w.heap.size, a) (by simp)).c0
  have x1 := (S1.out.live (w.heap.size, a) (by simp)).c1
  have x2 := (S1.out.live (w.heap.size, a) (by simp)).c2
  have x3 := (S1.out.live (w.heap.size, a) (by simp)).c3
  have d0 := (S1.out.live (w.heap.size + 1, zero4) (by simp)).c0
  have d1 := (S1.out.live (w.heap.size + 1, zero4) (by simp)).c1
  have d2 := (S1.out.live (w.heap.size + 1, zero4) (by simp)).c2
  have d3 := (S1.out.live (w.heap.size + 1, zero4) (by simp)).c3
  obtain ⟨f0, f1, f2, f3⟩ := (S1.out.wrt (w.heap.size + 1) (by simp)).1
  go_wp2_with fail
  refine bodyPost_ret (v := .agg #[.int .u64 a.x0, .int .u64 a.x1, .int .u64 a.x2, .int .u64 a.x3]) (by simp [results, Tryz.results90, go_sem, d0, d1, d2, d3]) rfl ⟨rfl, ?_⟩
  exact set4_below _ _ _ S1.out.bel (by omega)
 | false =>
  have mi2 := Hn (mi.out rfl)
  clear mi LO
  go_upto_region 3 with fail
  go_cut [3, 4] (fun vx vy wx => ∃ P : Nat, vx = .pointer (some ⟨P, 0, none⟩) ∧ w.heap.size + 1 < P ∧ (∃ z : Value, vy = z) ∧ St w [(P, t), (w.heap.size + 1, zero4)] [w.heap.size + 1] wx)
  case first =>
   have SD := S1.out.drew
   have hl1 := (S1.out.live (w.heap.size + 1, zero4) (by simp)).lt
   have x0 := (SD.live (w.heap.size, a) (by simp)).c0
   have x1 := (SD.live (w.heap.size, a) (by simp)).c1
   have x2 := (SD.live (w.heap.size, a) (by simp)).c2
   have x3 := (SD.live (w.heap.size, a) (by simp)).c3
   have xa0 : ∀ o, (w1.alloc o).drew.cell? ⟨w.heap.size, 0, none⟩ = some (.int .u64 a.x0) := fun o => ((S1.out.keep (bl_alloc _ o)).drew.live (w.heap.size, a) (by simp)).c0
   have xa1 : ∀ o, (w1.alloc o).drew.cell? ⟨w.heap.size, 1, none⟩ = some (.int .u64 a.x1) := fun o => ((S1.out.keep (bl_alloc _ o)).drew.live (w.heap.size, a) (by simp)).c1
   have xa2 : ∀ o, (w1.alloc o).drew.cell? ⟨w.heap.size, 2, none⟩ = some (.int .u64 a.x2) := fun o => ((S1.out.keep (bl_alloc _ o)).drew.live (w.heap.size, a) (by simp)).c2
   have xa3 : ∀ o, (w1.alloc o).drew.cell? ⟨w.heap.size, 3, none⟩ = some (.int .u64 a.x3) := fun o => ((S1.out.keep (bl_alloc _ o)).drew.live (w.heap.size, a) (by simp)).c3
   have SA := (S1.out.room 52).drew
   clear S1
   go_region_with (first | (go_at_call 93; with_reducible refine (rl.out _).mono ?_; rintro e wm ⟨rfl, hb⟩; have SL := St.keep (by first | assumption | exact St.room (by assumption) _) hb; have hl2 := (SL.live (w.heap.size + 1, zero4) (by simp)).lt; have y0 := (SL.live (w.heap.size, a) (by simp)).c0; have y1 := (SL.live (w.heap.size, a) (by simp)).c1; have y2 := (SL.live (w.heap.size, a) (by simp)).c2; have y3 := (SL.live (w.heap.size, a) (by simp)).c3;have ya0 : ∀ o, (wm.alloc o).cell? ⟨w.heap.size, 0, none⟩ = some (.int .u64 a.x0) := fun o => ((SL.keep (bl_alloc _ o)).live (w.heap.size, a) (by simp)).c0; have ya1 : ∀ o, (wm.alloc o).cell? ⟨w.heap.size, 1, none⟩ = some (.int .u64 a.x1) := fun o => ((SL.keep (bl_alloc _ o)).live (w.heap.size, a) (by simp)).c1; have ya2 : ∀ o, (wm.alloc o).cell? ⟨w.heap.size, 2, none⟩ = some (.int .u64 a.x2) := fun o => ((SL.keep (bl_alloc _ o)).live (w.heap.size, a) (by simp)).c2; have ya3 : ∀ o, (wm.alloc o).cell? ⟨w.heap.size, 3, none⟩ = some (.int .u64 a.x3) := fun o => ((SL.keep (bl_alloc _ o)).live (w.heap.size, a) (by simp)).c3; clear hb) | (go_at_call 94; with_reducible refine (mi2.out _).mono ?_; rintro e wn ⟨rfl, hb⟩; have SM := St.keep (by first | assumption | exact St.room (by assumption) _) hb; have hl3 := (SM.live (w.heap.size + 1, zero4) (by simp)).lt; have z0 := (SM.live _ (List.Mem.head _)).c0; have z1 := (SM.live _ (List.Mem.head _)).c1; have z2 := (SM.live _ (List.Mem.head _)).c2; have z3 := (SM.live _ (List.Mem.head _)).c3; have zf := (SM.wrt _ (List.Mem.head _)).1; obtain ⟨f0, f1, f2, f3⟩ := zf; clear hb))
   all_goals
    go_wp2_with fail
    go_meet
    first | exact ⟨_, rfl, by first | exact hl3 | exact hl2 | exact hl1, ⟨_, rfl⟩, St.less (SM.roomR t _) (by simp) (by simp)⟩ | exact ⟨_, rfl, by first | exact hl2 | exact hl1, ⟨_, rfl⟩, St.less (M := [(_, t), (w.heap.size + 1, zero4)]) (Q := [w.heap.size + 1]) (SM.set (M := [(w.heap.size + 1, zero4)]) t (List.Mem.head _) (by omega) (by first | (simp; omega) | simp)) (by simp) (by simp)⟩
  case rest =>
  obtain ⟨P, rfl, hP, ⟨z, rfl⟩, s3⟩ := hcut
  have S3 := Hn s3
  clear s3 S1 mi2 rl
  have x0 := (S3.out.live (P, t) (by simp)).c0
  have x1 := (S3.out.live (P, t) (by simp)).c1
  have x2 := (S3.out.live (P, t) (by simp)).c2
  have x3 := (S3.out.live (P, t) (by simp)).c3
  have d0 := (S3.out.live (w.heap.size + 1, zero4) (by simp)).c0
  have d1 := (S3.out.live (w.heap.size + 1, zero4) (by simp)).c1
  have d2 := (S3.out.live (w.heap.size + 1, zero4) (by simp)).c2
  have d3 := (S3.out.live (w.heap.size + 1, zero4) (by simp)).c3
  obtain ⟨f0, f1, f2, f3⟩ := (S3.out.wrt (w.heap.size + 1) (by simp)).1
  go_wp2_with fail
  refine bodyPost_ret (v := .agg #[.int .u64 t.x0, .int .u64 t.x1, .int .u64 t.x2, .int .u64 t.x3]) (by simp [results, Tryz.results90, go_sem, d0, d1, d2, d3]) rfl ⟨rfl, ?_⟩
  exact set4_below _ _ _ S3.out.bel (by omega)
end Go.Proofs.YtghcfcglakbkeaaGreatDoor
