import Derived.Test.YthngomhhafoamaaGreatDoorCeq
set_option linter.unusedVariables false
set_option linter.unusedSimpArgs false
set_option maxRecDepth 100000
set_option maxHeartbeats 8000000
namespace Go.Proofs.YthngomhhafoamaaGreatDoor
open Go.RowKit
open Cm (Wr Tm co bf Ls lf ins Eqm)
namespace Ci
def f5 : Nat → Trm := ft [((5, 0), 1)]
def lvT : List Tm := lf Sm.L (glM (lst 3) 1 (ft [((5, 0), 1)]))
def lvC : List Tm := lf Sm.L (glM (lst 12) 1 oneT)
def lvD : List Tm := lf Sm.L (glL lvT.length (ft lvT) ++ glN lvC.length (ft lvC))
def lvX : List Tm := lf Sm.L (glL lvD.length (ft lvD))
theorem lvT_ls : Ls Sm.L lvT := Cm.lf_ls L0 _
theorem lvC_ls : Ls Sm.L lvC := Cm.lf_ls L0 _
theorem lvD_ls : Ls Sm.L lvD := Cm.lf_ls L0 _
theorem lst_small {n : Int} (h0 : 0 ≤ n) (h1 : n < 1000) : (lst n).n = n := by
 rw [lst_n, Int.emod_eq_of_lt h0 (Int.lt_trans h1 (by decide))]
theorem glM1 (k : E4) (q : Wr) : glM k 1 (ft [(q, 1)]) = [(q, k.n)] := by
 have h1 : (lst 1).n = 1 := lst_small (by omega) (by omega)
 simp [glM, ft, tmOf, List.range_succ, h1]
theorem glM1o (k : E4) : glM k 1 oneT = [((1, 0), k.n)] := by
 have h1 : (lst 1).n = 1 := lst_small (by omega) (by omega)
 simp [glM, oneT, List.range_succ, h1]
theorem vlT (N : Nat → Sl) : vl N lvT % Sm.L = 3 * (nw N (5, 0)).n % Sm.L := by
 unfold lvT
 rw [vl_lf, glM1, lst_small (by omega) (by omega)]
 simp [vl]
theorem vlC (N : Nat → Sl) : vl N lvC % Sm.L = 12 * (nw N (1, 0)).n % Sm.L := by
 unfold lvC
 rw [vl_lf, glM1o, lst_small (by omega) (by omega)]
 simp [vl]
theorem vlX (N : Nat → Sl) : vl N lvX % Sm.L = (3 * (nw N (5, 0)).n - 12 * (nw N (1, 0)).n) % Sm.L := by
 unfold lvX
 rw [vl_lf, glft_ls lvD_ls]
 unfold lvD
 rw [vl_lf, vl_app, vl_neg, glft_ls lvT_ls, glft_ls lvC_ls, ← Int.sub_eq_add_neg, Int.sub_emod, vlT, vlC, ← Int.sub_emod]
theorem lvT_wire {x : Tm} (hx : x ∈ lvT) : x.1 = (5, 0) := by
 obtain ⟨y, hy, e⟩ := lf_mem hx
 rw [glM1] at hy
 rw [e, List.mem_singleton.1 hy]
theorem lvC_wire {x : Tm} (hx : x ∈ lvC) : x.1 = (1, 0) := by
 obtain ⟨y, hy, e⟩ := lf_mem hx
 rw [glM1o] at hy
 rw [e, List.mem_singleton.1 hy]
theorem lvX_wire {x : Tm} (hx : x ∈ lvX) : x.1 = (5, 0) ∨ x.1 = (1, 0) := by
 obtain ⟨y, hy, e⟩ := lf_mem hx
 rw [glft_ls lvD_ls] at hy
 obtain ⟨z, hz, e2⟩ := lf_mem hy
 rw [e, e2]
 rcases List.mem_append.1 hz with h | h
 ·rw [glft_ls lvT_ls] at h
  exact .inl (lvT_wire h)
 ·right
  obtain ⟨k, hk, e3⟩ := List.mem_map.1 h
  have hk2 := List.mem_range.1 hk
  rw [← e3]
  show (ft lvC k).q = (1, 0)
  rw [ft_get hk2]
  exact lvC_wire (List.getElem_mem hk2)
theorem lvT_len : lvT.length ≤ 1 := by have := lf_lenC (glM (lst 3) 1 (ft [((5, 0), 1)])); rw [glM1] at this; unfold lvT; rw [glM1]; exact this
theorem lvC_len : lvC.length ≤ 1 := by have := lf_lenC (glM (lst 12) 1 oneT); rw [glM1o] at this; unfold lvC; rw [glM1o]; exact this
theorem lvD_len : lvD.length ≤ 2 := by
 have := lf_lenC (glL lvT.length (ft lvT) ++ glN lvC.length (ft lvC))
 rw [List.length_append, glL_l, glN_l] at this
 have := lvT_len
 have := lvC_len
 unfold lvD
 omega
theorem lvX_len : lvX.length ≤ 2 := by
 have := lf_lenC (glL lvD.length (ft lvD))
 rw [glL_l] at this
 have := lvD_len
 unfold lvX
 omega
theorem lvX_nm : nm 1 1 lvX.length (ft lvX) = true := nm_true (fun x hx => by rcases lvX_wire hx with e | e <;> rw [e] <;> decide)
theorem lvW : Wk 1 1 (enl 1 ++ [lvX]) := by
 have h1 : Wk 1 1 (enl 1) := by
  refine ⟨fun X hX x hx => ?_, fun X hX => ?_, by simp [enl], by omega, ⟨[], by rw [List.append_nil]⟩, Nat.le_refl _⟩
  ·have e : X = enX 0 := by simpa [enl] using hX
   subst e
   obtain ⟨y, hy, e⟩ := lf_mem hx
   rw [e]
   rcases List.mem_append.1 hy with h | h
   ·have : y = ((2, 0), (lst 1).n) := by simpa [glL, cst, List.range_succ] using h
    rw [this]; decide
   ·have : y = ((5, 0), -(lst 1).n) := by simpa [glN, cst, List.range_succ] using h
    rw [this]; decide
  ·have e : X = enX 0 := by simpa [enl] using hX
   subst e
   have := lf_lenC (glL 1 (cst (2, 0)) ++ glN 1 (cst (5, 0)))
   rw [List.length_append, glL_l, glN_l] at this
   unfold enX
   omega
 exact h1.req lvX_nm (by have := lvX_len; omega) (by simp [enl])
def one4s (b : Nat) (a : E4) : Sl := ⟨some ⟨b, 0, none⟩, 1, 1, fun _ => a⟩
theorem one4s_at {w : World} {b : Nat} {a : E4} (h : w.rangeAt b 0 [.int .u64 a.x0, .int .u64 a.x1, .int .u64 a.x2, .int .u64 a.x3]) (ok : a.ok) : (one4s b a).at w := by
 have key : ∀ k, k < 1 → k = 0 := fun k hk => by omega
 refine ⟨⟨b, 0, fun _ => rfl, fun _ => ⟨fun k hk => ?_, fun k hk => ?_, fun k hk => ?_, fun k hk => ?_⟩⟩, fun k hk => ok⟩
 ·obtain rfl := key k hk; exact h 0 _ rfl
 ·obtain rfl := key k hk; exact h 1 _ rfl
 ·obtain rfl := key k hk; exact h 2 _ rfl
 ·obtain rfl := key k hk; exact h 3 _ rfl
theorem vl_enX (N : Nat → Sl) : vl N (enX 0) % Sm.L = ((nw N (2, 0)).n - (nw N (5, 0)).n) % Sm.L := by
 unfold enX
 rw [vl_lf, vl_app, vl_neg]
 have h1 : (lst 1).n = 1 := lst_small (by omega) (by omega)
 simp [glL, cst, List.range_succ, vl, h1, Int.sub_eq_add_neg]
theorem zs_two (N : Nat → Sl) : zsB N (enl 1 ++ [lvX]) = (decide (((nw N (2, 0)).n - (nw N (5, 0)).n) % Sm.L = 0) && decide ((3 * (nw N (5, 0)).n - 12 * (nw N (1, 0)).n) % Sm.L = 0)) := by
 have e1 : (es N (ft (enX 0)) (enX 0).length).n % Sm.L = ((nw N (2, 0)).n - (nw N (5, 0)).n) % Sm.L := by
  rw [es_vl N (X := enX 0) (Cm.lf_ls L0 _), lst_n, Int.emod_emod_of_dvd _ (Int.dvd_refl _)]
  exact vl_enX N
 have e2 : (es N (ft lvX) lvX.length).n % Sm.L = (3 * (nw N (5, 0)).n - 12 * (nw N (1, 0)).n) % Sm.L := by
  rw [es_vl N (X := lvX) (Cm.lf_ls L0 _), lst_n, Int.emod_emod_of_dvd _ (Int.dvd_refl _)]
  exact vlX N
 unfold zsB
 simp only [enl, List.nil_append, List.cons_append, List.all_cons, List.all_nil, Bool.and_true]
 rw [show ((0 : Nat) : Int) = 0 from rfl, e1, e2]
theorem ho_good (b1 b2 b3 b4 : Nat) : hoE (one4s b1 (lst 4)) (one4s b2 (lst 5)) (one4s b3 (lst 20)) (one4s b4 (lst 4)) 1 1 (enl 1 ++ [lvX]) = 0 := by
 have f1 : ftB (nms 0 (one4s b1 (lst 4)) (one4s b2 (lst 5)) (one4s b3 (lst 20)) (one4s b4 (lst 4))) 1 1 = true := by rfl
 have f2 : mlB (one4s b1 (lst 4)) (one4s b2 (lst 5)) (one4s b3 (lst 20)) = true := by
  rw [mlB_iff]
  intro k _
  show (lst 4).n * (lst 5).n % Sm.L = (lst 20).n % Sm.L
  rw [lst_small (by omega) (by omega), lst_small (by omega) (by omega), lst_small (by omega) (by omega)]
  rfl
 unfold hoE
 rw [if_pos f1, if_pos f2, zs_two]
 rw [show nw (nms 0 (one4s b1 (lst 4)) (one4s b2 (lst 5)) (one4s b3 (lst 20)) (one4s b4 (lst 4))) (2, 0) = lst 4 from rfl, show nw (nms 0 (one4s b1 (lst 4)) (one4s b2 (lst 5)) (one4s b3 (lst 20)) (one4s b4 (lst 4))) (5, 0) = lst 4 from rfl, show nw (nms 0 (one4s b1 (lst 4)) (one4s b2 (lst 5)) (one4s b3 (lst 20)) (one4s b4 (lst 4))) (1, 0) = lst 1 from rfl]
 rw [lst_small (n := 4) (by omega) (by omega), lst_small (n := 1) (by omega) (by omega)]
 decide
theorem ho_bad (b1 b2 b3 b4 : Nat) : hoE (one4s b1 (lst 5)) (one4s b2 (lst 5)) (one4s b3 (lst 25)) (one4s b4 (lst 5)) 1 1 (enl 1 ++ [lvX]) = 203 := by
 have f1 : ftB (nms 0 (one4s b1 (lst 5)) (one4s b2 (lst 5)) (one4s b3 (lst 25)) (one4s b4 (lst 5))) 1 1 = true := by rfl
 have f2 : mlB (one4s b1 (lst 5)) (one4s b2 (lst 5)) (one4s b3 (lst 25)) = true := by
  rw [mlB_iff]
  intro k _
  show (lst 5).n * (lst 5).n % Sm.L = (lst 25).n % Sm.L
  rw [lst_small (by omega) (by omega), lst_small (by omega) (by omega)]
  rfl
 unfold hoE
 rw [if_pos f1, if_pos f2, zs_two]
 rw [show nw (nms 0 (one4s b1 (lst 5)) (one4s b2 (lst 5)) (one4s b3 (lst 25)) (one4s b4 (lst 5))) (2, 0) = lst 5 from rfl, show nw (nms 0 (one4s b1 (lst 5)) (one4s b2 (lst 5)) (one4s b3 (lst 25)) (one4s b4 (lst 5))) (5, 0) = lst 5 from rfl, show nw (nms 0 (one4s b1 (lst 5)) (one4s b2 (lst 5)) (one4s b3 (lst 25)) (one4s b4 (lst 5))) (1, 0) = lst 1 from rfl]
 rw [lst_small (n := 5) (by omega) (by omega), lst_small (n := 1) (by omega) (by omega)]
 decide
theorem live_any (w : World) (hT : Tb w) : Calls Tryz.prog 4 #[] w fun e w' => e = .returned (.bool true) ∧ Below w.heap.size w w' := by
 have C1 : Hid (Calls Tryz.prog 16 #[.int .i64 1] w fun e w' => e = .returned (.tuple #[.pointer (some ⟨w.heap.size, 0, none⟩), .int .i64 0]) ∧ Nu w w.heap.size 1 1 w') := Hn (New_any 1 w hT (by omega))
 obtain ⟨k3, h3⟩ : ∃ k, lst 3 = k := ⟨_, rfl⟩
 have ok3 : k3.ok := h3 ▸ lst_ok _
 have I3 := fun y => fix (R := lst 3) (Int_any 3 y (by unfold Sm.Wd; omega)) rfl
 rw [h3] at I3
 simp only [E4.v] at I3
 replace I3 := Hn I3
 have OK3 := Hn ok3
 have EQ3 := Hn h3
 clear ok3 h3
 obtain ⟨k12, h12⟩ : ∃ k, lst 12 = k := ⟨_, rfl⟩
 have ok12 : k12.ok := h12 ▸ lst_ok _
 have I12 := fun y => fix (R := lst 12) (Int_any 12 y (by unfold Sm.Wd; omega)) rfl
 rw [h12] at I12
 simp only [E4.v] at I12
 replace I12 := Hn I12
 have OK12 := Hn ok12
 have EQ12 := Hn h12
 clear ok12 h12
 obtain ⟨k4, h4⟩ : ∃ k, lst 4 = k := ⟨_, rfl⟩
 have ok4 : k4.ok := h4 ▸ lst_ok _
 have I4 := fun y => fix (R := lst 4) (Int_any 4 y (by unfold Sm.Wd; omega)) rfl
 rw [h4] at I4
 simp only [E4.v] at I4
 replace I4 := Hn I4
 have OK4 := Hn ok4
 have EQ4 := Hn h4
 clear ok4 h4
 obtain ⟨k5, h5⟩ : ∃ k, lst 5 = k := ⟨_, rfl⟩
 have ok5 : k5.ok := h5 ▸ lst_ok _
 have I5 := fun y => fix (R := lst 5) (Int_any 5 y (by unfold Sm.Wd; omega)) rfl
 rw [h5] at I5
 simp only [E4.v] at I5
 replace I5 := Hn I5
 have OK5 := Hn ok5
 have EQ5 := Hn h5
 clear ok5 h5
 obtain ⟨k20, h20⟩ : ∃ k, lst 20 = k := ⟨_, rfl⟩
 have ok20 : k20.ok := h20 ▸ lst_ok _
 have I20 := fun y => fix (R := lst 20) (Int_any 20 y (by unfold Sm.Wd; omega)) rfl
 rw [h20] at I20
 simp only [E4.v] at I20
 replace I20 := Hn I20
 have OK20 := Hn ok20
 have EQ20 := Hn h20
 clear ok20 h20
 obtain ⟨k25, h25⟩ : ∃ k, lst 25 = k := ⟨_, rfl⟩
 have ok25 : k25.ok := h25 ▸ lst_ok _
 have I25 := fun y => fix (R := lst 25) (Int_any 25 y (by unfold Sm.Wd; omega)) rfl
 rw [h25] at I25
 simp only [E4.v] at I25
 replace I25 := Hn I25
 have OK25 := Hn ok25
 have EQ25 := Hn h25
 clear ok25 h25
 have HT := Hn hT
 have CO := Hn (fun y => Of_any (5, 0) y)
 simp only at CO
 clear hT
 go_enter Tryz.func4, Tryz.ntmps4
 go_upto_region 4 with (go_at_call 16; refine C1.out.mono ?_; rintro e w1 ⟨rfl, Pv, cv, vs, sy, hb⟩; have SY1 := Hn sy; have B1 := Hn hb; clear sy hb C1)
 go_upto_region 5 with (go_at_call 17; refine (CO.out _).mono ?_; rintro e w2 ⟨v, rfl, hq⟩; obtain ⟨P, c, rfl, _⟩ := own_shT hq.1; have LT2 := Hn (own_lts hq.1); have B2 := Hn (bl_trans B1.out hq.2.1); have SY2 := Hn (SY1.out.keep hq.2.1); clear hq CO SY1 B1)
 have CT : Hid (∀ y, Below w2.heap.size w2 y → Calls Tryz.prog 19 #[.slice P 1 c, .agg #[.int .u64 k3.x0, .int .u64 k3.x1, .int .u64 k3.x2, .int .u64 k3.x3]] y fun e w' => ∃ v, e = .returned v ∧ Lq y lvT v w') := Hn (fun y hb => (Times_any P 1 c (ft [((5, 0), 1)]) k3 y (HT.out.keep (bl_trans B2.out hb)) (by omega) OK3.out (fun k hk => lst_ok _) (LT2.out.keep hb)).mono fun e w' h => by rw [← EQ3.out] at h; exact h)
 have CC : Hid (∀ y, Below w.heap.size w y → Calls Tryz.prog 21 #[.agg #[.int .u64 k12.x0, .int .u64 k12.x1, .int .u64 k12.x2, .int .u64 k12.x3]] y fun e w' => ∃ v, e = .returned v ∧ Lq y lvC v w') := Hn (fun y hb => (Const_any k12 y (HT.out.keep hb) OK12.out).mono fun e w' h => by rw [← EQ12.out] at h; exact h)
 go_upto_region 6 with (first | (have _t := I3; go_at_call 9; refine (I3.out _).mono ?_; rintro e w3 ⟨rfl, hb⟩; have D3 := Hn hb; clear hb I3) | (have _t := CT; go_at_call 19; refine (CT.out _ D3.out).mono ?_; rintro e w4 ⟨v, rfl, hq⟩; obtain ⟨PT, cT, rfl, _⟩ := own_shT hq.1; have LT4 := Hn (own_lts hq.1); have D4 := Hn (bl_trans D3.out hq.2.1); clear hq CT) | (have _t := I12; go_at_call 9; refine (I12.out _).mono ?_; rintro e w5 ⟨rfl, hb⟩; have D5 := Hn (bl_trans D4.out hb); have LT5 := Hn (LT4.out.keep hb); clear hb I12) | (have _t := CC; go_at_call 21; refine (CC.out _ (bl_trans B2.out D5.out)).mono ?_; rintro e w6 ⟨v, rfl, hq⟩; obtain ⟨PC, cC, rfl, _⟩ := own_shT hq.1; have LC6 := Hn (own_lts hq.1); have LT6 := Hn (LT5.out.keep hq.2.1); have D6 := Hn (bl_trans D5.out hq.2.1); clear hq CC) | (have _t := D6; go_at_call 20; refine (Sub_lin PT PC lvT.length cT lvC.length cC (ft lvT) (ft lvC) w6 (HT.out.keep (bl_trans B2.out D6.out)) (by have := lvT_len; have := lvC_len; omega) (fun k hk => lst_ok _) (fun k hk => lst_ok _) LT6.out LC6.out).mono ?_; rintro e w7 ⟨v, rfl, hq⟩; have hq2 : Lq w6 lvD v w7 := hq; clear hq; obtain ⟨PD, cD, rfl, _⟩ := own_shT hq2.1; have LD7 := Hn (own_lts hq2.1); have D7 := Hn (bl_trans D6.out hq2.2.1); clear hq2) | (have _t := D7; go_at_call 18; refine (Require_ok (SY2.out.keep D7.out) (HT.out.keep (bl_trans B2.out D7.out)) PD lvD.length cD (ft lvD) (by have := lvD_len; omega) (fun k hk => lst_ok _) LD7.out lvX_nm (by simp [enl])).mono ?_; rintro e w8 ⟨rfl, v8, u8', h1, h2, _⟩; have S8 : Hid (Sy w.heap.size w8 w.heap.size 1 1 v8 (vs ++ [u8']) (enl 1 ++ [lvX])) := Hn h1; have B8 := Hn (ts_fz (SY2.out.keep D7.out) (Nat.le_refl _) (bl_trans B2.out D7.out) h2); clear h1 h2))
 clear D3 D4 D5 D6 D7 LT2 LT4 LT5 LT6 LC6 LD7 SY2 B2
 go_upto_region 7 with (first | (have _t := I4; go_at_call 9; refine (I4.out _).mono ?_; rintro e w9 ⟨rfl, hb⟩; have S9 := Hn (S8.out.keep hb); have B9 := Hn (bl_trans B8.out hb); clear hb I4 S8 B8) | (have _t := I5; go_at_call 9; refine (I5.out _).mono ?_; rintro e wA ⟨rfl, hb⟩; have SA := Hn (S9.out.keep hb); have BA := Hn (bl_trans B9.out hb); clear hb I5 S9 B9))
 have BX := bl_alloc2 wA (.cells #[.int .u64 k4.x0, .int .u64 k4.x1, .int .u64 k4.x2, .int .u64 k4.x3] 35) (.cells #[.int .u64 k5.x0, .int .u64 k5.x1, .int .u64 k5.x2, .int .u64 k5.x3] 35)
 have x50 : ((wA.alloc (.cells #[.int .u64 k4.x0, .int .u64 k4.x1, .int .u64 k4.x2, .int .u64 k4.x3] 35)).alloc (.cells #[.int .u64 k5.x0, .int .u64 k5.x1, .int .u64 k5.x2, .int .u64 k5.x3] 35)).cell? ⟨wA.heap.size, 0, none⟩ = some (.int .u64 k4.x0) := by go_simp
 have x60 : ((wA.alloc (.cells #[.int .u64 k4.x0, .int .u64 k4.x1, .int .u64 k4.x2, .int .u64 k4.x3] 35)).alloc (.cells #[.int .u64 k5.x0, .int .u64 k5.x1, .int .u64 k5.x2, .int .u64 k5.x3] 35)).cell? ⟨wA.heap.size + 1, 0, none⟩ = some (.int .u64 k5.x0) := by go_simp
 have x51 : ((wA.alloc (.cells #[.int .u64 k4.x0, .int .u64 k4.x1, .int .u64 k4.x2, .int .u64 k4.x3] 35)).alloc (.cells #[.int .u64 k5.x0, .int .u64 k5.x1, .int .u64 k5.x2, .int .u64 k5.x3] 35)).cell? ⟨wA.heap.size, 1, none⟩ = some (.int .u64 k4.x1) := by go_simp
 have x61 : ((wA.alloc (.cells #[.int .u64 k4.x0, .int .u64 k4.x1, .int .u64 k4.x2, .int .u64 k4.x3] 35)).alloc (.cells #[.int .u64 k5.x0, .int .u64 k5.x1, .int .u64 k5.x2, .int .u64 k5.x3] 35)).cell? ⟨wA.heap.size + 1, 1, none⟩ = some (.int .u64 k5.x1) := by go_simp
 have x52 : ((wA.alloc (.cells #[.int .u64 k4.x0, .int .u64 k4.x1, .int .u64 k4.x2, .int .u64 k4.x3] 35)).alloc (.cells #[.int .u64 k5.x0, .int .u64 k5.x1, .int .u64 k5.x2, .int .u64 k5.x3] 35)).cell? ⟨wA.heap.size, 2, none⟩ = some (.int .u64 k4.x2) := by go_simp
 have x62 : ((wA.alloc (.cells #[.int .u64 k4.x0, .int .u64 k4.x1, .int .u64 k4.x2, .int .u64 k4.x3] 35)).alloc (.cells #[.int .u64 k5.x0, .int .u64 k5.x1, .int .u64 k5.x2, .int .u64 k5.x3] 35)).cell? ⟨wA.heap.size + 1, 2, none⟩ = some (.int .u64 k5.x2) := by go_simp
 have x53 : ((wA.alloc (.cells #[.int .u64 k4.x0, .int .u64 k4.x1, .int .u64 k4.x2, .int .u64 k4.x3] 35)).alloc (.cells #[.int .u64 k5.x0, .int .u64 k5.x1, .int .u64 k5.x2, .int .u64 k5.x3] 35)).cell? ⟨wA.heap.size, 3, none⟩ = some (.int .u64 k4.x3) := by go_simp
 have x63 : ((wA.alloc (.cells #[.int .u64 k4.x0, .int .u64 k4.x1, .int .u64 k4.x2, .int .u64 k4.x3] 35)).alloc (.cells #[.int .u64 k5.x0, .int .u64 k5.x1, .int .u64 k5.x2, .int .u64 k5.x3] 35)).cell? ⟨wA.heap.size + 1, 3, none⟩ = some (.int .u64 k5.x3) := by go_simp
 have SB := Hn (SA.out.keep BX)
 have BB := Hn (bl_trans BA.out BX)
 clear BX SA BA
 generalize ((wA.alloc (.cells #[.int .u64 k4.x0, .int .u64 k4.x1, .int .u64 k4.x2, .int .u64 k4.x3] 35)).alloc (.cells #[.int .u64 k5.x0, .int .u64 k5.x1, .int .u64 k5.x2, .int .u64 k5.x3] 35)) = wB at *
 generalize wA.heap.size = b5 at *
 refine lv7 _ b5 (b5 + 1) k4 k5 k20 _ _ _ _ _ _ _ _ _ _ _ _ _ _ _ _ _ _ _ _ _ _ _ _ _ _ _ _ _ _ _ _ _ _ _ _ _ _ _ _ _ _ _ _ _ _ _ _ _ _ _ _ _ _ _ _ _ _ _ _ _ _ wB ⟨x50, x51, x52, x53, x60, x61, x62, x63, I20⟩ (Hn ?_)
 intro wC t1 t2 t3 t4 rb hb a1 a2 a3 a4 hrb fr
 have y0 := cell_keep x60 hb
 have y1 := cell_keep x61 hb
 have y2 := cell_keep x62 hb
 have y3 := cell_keep x63 hb
 have A1 := Hn (one4s_at a1 OK4.out)
 have A2 := Hn (one4s_at a2 OK5.out)
 have A3 := Hn (one4s_at a3 OK20.out)
 have A4 := Hn (one4s_at a4 OK4.out)
 have FR := Hn fr
 have SCc := Hn (SB.out.keep hb)
 have BC := Hn (bl_trans BB.out hb)
 clear a1 a2 a3 a4 fr hrb hb SB BB x50 x51 x52 x53 x60 x61 x62 x63 I20
 go_upto_region 8 with fail
 refine lv8 _ (b5 + 1) k5 k25 _ _ _ _ _ _ _ _ _ _ _ _ _ _ _ _ _ _ _ _ _ _ _ _ _ _ _ _ _ _ _ _ _ _ _ _ _ _ _ _ _ _ _ _ _ _ _ _ _ _ _ _ _ _ _ _ _ _ _ _ _ _ _ wC ⟨y0, y1, y2, y3, I25⟩ (Hn ?_)
 intro wD s1 s2 s3 s4 sb hb a1 a2 a3 a4 hrb fr
 have R1 := range_bl FR.out hb
 have E1 := Hn (one4s_at a1 OK5.out)
 have E2 := Hn (one4s_at a2 OK5.out)
 have E3' := Hn (one4s_at a3 OK25.out)
 have E4' := Hn (one4s_at a4 OK5.out)
 have G1 := Hn (A1.out.keep hb)
 have G2 := Hn (A2.out.keep hb)
 have G3 := Hn (A3.out.keep hb)
 have G4 := Hn (A4.out.keep hb)
 have SD := Hn (SCc.out.keep hb)
 have BD := Hn (bl_trans BC.out hb)
 have g0 := R1 0 _ rfl
 have g1 := R1 1 _ rfl
 have g2 := R1 2 _ rfl
 have g3 := R1 3 _ rfl
 have z0 := fr 0 _ rfl
 have z1 := fr 1 _ rfl
 have z2 := fr 2 _ rfl
 have z3 := fr 3 _ rfl
 simp only [Nat.zero_add] at g0 g1 g2 g3 z0 z1 z2 z3
 have H1 : Hid (Calls Tryz.prog 22 #[.pointer (some ⟨w.heap.size, 0, none⟩), .agg #[.slice (some ⟨t1, 0, none⟩) 1 1, .slice (some ⟨t2, 0, none⟩) 1 1, .slice (some ⟨t3, 0, none⟩) 1 1, .slice (some ⟨t4, 0, none⟩) 1 1]] wD fun e w' => e = .returned (.int .i64 0) ∧ Below wD.heap.size wD w') := Hn (by
  have h := Holds_any SD.out lvW (HT.out.keep BD.out) (one4s t1 k4) (one4s t2 k5) (one4s t3 k20) (one4s t4 k4) G1.out G2.out G3.out G4.out
  rw [← EQ4.out, ← EQ5.out, ← EQ20.out, ho_good] at h
  exact h)
 have H2 : Hid (∀ y, Below wD.heap.size wD y → Calls Tryz.prog 22 #[.pointer (some ⟨w.heap.size, 0, none⟩), .agg #[.slice (some ⟨s1, 0, none⟩) 1 1, .slice (some ⟨s2, 0, none⟩) 1 1, .slice (some ⟨s3, 0, none⟩) 1 1, .slice (some ⟨s4, 0, none⟩) 1 1]] y fun e w' => e = .returned (.int .i64 203) ∧ Below y.heap.size y w') := Hn (fun y hy => by
  have h := Holds_any (SD.out.keep hy) lvW (HT.out.keep (bl_trans BD.out hy)) (one4s s1 k5) (one4s s2 k5) (one4s s3 k25) (one4s s4 k5) (E1.out.keep hy) (E2.out.keep hy) (E3'.out.keep hy) (E4'.out.keep hy)
  rw [← EQ5.out, ← EQ25.out, ho_bad] at h
  exact h)
 have H3 : Hid (∀ y, Below wD.heap.size wD y → Calls Tryz.prog 23 #[.pointer (some ⟨w.heap.size, 0, none⟩)] y fun e w' => e = .returned (.int .i64 2) ∧ w' = y) := Hn (fun y hy => Requires_any (SD.out.keep hy))
 clear hb a1 a2 a3 a4 hrb fr R1 E1 E2 E3' E4' G1 G2 G3 G4 FR A1 A2 A3 A4 SCc BC y0 y1 y2 y3 I25 SD OK3 OK12 OK4 OK5 OK20 OK25 EQ3 EQ12 EQ4 EQ5 EQ20 EQ25
 go_wp2_with (first | (have _t := H1; go_at_call 22; refine H1.out.mono ?_; rintro e wE ⟨rfl, hb⟩; have B9 := Hn hb; have z0 := cell_keep z0 hb; have z1 := cell_keep z1 hb; have z2 := cell_keep z2 hb; have z3 := cell_keep z3 hb; clear hb H1) | (have _t := B9; go_at_call 22; refine (H2.out _ B9.out).mono ?_; rintro e wF ⟨rfl, hb⟩; have BF := Hn (bl_trans B9.out hb); clear hb B9) | (have _t := BF; go_at_call 23; refine (H3.out _ BF.out).mono ?_; rintro e wG ⟨rfl, rfl⟩))
 refine bodyPost_ret (v := .bool true) (by simp [results, Tryz.results4, go_sem]) rfl ⟨rfl, bl_trans BD.out BF.out⟩
end Ci
end Go.Proofs.YthngomhhafoamaaGreatDoor
namespace Go.Proofs.YthngomhhafoamaaGreatDoor
open Go.RowKit
open Cm (Wr Tm co bf Ls lf ins Eqm)
namespace Ci
def Dj (a b : Value) : Prop := ∀ k, a.ownBlock = some k → b.ownBlock ≠ some k
theorem Dj.symm {a b : Value} (h : Dj a b) : Dj b a := fun k hk e => h k e hk
def s4s (n : Nat) (g : Nat → E4) : List Value := (List.range n).flatMap fun k => [.int .u64 (g k).x0, .int .u64 (g k).x1, .int .u64 (g k).x2, .int .u64 (g k).x3]
theorem s4s_succ (n : Nat) (g : Nat → E4) : s4s (n + 1) g = s4s n g ++ [.int .u64 (g n).x0, .int .u64 (g n).x1, .int .u64 (g n).x2, .int .u64 (g n).x3] := by simp [s4s, List.range_succ]
theorem s4s_congr {n : Nat} {f g : Nat → E4} (h : ∀ k, k < n → f k = g k) : s4s n f = s4s n g := by
 induction n with
 | zero => rfl
 | succ n ih => rw [s4s_succ, s4s_succ, ih (fun k hk => h k (by omega)), h n (by omega)]
theorem s4s_len (n : Nat) (g : Nat → E4) : (s4s n g).length = n * 4 := by
 induction n with
 | zero => rfl
 | succ n ih => rw [s4s_succ, List.length_append, ih]; simp; omega
theorem s4s_get (n : Nat) (g : Nat → E4) (k j : Nat) (hk : k < n) (hj : j < 4) : (s4s n g)[k * 4 + j]? = ([.int .u64 (g k).x0, .int .u64 (g k).x1, .int .u64 (g k).x2, .int .u64 (g k).x3] : List Value)[j]? := by
 induction n with
 | zero => omega
 | succ n ih =>
  rw [s4s_succ]
  by_cases h : k < n
  ·rw [List.getElem?_append_left (by rw [s4s_len]; omega)]
   exact ih h
  ·obtain rfl : k = n := by omega
   rw [List.getElem?_append_right (by rw [s4s_len]; omega), s4s_len, show k * 4 + j - k * 4 = j by omega]
def Rw (x : World) (b : Nat) (v : Value) (n : Nat) : Prop := ∃ g, x.ownsRow b 35 4 v n (s4s n g) ∧ ∀ k, k < n → (g k).ok
theorem Rw.sl {x : World} {b n : Nat} {v : Value} (h : Rw x b v n) : ∃ s : Sl, v = s.v ∧ s.n = n ∧ s.at x := by
 obtain ⟨g, ho, hg⟩ := h
 rcases ho.2 with ⟨h1, h2⟩ | ⟨gb, c, cur, h1, _⟩
 ·exact ⟨⟨none, 0, 0, g⟩, h1, h2.symm, ⟨⟨0, 0, fun h => absurd h (Nat.lt_irrefl 0), fun h => absurd h (Nat.lt_irrefl 0)⟩, fun k hk => absurd hk (Nat.not_lt_zero k)⟩⟩
 ·have key : ∀ k j u, k < n → ([.int .u64 (g k).x0, .int .u64 (g k).x1, .int .u64 (g k).x2, .int .u64 (g k).x3] : List Value)[j]? = some u → x.cell? ⟨gb, 0 + k * 4 + j, none⟩ = some u := fun k j u hk hu => by
   have hj : j < 4 := by have := (List.getElem?_eq_some_iff.1 hu).1; simpa using this
   have := ho.cells (g := gb) (by rw [h1]; rfl) (k * 4 + j) u (by rw [s4s_get n g k j hk hj]; exact hu)
   rw [Addr.add_mid] at this
   rw [Nat.add_assoc]
   exact this
  refine ⟨⟨some ⟨gb, 0, none⟩, n, c, g⟩, h1, rfl, ⟨⟨gb, 0, fun _ => rfl, fun _ => ⟨fun k hk => ?_, fun k hk => ?_, fun k hk => ?_, fun k hk => ?_⟩⟩, hg⟩⟩
  ·exact key k 0 _ hk rfl
  ·exact key k 1 _ hk rfl
  ·exact key k 2 _ hk rfl
  ·exact key k 3 _ hk rfl
theorem Rw.one {x : World} {b n : Nat} {v : Value} (h : Rw x b v n) : v.oneCell' = true := by
 obtain ⟨s, rfl, _⟩ := h.sl
 rfl
theorem Rw.none (x : World) (b : Nat) : Rw x b (.slice none 0 0) 0 := ⟨fun _ => ⟨0, 0, 0, 0⟩, World.ownsRow_nil _ _ _ _, fun k hk => by omega⟩
theorem Rw.keep {x y : World} {b n : Nat} {v : Value} (h : Rw x b v n) (hb : Below x.heap.size x y) : Rw y b v n := by
 obtain ⟨g, ho, hg⟩ := h
 exact ⟨g, own_keepT ho hb, hg⟩
theorem Rw.grown {x y : World} {b n r : Nat} {v : Value} (h : Rw x b v n) (hg : x.grownBy y (some r)) (hr : r < b) : Rw y b v n := by
 obtain ⟨g, ho, hk⟩ := h
 exact ⟨g, ho.kept hg (by
  cases hv : v.ownBlock with
  | none => exact .inl rfl
  | some k => exact .inr (fun e => by have := (ho.lt k hv).1; have := Option.some.inj e; omega)), hk⟩
theorem Rw.other {x y : World} {b n : Nat} {u v : Value} (h : Rw x b v n) (hd : Dj u v) (hg : x.grownBy y u.ownBlock) : Rw y b v n := by
 obtain ⟨g, ho, hk⟩ := h
 exact ⟨g, ho.kept hg (by
  cases hv : v.ownBlock with
  | none => exact .inl rfl
  | some k => exact .inr (fun e => hd k e.symm hv)), hk⟩
def upd {α : Type} (f : Nat → α) (j : Nat) (v : α) (i : Nat) : α := if i = j then v else f i
structure Fi (w : World) (l : Sl) (k : Nat) (C R : Nat → Value) (n : Nat → Nat) (x : World) : Prop where
 bel : Below w.heap.size w x
 lc : x.cell? ⟨w.heap.size, 0, none⟩ = some (.slice l.p l.n l.c)
 rz : x.rangeAt (w.heap.size + 1) 0 [.slice none 0 0, .slice none 0 0, .slice none 0 0, .slice none 0 0]
 rt : x.there (w.heap.size + 1) 0 4
 ac : x.cell? ⟨w.heap.size + 2, 0, none⟩ = some (.int .i64 (k : Int))
 af : x.frozen? ⟨w.heap.size + 2, 0, none⟩ = false
 tc : ∀ i, i < 4 → x.cell? ⟨w.heap.size + 3, i, none⟩ = some (C i)
 tt : x.there (w.heap.size + 3) 0 4
 rw : ∀ i, i < 4 → Rw x (w.heap.size + 4) (R i) (n i)
 dj : ∀ i j, i < 4 → j < 4 → i ≠ j → Dj (R i) (R j)
 sz : w.heap.size + 4 ≤ x.heap.size
theorem Fi.keep {w : World} {l : Sl} {k : Nat} {C R : Nat → Value} {n : Nat → Nat} {x y : World} (h : Fi w l k C R n x) (hb : Below x.heap.size x y) : Fi w l k C R n y :=
 ⟨bl_trans h.bel hb, cell_keep h.lc hb, range_bl h.rz hb, there_bl h.rt hb, cell_keep h.ac hb, (hb.frozen (p := ⟨w.heap.size + 2, 0, none⟩) (World.block_lt_of_cell? x _ h.ac)).trans h.af, fun i hi => cell_keep (h.tc i hi) hb, there_bl h.tt hb, fun i hi => (h.rw i hi).keep hb, h.dj, Nat.le_trans h.sz hb.size⟩
theorem gcell {x y : World} {b o r : Nat} {v : Value} (hg : x.grownBy y (some r)) (h : x.cell? ⟨b, o, none⟩ = some v) (hne : b ≠ r) : y.cell? ⟨b, o, none⟩ = some v := hg.cell h (fun e => hne (Option.some.inj e))
theorem gcellR {x y : World} {b o : Nat} {row : Option Nat} {v : Value} (hg : x.grownBy y row) (h : x.cell? ⟨b, o, none⟩ = some v) (hne : some b ≠ row) : y.cell? ⟨b, o, none⟩ = some v := hg.cell h hne
theorem there_gb {x y : World} {b m r : Nat} (h : x.there b 0 m) (hg : x.grownBy y (some r)) (hne : b ≠ r) : y.there b 0 m := fun j hj => by
 obtain ⟨h1, h2⟩ := h j hj
 obtain ⟨u, hu⟩ := Option.isSome_iff_exists.1 h1
 have hl := World.block_lt_of_cell? x _ hu
 exact ⟨by rw [hg.cell hu (fun e => hne (Option.some.inj e))]; rfl, gz_frozen hg (fun e => hne (Option.some.inj e)) hl h2⟩
theorem there_gbR {x y : World} {b m : Nat} {row : Option Nat} (h : x.there b 0 m) (hg : x.grownBy y row) (hne : some b ≠ row) : y.there b 0 m := fun j hj => by
 obtain ⟨h1, h2⟩ := h j hj
 obtain ⟨u, hu⟩ := Option.isSome_iff_exists.1 h1
 have hl := World.block_lt_of_cell? x _ hu
 refine ⟨by rw [hg.cell hu hne]; rfl, ?_⟩
 unfold World.frozen? at h2 ⊢
 rw [hg.block b hl hne]
 exact h2
theorem Fi.next {w : World} {l : Sl} {k : Nat} {C R : Nat → Value} {n : Nat → Nat} {x y : World} (h : Fi w l k C R n x) (hg : x.grownBy y (some (w.heap.size + 2))) (ha : y.cell? ⟨w.heap.size + 2, 0, none⟩ = some (.int .i64 ((k + 1 : Nat) : Int))) (hf : y.frozen? ⟨w.heap.size + 2, 0, none⟩ = false) : Fi w l (k + 1) C R n y :=
 ⟨h.bel.grown hg h.bel.size (fun i hi => by have := Option.some.inj hi; omega), gcell hg h.lc (by omega), fun j u hu => gcell hg (h.rz j u hu) (by omega), there_gb h.rt hg (by omega), ha, hf, fun i hi => gcell hg (h.tc i hi) (by omega), there_gb h.tt hg (by omega), fun i hi => (h.rw i hi).grown hg (by omega), h.dj, Nat.le_trans h.sz hg.size⟩
theorem fi_next {w : World} {l : Sl} {k : Nat} {C R : Nat → Value} {n : Nat → Nat} {x : World} (hT : Tb w) (hl : l.at w) (hk : k ≤ 1000000) (hln : l.n ≤ 1048576) (h : Fi w l k C R n x) : Calls Tryz.prog 26 #[.pointer (some ⟨w.heap.size + 2, 0, none⟩), .pointer (some ⟨w.heap.size, 0, none⟩)] x fun e y => ∃ r : E4, e = .returned (.agg #[.int .u64 r.x0, .int .u64 r.x1, .int .u64 r.x2, .int .u64 r.x3]) ∧ r.ok ∧ Fi w l (k + 1) C R n y :=
 (next_any w (w.heap.size + 2) w.heap.size k l l.p rfl x hT hl (by omega) h.bel (by omega) hk hln h.ac h.af h.lc).mono fun e y ⟨r, he, hr, hg, ha, hf⟩ => ⟨r, he, hr, h.next hg ha hf⟩
theorem Fi.app {w : World} {l : Sl} {k : Nat} {C R : Nat → Value} {n : Nat → Nat} {x y : World} {v : Value} (h : Fi w l k C R n x) (j : Nat) (hj : j < 4) (hr : Rw y (w.heap.size + 4) v (n j + 1)) (hg : x.grownBy y (R j).ownBlock) (ht : v.ownBlock = (R j).ownBlock ∨ v.ownBlock = some x.heap.size) : Fi w l k C (upd R j v) (upd n j (n j + 1)) y := by
 obtain ⟨g0, ho0, _⟩ := h.rw j hj
 have hlow : ∀ b, b < w.heap.size + 4 → some b ≠ (R j).ownBlock := fun b hb e => by have := (ho0.lt b e.symm).1; omega
 have hdj : ∀ i, i < 4 → i ≠ j → Dj v (R i) := fun i hi hij q hq e => by
  rcases ht with e1 | e1
  ·exact h.dj j i hj hi (fun e => hij e.symm) q (e1 ▸ hq) e
  ·rw [e1] at hq
   have := Option.some.inj hq
   obtain ⟨g1, ho1, _⟩ := h.rw i hi
   have := (ho1.lt q e).2
   omega
 refine ⟨h.bel.grown hg h.bel.size (fun i hi => by have := (ho0.lt i hi).1; omega), gcellR hg h.lc (hlow _ (by omega)), fun d u hu => gcellR hg (h.rz d u hu) (hlow _ (by omega)), there_gbR h.rt hg (hlow _ (by omega)), gcellR hg h.ac (hlow _ (by omega)), ?_, fun i hi => gcellR hg (h.tc i hi) (hlow _ (by omega)), there_gbR h.tt hg (hlow _ (by omega)), fun i hi => ?_, fun a b ha hb hab => ?_, Nat.le_trans h.sz hg.size⟩
 ·have := h.af
  unfold World.frozen? at this ⊢
  rw [hg.block (w.heap.size + 2) (by have := h.sz; omega) (hlow _ (by omega))]
  exact this
 ·unfold upd
  by_cases e : i = j
  ·rw [if_pos e, if_pos e]; exact hr
  ·rw [if_neg e, if_neg e]; exact (h.rw i hi).other (h.dj j i hj hi (fun e2 => e e2.symm)) hg
 ·unfold upd
  by_cases e1 : a = j
  ·rw [if_pos e1, if_neg (fun e2 => hab (e1.trans e2.symm))]
   exact hdj b hb (fun e2 => hab (e1.trans e2.symm))
  ·by_cases e2 : b = j
   ·rw [if_neg e1, if_pos e2]; exact (hdj a ha e1).symm
   ·rw [if_neg e1, if_neg e2]; exact h.dj a b ha hb hab
theorem Fi.put {w : World} {l : Sl} {k : Nat} {C R : Nat → Value} {n : Nat → Nat} {x : World} (h : Fi w l k C R n x) (j : Nat) (hj : j < 4) (v : Value) : Fi w l k (upd C j v) R n (x.setCell ⟨w.heap.size + 3, j, none⟩ v) := by
 have hg : x.grownBy (x.setCell ⟨w.heap.size + 3, j, none⟩ v) (some (w.heap.size + 3)) := ⟨rfl, rfl, rfl, by rw [World.size_setCell]; exact Nat.le_refl _, fun i _ hi => heap_setCell_other x ⟨w.heap.size + 3, j, none⟩ i v (fun e => hi (by rw [e]))⟩
 refine ⟨h.bel.grown hg h.bel.size (fun i hi => by have := Option.some.inj hi; omega), gcell hg h.lc (by omega), fun d u hu => gcell hg (h.rz d u hu) (by omega), there_gb h.rt hg (by omega), gcell hg h.ac (by omega), gz_frozen hg (p := ⟨w.heap.size + 2, 0, none⟩) (fun e => by have := Option.some.inj e; simp only at this; omega) (by have := h.sz; show w.heap.size + 2 < x.heap.size; omega) h.af, fun i hi => ?_, there_set h.tt (w.heap.size + 3) j [v], fun i hi => (h.rw i hi).grown hg (by omega), h.dj, Nat.le_trans h.sz hg.size⟩
 unfold upd
 by_cases e : i = j
 ·rw [if_pos e, e]
  have hs := (h.tt j hj).1
  rw [Nat.zero_add] at hs
  exact World.cell?_setCell_same' _ _ _ hs
 ·rw [if_neg e]
  have hne : (⟨w.heap.size + 3, j, none⟩ : Addr) ≠ ⟨w.heap.size + 3, i, none⟩ := fun e2 => e (by have := congrArg Addr.off e2; exact this.symm)
  first
   | exact (World.cell?_setCell_other hne).trans (h.tc i hi)
   | exact (World.cell?_setCell_other _ hne).trans (h.tc i hi)
   | exact (World.cell?_setCell_other _ _ hne).trans (h.tc i hi)
   | exact (World.cell?_setCell_other _ _ _ hne).trans (h.tc i hi)
   | exact (World.cell?_setCell_other _ _ _ _ hne).trans (h.tc i hi)
end Ci
end Go.Proofs.YthngomhhafoamaaGreatDoor
