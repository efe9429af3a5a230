import Derived.Test.YtaejdgpffipaeaaGreatDoorCeq
namespace Go.Proofs.YtaejdgpffipaeaaGreatDoor
open Go.RowKit
set_option linter.unusedVariables false
set_option linter.unusedSimpArgs false
open Cm (Wr Tm co bf Ls lf ins Eqm)
namespace Ci
set_option maxRecDepth 100000
set_option maxHeartbeats 8000000
def f5 : Nat → Trm := ft [((5, 0), 1)]
def lvT : List Tm := lf Sm.L (glM (lst 3) 1 (ft [((5, 0), 1)]))
def lvC : List Tm := lf Sm.L (glM (lst 12) 1 oneT)
def lvD : List Tm := lf Sm.L (glL lvT.length (ft lvT) ++ glN lvC.length (ft lvC))
def lvX : List Tm := lf Sm.L (glL lvD.length (ft lvD))
theorem lvT_ls : Ls Sm.L lvT := Cm.lf_ls L0 _
theorem lvC_ls : Ls Sm.L lvC := Cm.lf_ls L0 _
theorem lvD_ls : Ls Sm.L lvD := Cm.lf_ls L0 _
theorem lst_small {n : Int} (h0 : 0 ≤ n) (h1 : n < 1000) : (lst n).n = n := by
 rw [lst_n, Int.emod_eq_of_lt h0 (Int.lt_trans h1 (by decide))]
theorem glM1 (k : E4) (q : Wr) : glM k 1 (ft [(q, 1)]) = [(q, k.n)] := by
 have h1 : (lst 1).n = 1 := lst_small (by omega) (by omega)
 simp [glM, ft, tmOf, List.range_succ, h1]
theorem glM1o (k : E4) : glM k 1 oneT = [((1, 0), k.n)] := by
 have h1 : (lst 1).n = 1 := lst_small (by omega) (by omega)
 simp [glM, oneT, List.range_succ, h1]
theorem vlT (N : Nat → Sl) : vl N lvT % Sm.L = 3 * (nw N (5, 0)).n % Sm.L := by
 unfold lvT
 rw [vl_lf, glM1, lst_small (by omega) (by omega)]
 simp [vl]
theorem vlC (N : Nat → Sl) : vl N lvC % Sm.L = 12 * (nw N (1, 0)).n % Sm.L := by
 unfold lvC
 rw [vl_lf, glM1o, lst_small (by omega) (by omega)]
 simp [vl]
theorem vlX (N : Nat → Sl) : vl N lvX % Sm.L = (3 * (nw N (5, 0)).n - 12 * (nw N (1, 0)).n) % Sm.L := by
 unfold lvX
 rw [vl_lf, glft_ls lvD_ls]
 unfold lvD
 rw [vl_lf, vl_app, vl_neg, glft_ls lvT_ls, glft_ls lvC_ls, ← Int.sub_eq_add_neg, Int.sub_emod, vlT, vlC, ← Int.sub_emod]
theorem lvT_wire {x : Tm} (hx : x ∈ lvT) : x.1 = (5, 0) := by
 obtain ⟨y, hy, e⟩ := lf_mem hx
 rw [glM1] at hy
 rw [e, List.mem_singleton.1 hy]
theorem lvC_wire {x : Tm} (hx : x ∈ lvC) : x.1 = (1, 0) := by
 obtain ⟨y, hy, e⟩ := lf_mem hx
 rw [glM1o] at hy
 rw [e, List.mem_singleton.1 hy]
theorem lvX_wire {x : Tm} (hx : x ∈ lvX) : x.1 = (5, 0) ∨ x.1 = (1, 0) := by
 obtain ⟨y, hy, e⟩ := lf_mem hx
 rw [glft_ls lvD_ls] at hy
 obtain ⟨z, hz, e2⟩ := lf_mem hy
 rw [e, e2]
 rcases List.mem_append.1 hz with h | h
 ·rw [glft_ls lvT_ls] at h
  exact .inl (lvT_wire h)
 ·right
  obtain ⟨k, hk, e3⟩ := List.mem_map.1 h
  have hk2 := List.mem_range.1 hk
  rw [← e3]
  show (ft lvC k).q = (1, 0)
  rw [ft_get hk2]
  exact lvC_wire (List.getElem_mem hk2)
theorem lvT_len : lvT.length ≤ 1 := by have := lf_lenC (glM (lst 3) 1 (ft [((5, 0), 1)])); rw [glM1] at this; unfold lvT; rw [glM1]; exact this
theorem lvC_len : lvC.length ≤ 1 := by have := lf_lenC (glM (lst 12) 1 oneT); rw [glM1o] at this; unfold lvC; rw [glM1o]; exact this
theorem lvD_len : lvD.length ≤ 2 := by
 have := lf_lenC (glL lvT.length (ft lvT) ++ glN lvC.length (ft lvC))
 rw [List.length_append, glL_l, glN_l] at this
 have := lvT_len
 have := lvC_len
 unfold lvD
 omega
theorem lvX_len : lvX.length ≤ 2 := by
 have := lf_lenC (glL lvD.length (ft lvD))
 rw [glL_l] at this
 have := lvD_len
 unfold lvX
 omega
theorem lvX_nm : nm 1 1 lvX.length (ft lvX) = true := nm_true (fun x hx => by rcases lvX_wire hx with e | e <;> rw [e] <;> decide)
theorem lvW : Wk 1 1 (enl 1 ++ [lvX]) := by
 have h1 : Wk 1 1 (enl 1) := by
  refine ⟨fun X hX x hx => ?_, fun X hX => ?_, by simp [enl], by omega, ⟨[], by rw [List.append_nil]⟩, Nat.le_refl _⟩
  ·have e : X = enX 0 := by simpa [enl] using hX
   subst e
   obtain ⟨y, hy, e⟩ := lf_mem hx
   rw [e]
   rcases List.mem_append.1 hy with h | h
   ·have : y = ((2, 0), (lst 1).n) := by simpa [glL, cst, List.range_succ] using h
    rw [this]; decide
   ·have : y = ((5, 0), -(lst 1).n) := by simpa [glN, cst, List.range_succ] using h
    rw [this]; decide
  ·have e : X = enX 0 := by simpa [enl] using hX
   subst e
   have := lf_lenC (glL 1 (cst (2, 0)) ++ glN 1 (cst (5, 0)))
   rw [List.length_append, glL_l, glN_l] at this
   unfold enX
   omega
 exact h1.req lvX_nm (by have := lvX_len; omega) (by simp [enl])
def one4s (b : Nat) (a : E4) : Sl := ⟨some ⟨b, 0, none⟩, 1, 1, fun _ => a⟩
theorem one4s_at {w : World} {b : Nat} {a : E4} (h : w.rangeAt b 0 [.int .u64 a.x0, .int .u64 a.x1, .int .u64 a.x2, .int .u64 a.x3]) (ok : a.ok) : (one4s b a).at w := by
 have key : ∀ k, k < 1 → k = 0 := fun k hk => by omega
 refine ⟨⟨b, 0, fun _ => rfl, fun _ => ⟨fun k hk => ?_, fun k hk => ?_, fun k hk => ?_, fun k hk => ?_⟩⟩, fun k hk => ok⟩
 ·obtain rfl := key k hk; exact h 0 _ rfl
 ·obtain rfl := key k hk; exact h 1 _ rfl
 ·obtain rfl := key k hk; exact h 2 _ rfl
 ·obtain rfl := key k hk; exact h 3 _ rfl
theorem vl_enX (N : Nat → Sl) : vl N (enX 0) % Sm.L = ((nw N (2, 0)).n - (nw N (5, 0)).n) % Sm.L := by
 unfold enX
 rw [vl_lf, vl_app, vl_neg]
 have h1 : (lst 1).n = 1 := lst_small (by omega) (by omega)
 simp [glL, cst, List.range_succ, vl, h1, Int.sub_eq_add_neg]
theorem zs_two (N : Nat → Sl) : zsB N (enl 1 ++ [lvX]) = (decide (((nw N (2, 0)).n - (nw N (5, 0)).n) % Sm.L = 0) && decide ((3 * (nw N (5, 0)).n - 12 * (nw N (1, 0)).n) % Sm.L = 0)) := by
 have e1 : (es N (ft (enX 0)) (enX 0).length).n % Sm.L = ((nw N (2, 0)).n - (nw N (5, 0)).n) % Sm.L := by
  rw [es_vl N (X := enX 0) (Cm.lf_ls L0 _), lst_n, Int.emod_emod_of_dvd _ (Int.dvd_refl _)]
  exact vl_enX N
 have e2 : (es N (ft lvX) lvX.length).n % Sm.L = (3 * (nw N (5, 0)).n - 12 * (nw N (1, 0)).n) % Sm.L := by
  rw [es_vl N (X := lvX) (Cm.lf_ls L0 _), lst_n, Int.emod_emod_of_dvd _ (Int.dvd_refl _)]
  exact vlX N
 unfold zsB
 simp only [enl, List.nil_append, List.cons_append, List.all_cons, List.all_nil, Bool.and_true]
 rw [show ((0 : Nat) : Int) = 0 from rfl, e1, e2]
theorem ho_good (b1 b2 b3 b4 : Nat) : hoE (one4s b1 (lst 4)) (one4s b2 (lst 5)) (one4s b3 (lst 20)) (one4s b4 (lst 4)) 1 1 (enl 1 ++ [lvX]) = 0 := by
 have f1 : ftB (nms 0 (one4s b1 (lst 4)) (one4s b2 (lst 5)) (one4s b3 (lst 20)) (one4s b4 (lst 4))) 1 1 = true := by rfl
 have f2 : mlB (one4s b1 (lst 4)) (one4s b2 (lst 5)) (one4s b3 (lst 20)) = true := by
  rw [mlB_iff]
  intro k _
  show (lst 4).n * (lst 5).n % Sm.L = (lst 20).n % Sm.L
  rw [lst_small (by omega) (by omega), lst_small (by omega) (by omega), lst_small (by omega) (by omega)]
  rfl
 unfold hoE
 rw [if_pos f1, if_pos f2, zs_two]
 rw [show nw (nms 0 (one4s b1 (lst 4)) (one4s b2 (lst 5)) (one4s b3 (lst 20)) (one4s b4 (lst 4))) (2, 0) = lst 4 from rfl, show nw (nms 0 (one4s b1 (lst 4)) (one4s b2 (lst 5)) (one4s b3 (lst 20)) (one4s b4 (lst 4))) (5, 0) = lst 4 from rfl, show nw (nms 0 (one4s b1 (lst 4)) (one4s b2 (lst 5)) (one4s b3 (lst 20)) (one4s b4 (lst 4))) (1, 0) = lst 1 from rfl]
 rw [lst_small (n := 4) (by omega) (by omega), lst_small (n := 1) (by omega) (by omega)]
 decide
theorem ho_bad (b1 b2 b3 b4 : Nat) : hoE (one4s b1 (lst 5)) (one4s b2 (lst 5)) (one4s b3 (lst 25)) (one4s b4 (lst 5)) 1 1 (enl 1 ++ [lvX]) = 203 := by
 have f1 : ftB (nms 0 (one4s b1 (lst 5)) (one4s b2 (lst 5)) (one4s b3 (lst 25)) (one4s b4 (lst 5))) 1 1 = true := by rfl
 have f2 : mlB (one4s b1 (lst 5)) (one4s b2 (lst 5)) (one4s b3 (lst 25)) = true := by
  rw [mlB_iff]
  intro k _
  show (lst 5).n * (lst 5).n % Sm.L = (lst 25).n % Sm.L
  rw [lst_small (by omega) (by omega), lst_small (by omega) (by omega)]
  rfl
 unfold hoE
 rw [if_pos f1, if_pos f2, zs_two]
 rw [show nw (nms 0 (one4s b1 (lst 5)) (one4s b2 (lst 5)) (one4s b3 (lst 25)) (one4s b4 (lst 5))) (2, 0) = lst 5 from rfl, show nw (nms 0 (one4s b1 (lst 5)) (one4s b2 (lst 5)) (one4s b3 (lst 25)) (one4s b4 (lst 5))) (5, 0) = lst 5 from rfl, show nw (nms 0 (one4s b1 (lst 5)) (one4s b2 (lst 5)) (one4s b3 (lst 25)) (one4s b4 (lst 5))) (1, 0) = lst 1 from rfl]
 rw [lst_small (n := 5) (by omega) (by omega), lst_small (n := 1) (by omega) (by omega)]
 decide
theorem live_any (w : World) (hT : Tb w) : Calls Tryz.prog 4 #[] w fun e w' => e = .returned (.bool true) ∧ Below w.heap.size w w' := by
 have C1 : Hid (Calls Tryz.prog 15 #[.int .i64 1] w fun e w' => e = .returned (.tuple #[.pointer (some ⟨w.heap.size, 0, none⟩), .int .i64 0]) ∧ Nu w w.heap.size 1 1 w') := hidden (New_any 1 w hT (by omega))
 obtain ⟨k3, h3⟩ : ∃ k, lst 3 = k := ⟨_, rfl⟩
 have ok3 : k3.ok := h3 ▸ lst_ok _
 have I3 := fun y => fix (R := lst 3) (Int_any 3 y (by unfold Sm.Wd; omega)) rfl
 rw [h3] at I3
 simp only [E4.v] at I3
 replace I3 := hidden I3
 have OK3 := hidden ok3
 have EQ3 := hidden h3
 clear ok3 h3
 obtain ⟨k12, h12⟩ : ∃ k, lst 12 = k := ⟨_, rfl⟩
 have ok12 : k12.ok := h12 ▸ lst_ok _
 have I12 := fun y => fix (R := lst 12) (Int_any 12 y (by unfold Sm.Wd; omega)) rfl
 rw [h12] at I12
 simp only [E4.v] at I12
 replace I12 := hidden I12
 have OK12 := hidden ok12
 have EQ12 := hidden h12
 clear ok12 h12
 obtain ⟨k4, h4⟩ : ∃ k, lst 4 = k := ⟨_, rfl⟩
 have ok4 : k4.ok := h4 ▸ lst_ok _
 have I4 := fun y => fix (R := lst 4) (Int_any 4 y (by unfold Sm.Wd; omega)) rfl
 rw [h4] at I4
 simp only [E4.v] at I4
 replace I4 := hidden I4
 have OK4 := hidden ok4
 have EQ4 := hidden h4
 clear ok4 h4
 obtain ⟨k5, h5⟩ : ∃ k, lst 5 = k := ⟨_, rfl⟩
 have ok5 : k5.ok := h5 ▸ lst_ok _
 have I5 := fun y => fix (R := lst 5) (Int_any 5 y (by unfold Sm.Wd; omega)) rfl
 rw [h5] at I5
 simp only [E4.v] at I5
 replace I5 := hidden I5
 have OK5 := hidden ok5
 have EQ5 := hidden h5
 clear ok5 h5
 obtain ⟨k20, h20⟩ : ∃ k, lst 20 = k := ⟨_, rfl⟩
 have ok20 : k20.ok := h20 ▸ lst_ok _
 have I20 := fun y => fix (R := lst 20) (Int_any 20 y (by unfold Sm.Wd; omega)) rfl
 rw [h20] at I20
 simp only [E4.v] at I20
 replace I20 := hidden I20
 have OK20 := hidden ok20
 have EQ20 := hidden h20
 clear ok20 h20
 obtain ⟨k25, h25⟩ : ∃ k, lst 25 = k := ⟨_, rfl⟩
 have ok25 : k25.ok := h25 ▸ lst_ok _
 have I25 := fun y => fix (R := lst 25) (Int_any 25 y (by unfold Sm.Wd; omega)) rfl
 rw [h25] at I25
 simp only [E4.v] at I25
 replace I25 := hidden I25
 have OK25 := hidden ok25
 have EQ25 := hidden h25
 clear ok25 h25
 have HT := hidden hT
 have CO := hidden (fun y => Of_any (5, 0) y)
 simp only at CO
 clear hT
 go_enter Tryz.func4, Tryz.ntmps4
 go_upto_region 4 with (go_at_call 15; refine C1.out.mono ?_; rintro e w1 ⟨rfl, Pv, cv, vs, sy, hb⟩; have SY1 := hidden sy; have B1 := hidden hb; clear sy hb C1)
 go_upto_region 5 with (go_at_call 16; refine (CO.out _).mono ?_; rintro e w2 ⟨v, rfl, hq⟩; obtain ⟨P, c, rfl, _⟩ := own_shT hq.1; have LT2 := hidden (own_lts hq.1); have B2 := hidden (bl_trans B1.out hq.2.1); have SY2 := hidden (SY1.out.keep hq.2.1); clear hq CO SY1 B1)
 have CT : Hid (∀ y, Below w2.heap.size w2 y → Calls Tryz.prog 17 #[.slice P 1 c, .agg #[.int .u64 k3.x0, .int .u64 k3.x1, .int .u64 k3.x2, .int .u64 k3.x3]] y fun e w' => ∃ v, e = .returned v ∧ Lq y lvT v w') := hidden (fun y hb => (Times_any P 1 c (ft [((5, 0), 1)]) k3 y (HT.out.keep (bl_trans B2.out hb)) (by omega) OK3.out (fun k hk => lst_ok _) (LT2.out.keep hb)).mono fun e w' h => by rw [← EQ3.out] at h; exact h)
 have CC : Hid (∀ y, Below w.heap.size w y → Calls Tryz.prog 20 #[.agg #[.int .u64 k12.x0, .int .u64 k12.x1, .int .u64 k12.x2, .int .u64 k12.x3]] y fun e w' => ∃ v, e = .returned v ∧ Lq y lvC v w') := hidden (fun y hb => (Const_any k12 y (HT.out.keep hb) OK12.out).mono fun e w' h => by rw [← EQ12.out] at h; exact h)
 go_upto_region 6 with (first | (have _t := I3; go_at_call 18; refine (I3.out _).mono ?_; rintro e w3 ⟨rfl, hb⟩; have D3 := hidden hb; clear hb I3) | (have _t := CT; go_at_call 17; refine (CT.out _ D3.out).mono ?_; rintro e w4 ⟨v, rfl, hq⟩; obtain ⟨PT, cT, rfl, _⟩ := own_shT hq.1; have LT4 := hidden (own_lts hq.1); have D4 := hidden (bl_trans D3.out hq.2.1); clear hq CT) | (have _t := I12; go_at_call 18; refine (I12.out _).mono ?_; rintro e w5 ⟨rfl, hb⟩; have D5 := hidden (bl_trans D4.out hb); have LT5 := hidden (LT4.out.keep hb); clear hb I12) | (have _t := CC; go_at_call 20; refine (CC.out _ (bl_trans B2.out D5.out)).mono ?_; rintro e w6 ⟨v, rfl, hq⟩; obtain ⟨PC, cC, rfl, _⟩ := own_shT hq.1; have LC6 := hidden (own_lts hq.1); have LT6 := hidden (LT5.out.keep hq.2.1); have D6 := hidden (bl_trans D5.out hq.2.1); clear hq CC) | (have _t := D6; go_at_call 19; refine (Sub_lin PT PC lvT.length cT lvC.length cC (ft lvT) (ft lvC) w6 (HT.out.keep (bl_trans B2.out D6.out)) (by have := lvT_len; have := lvC_len; omega) (fun k hk => lst_ok _) (fun k hk => lst_ok _) LT6.out LC6.out).mono ?_; rintro e w7 ⟨v, rfl, hq⟩; have hq2 : Lq w6 lvD v w7 := hq; clear hq; obtain ⟨PD, cD, rfl, _⟩ := own_shT hq2.1; have LD7 := hidden (own_lts hq2.1); have D7 := hidden (bl_trans D6.out hq2.2.1); clear hq2) | (have _t := D7; go_at_call 13; refine (Require_ok (SY2.out.keep D7.out) (HT.out.keep (bl_trans B2.out D7.out)) PD lvD.length cD (ft lvD) (by have := lvD_len; omega) (fun k hk => lst_ok _) LD7.out lvX_nm (by simp [enl])).mono ?_; rintro e w8 ⟨rfl, v8, u8', h1, h2, _⟩; have S8 : Hid (Sy w.heap.size w8 w.heap.size 1 1 v8 (vs ++ [u8']) (enl 1 ++ [lvX])) := hidden h1; have B8 := hidden (ts_fz (SY2.out.keep D7.out) (Nat.le_refl _) (bl_trans B2.out D7.out) h2); clear h1 h2))
 clear D3 D4 D5 D6 D7 LT2 LT4 LT5 LT6 LC6 LD7 SY2 B2
 go_upto_region 7 with (first | (have _t := I4; go_at_call 18; refine (I4.out _).mono ?_; rintro e w9 ⟨rfl, hb⟩; have S9 := hidden (S8.out.keep hb); have B9 := hidden (bl_trans B8.out hb); clear hb I4 S8 B8) | (have _t := I5; go_at_call 18; refine (I5.out _).mono ?_; rintro e wA ⟨rfl, hb⟩; have SA := hidden (S9.out.keep hb); have BA := hidden (bl_trans B9.out hb); clear hb I5 S9 B9))
 have BX := bl_alloc2 wA (.cells #[.int .u64 k4.x0, .int .u64 k4.x1, .int .u64 k4.x2, .int .u64 k4.x3] 48) (.cells #[.int .u64 k5.x0, .int .u64 k5.x1, .int .u64 k5.x2, .int .u64 k5.x3] 48)
 have x50 : ((wA.alloc (.cells #[.int .u64 k4.x0, .int .u64 k4.x1, .int .u64 k4.x2, .int .u64 k4.x3] 48)).alloc (.cells #[.int .u64 k5.x0, .int .u64 k5.x1, .int .u64 k5.x2, .int .u64 k5.x3] 48)).cell? ⟨wA.heap.size, 0, none⟩ = some (.int .u64 k4.x0) := by go_simp
 have x60 : ((wA.alloc (.cells #[.int .u64 k4.x0, .int .u64 k4.x1, .int .u64 k4.x2, .int .u64 k4.x3] 48)).alloc (.cells #[.int .u64 k5.x0, .int .u64 k5.x1, .int .u64 k5.x2, .int .u64 k5.x3] 48)).cell? ⟨wA.heap.size + 1, 0, none⟩ = some (.int .u64 k5.x0) := by go_simp
 have x51 : ((wA.alloc (.cells #[.int .u64 k4.x0, .int .u64 k4.x1, .int .u64 k4.x2, .int .u64 k4.x3] 48)).alloc (.cells #[.int .u64 k5.x0, .int .u64 k5.x1, .int .u64 k5.x2, .int .u64 k5.x3] 48)).cell? ⟨wA.heap.size, 1, none⟩ = some (.int .u64 k4.x1) := by go_simp
 have x61 : ((wA.alloc (.cells #[.int .u64 k4.x0, .int .u64 k4.x1, .int .u64 k4.x2, .int .u64 k4.x3] 48)).alloc (.cells #[.int .u64 k5.x0, .int .u64 k5.x1, .int .u64 k5.x2, .int .u64 k5.x3] 48)).cell? ⟨wA.heap.size + 1, 1, none⟩ = some (.int .u64 k5.x1) := by go_simp
 have x52 : ((wA.alloc (.cells #[.int .u64 k4.x0, .int .u64 k4.x1, .int .u64 k4.x2, .int .u64 k4.x3] 48)).alloc (.cells #[.int .u64 k5.x0, .int .u64 k5.x1, .int .u64 k5.x2, .int .u64 k5.x3] 48)).cell? ⟨wA.heap.size, 2, none⟩ = some (.int .u64 k4.x2) := by go_simp
 have x62 : ((wA.alloc (.cells #[.int .u64 k4.x0, .int .u64 k4.x1, .int .u64 k4.x2, .int .u64 k4.x3] 48)).alloc (.cells #[.int .u64 k5.x0, .int .u64 k5.x1, .int .u64 k5.x2, .int .u64 k5.x3] 48)).cell? ⟨wA.heap.size + 1, 2, none⟩ = some (.int .u64 k5.x2) := by go_simp
 have x53 : ((wA.alloc (.cells #[.int .u64 k4.x0, .int .u64 k4.x1, .int .u64 k4.x2, .int .u64 k4.x3] 48)).alloc (.cells #[.int .u64 k5.x0, .int .u64 k5.x1, .int .u64 k5.x2, .int .u64 k5.x3] 48)).cell? ⟨wA.heap.size, 3, none⟩ = some (.int .u64 k4.x3) := by go_simp
 have x63 : ((wA.alloc (.cells #[.int .u64 k4.x0, .int .u64 k4.x1, .int .u64 k4.x2, .int .u64 k4.x3] 48)).alloc (.cells #[.int .u64 k5.x0, .int .u64 k5.x1, .int .u64 k5.x2, .int .u64 k5.x3] 48)).cell? ⟨wA.heap.size + 1, 3, none⟩ = some (.int .u64 k5.x3) := by go_simp
 have SB := hidden (SA.out.keep BX)
 have BB := hidden (bl_trans BA.out BX)
 clear BX SA BA
 generalize ((wA.alloc (.cells #[.int .u64 k4.x0, .int .u64 k4.x1, .int .u64 k4.x2, .int .u64 k4.x3] 48)).alloc (.cells #[.int .u64 k5.x0, .int .u64 k5.x1, .int .u64 k5.x2, .int .u64 k5.x3] 48)) = wB at *
 generalize wA.heap.size = b5 at *
 refine lv7 _ b5 (b5 + 1) k4 k5 k20 _ _ _ _ _ _ _ _ _ _ _ _ _ _ _ _ _ _ _ _ _ _ _ _ _ _ _ _ _ _ _ _ _ _ _ _ _ _ _ _ _ _ _ _ _ _ _ _ _ _ _ _ _ _ _ _ _ _ _ _ _ _ wB ⟨x50, x51, x52, x53, x60, x61, x62, x63, I20⟩ (hidden ?_)
 intro wC t1 t2 t3 t4 rb hb a1 a2 a3 a4 hrb fr
 have y0 := cell_keep x60 hb
 have y1 := cell_keep x61 hb
 have y2 := cell_keep x62 hb
 have y3 := cell_keep x63 hb
 have A1 := hidden (one4s_at a1 OK4.out)
 have A2 := hidden (one4s_at a2 OK5.out)
 have A3 := hidden (one4s_at a3 OK20.out)
 have A4 := hidden (one4s_at a4 OK4.out)
 have FR := hidden fr
 have SCc := hidden (SB.out.keep hb)
 have BC := hidden (bl_trans BB.out hb)
 clear a1 a2 a3 a4 fr hrb hb SB BB x50 x51 x52 x53 x60 x61 x62 x63 I20
 go_upto_region 8 with fail
 refine lv8 _ (b5 + 1) k5 k25 _ _ _ _ _ _ _ _ _ _ _ _ _ _ _ _ _ _ _ _ _ _ _ _ _ _ _ _ _ _ _ _ _ _ _ _ _ _ _ _ _ _ _ _ _ _ _ _ _ _ _ _ _ _ _ _ _ _ _ _ _ _ _ wC ⟨y0, y1, y2, y3, I25⟩ (hidden ?_)
 intro wD s1 s2 s3 s4 sb hb a1 a2 a3 a4 hrb fr
 have R1 := range_bl FR.out hb
 have E1 := hidden (one4s_at a1 OK5.out)
 have E2 := hidden (one4s_at a2 OK5.out)
 have E3' := hidden (one4s_at a3 OK25.out)
 have E4' := hidden (one4s_at a4 OK5.out)
 have G1 := hidden (A1.out.keep hb)
 have G2 := hidden (A2.out.keep hb)
 have G3 := hidden (A3.out.keep hb)
 have G4 := hidden (A4.out.keep hb)
 have SD := hidden (SCc.out.keep hb)
 have BD := hidden (bl_trans BC.out hb)
 have g0 := R1 0 _ rfl
 have g1 := R1 1 _ rfl
 have g2 := R1 2 _ rfl
 have g3 := R1 3 _ rfl
 have z0 := fr 0 _ rfl
 have z1 := fr 1 _ rfl
 have z2 := fr 2 _ rfl
 have z3 := fr 3 _ rfl
 simp only [Nat.zero_add] at g0 g1 g2 g3 z0 z1 z2 z3
 have H1 : Hid (Calls Tryz.prog 21 #[.pointer (some ⟨w.heap.size, 0, none⟩), .agg #[.slice (some ⟨t1, 0, none⟩) 1 1, .slice (some ⟨t2, 0, none⟩) 1 1, .slice (some ⟨t3, 0, none⟩) 1 1, .slice (some ⟨t4, 0, none⟩) 1 1]] wD fun e w' => e = .returned (.int .i64 0) ∧ Below wD.heap.size wD w') := hidden (by
  have h := Holds_any SD.out lvW (HT.out.keep BD.out) (one4s t1 k4) (one4s t2 k5) (one4s t3 k20) (one4s t4 k4) G1.out G2.out G3.out G4.out
  rw [← EQ4.out, ← EQ5.out, ← EQ20.out, ho_good] at h
  exact h)
 have H2 : Hid (∀ y, Below wD.heap.size wD y → Calls Tryz.prog 21 #[.pointer (some ⟨w.heap.size, 0, none⟩), .agg #[.slice (some ⟨s1, 0, none⟩) 1 1, .slice (some ⟨s2, 0, none⟩) 1 1, .slice (some ⟨s3, 0, none⟩) 1 1, .slice (some ⟨s4, 0, none⟩) 1 1]] y fun e w' => e = .returned (.int .i64 203) ∧ Below y.heap.size y w') := hidden (fun y hy => by
  have h := Holds_any (SD.out.keep hy) lvW (HT.out.keep (bl_trans BD.out hy)) (one4s s1 k5) (one4s s2 k5) (one4s s3 k25) (one4s s4 k5) (E1.out.keep hy) (E2.out.keep hy) (E3'.out.keep hy) (E4'.out.keep hy)
  rw [← EQ5.out, ← EQ25.out, ho_bad] at h
  exact h)
 have H3 : Hid (∀ y, Below wD.heap.size wD y → Calls Tryz.prog 10 #[.pointer (some ⟨w.heap.size, 0, none⟩)] y fun e w' => e = .returned (.int .i64 2) ∧ w' = y) := hidden (fun y hy => Requires_any (SD.out.keep hy))
 clear hb a1 a2 a3 a4 hrb fr R1 E1 E2 E3' E4' G1 G2 G3 G4 FR A1 A2 A3 A4 SCc BC y0 y1 y2 y3 I25 SD OK3 OK12 OK4 OK5 OK20 OK25 EQ3 EQ12 EQ4 EQ5 EQ20 EQ25
 go_wp2_with (first | (have _t := H1; go_at_call 21; refine H1.out.mono ?_; rintro e wE ⟨rfl, hb⟩; have B9 := hidden hb; have z0 := cell_keep z0 hb; have z1 := cell_keep z1 hb; have z2 := cell_keep z2 hb; have z3 := cell_keep z3 hb; clear hb H1) | (have _t := B9; go_at_call 21; refine (H2.out _ B9.out).mono ?_; rintro e wF ⟨rfl, hb⟩; have BF := hidden (bl_trans B9.out hb); clear hb B9) | (have _t := BF; go_at_call 10; refine (H3.out _ BF.out).mono ?_; rintro e wG ⟨rfl, rfl⟩))
 refine bodyPost_ret (v := .bool true) (by simp [results, Tryz.results4, go_sem]) rfl ⟨rfl, bl_trans BD.out BF.out⟩
end Ci
end Go.Proofs.YtaejdgpffipaeaaGreatDoor
