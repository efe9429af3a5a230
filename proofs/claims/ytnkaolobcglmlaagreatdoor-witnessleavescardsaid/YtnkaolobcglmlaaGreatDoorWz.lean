import Derived.Test.YtnkaolobcglmlaaGreatDoorWlg
namespace Go.Proofs.YtnkaolobcglmlaaGreatDoor
open Go.RowKit
set_option linter.unusedVariables false
set_option linter.unusedSimpArgs false
open Cm (Wr Tm co bf Ls lf ins Eqm)
namespace Ci
set_option maxRecDepth 100000
set_option maxHeartbeats 8000000
theorem pow_lt2 {i k : Nat} : 2 ^ i < 2 ^ k ↔ i < k := Nat.pow_lt_pow_iff_right (by omega)
theorem w64I (z : Int) (h0 : -9223372036854775808 ≤ z) (h1 : z ≤ 9223372036854775807) : wrap64 z = z := by unfold wrap64; omega
theorem w64 (t : Nat) (h : t ≤ 1024) : wrap64 (t : Int) = (t : Int) := w64I _ (by omega) (by omega)
theorem Log_any (k : Nat) (hk : k ≤ 10) (w : World) : Calls Tryz.prog 31 #[.int .i64 ((2 ^ k : Nat) : Int)] w fun e w' => e = .returned (.int .i64 (k : Int)) ∧ w' = w := by
 have HK := hidden hk
 have hq : 2 ^ k ≤ 1024 := Nat.pow_le_pow_right (by omega) hk
 obtain ⟨q, hq2⟩ : ∃ q, 2 ^ k = q := ⟨_, rfl⟩
 rw [hq2] at hq ⊢
 have QE := hidden hq2
 clear hq2 hk
 go_enter Tryz.func31, Tryz.ntmps31
 go_upto_region 2 with fail
 go_loopw [3] (fun kv w' => ∃ i : Nat, kv = .int .i64 (i : Int) ∧ i ≤ k ∧ Hid (w' = w)) (fun i _ => 2048 - (intOf i).toNat)
 case atStart => exact ⟨0, rfl, by omega, hidden rfl⟩
 case round =>
  obtain ⟨i, rfl, hi, hw⟩ := hrel
  obtain rfl := hw.out
  have i10 : i ≤ 10 := by have := HK.out; omega
  have p10 : 2 ^ i ≤ 1024 := Nat.pow_le_pow_right (by omega) i10
  have s9 : wrap64 ((2 : Int) ^ i) = ((2 ^ i : Nat) : Int) := by
   rw [show ((2 : Int) ^ i) = ((2 ^ i : Nat) : Int) by simp]
   exact w64 _ p10
  have w9 : IntKind.i64.wrap ((i : Int) + 1) = (i : Int) + 1 := IntWalk.i64_in _ (by omega)
  have n0 : ¬ (i : Int) < 0 := by omega
  by_cases hlt : i < k
  ·have hl : wrap64 ((2 : Int) ^ i) < (q : Int) := by rw [s9]; have h1 := (pow_lt2 (i := i) (k := k)).2 hlt; rw [QE.out] at h1; omega
   clear s9 p10 hi
   have HL := hidden hlt
   clear hlt
   go_wp2_with fail
   go_roundw
   case rel => exact ⟨i + 1, by go_num, by have := HL.out; omega, (by first | exact hidden rfl | exact hidden trivial)⟩
   case measure => simp [intOf]; omega
  ·obtain rfl : i = k := by omega
   have hl : ¬ wrap64 ((2 : Int) ^ i) < (q : Int) := by rw [s9, QE.out]; omega
   clear s9 p10 hlt
   go_wp2_with fail
   refine bodyPost_ret (v := .int .i64 (i : Int)) (by simp [results, Tryz.results31, go_sem]) rfl ⟨rfl, rfl⟩
theorem dLeaves_any {base : Nat} {w : World} {s m Kg : Nat} {v : Value} {vs : List Value} {Q : List (List Tm)} (h : Dy base w s m Kg v vs Q) (hK : Kg ≤ 1024) (hQ : Q.length ≤ 4096) : Calls Tryz.prog 11 #[.pointer (some ⟨s, 0, none⟩)] w fun e w' => e = .returned (.int .i64 ((sz Kg * (Q.length + 1) * 12 * 4 ^ rd Kg : Nat) : Int)) ∧ w' = w := by
 have C0 := hidden (dSize_any h hK)
 have r10 := rd_le Kg
 have CL : Hid (∀ y, Calls Tryz.prog 31 #[.int .i64 (sz Kg : Int)] y fun e w' => e = .returned (.int .i64 (rd Kg : Int)) ∧ w' = y) := hidden (fun y => Log_any (rd Kg) r10 y)
 have c2 := h.c2
 obtain ⟨Pv, cv, hv, _, _⟩ := h.shape
 subst hv
 have z1 := sz_le Kg
 generalize sz Kg = z at *
 generalize rd Kg = k at *
 generalize Q.length = nq at *
 clear h
 have m1 : z * (nq + 1) ≤ 1024 * 4097 := Nat.mul_le_mul z1 (by omega)
 have TE : Hid (wrap64 (wrap64 ((z : Int) * ((nq : Int) + 1)) * 12) = ((z * (nq + 1) * 12 : Nat) : Int)) := hidden (by
  have e0 : (z : Int) * ((nq : Int) + 1) = ((z * (nq + 1) : Nat) : Int) := by rw [Int.natCast_mul]; rfl
  rw [e0]
  generalize z * (nq + 1) = t at *
  rw [w64I (t : Int) (by omega) (by omega), w64I ((t : Int) * 12) (by omega) (by omega)]
  omega)
 go_enter Tryz.func11, Tryz.ntmps11
 go_upto_region 2 with (go_at_call 30; refine C0.out.mono ?_; rintro e w1 ⟨rfl, rfl⟩)
 go_upto_region 4 with fail
 clear c2 C0
 have T9 : Hid (z * (nq + 1) * 12 ≤ 50343936) := hidden (by omega)
 generalize hT : z * (nq + 1) * 12 = T at *
 have TQ := hidden hT
 clear m1 hT
 have HK := hidden r10
 go_loopw [4, 5] (fun ov kv w' => ∃ i : Nat, kv = .int .i64 (i : Int) ∧ i ≤ k ∧ ov = .int .i64 ((T * 4 ^ i : Nat) : Int) ∧ Hid (w' = w1)) (fun _ i _ => 2048 - (intOf i).toNat)
 case atStart => exact ⟨0, rfl, by omega, by first | (rw [TE.out]; simp) | simp [TE.out], hidden rfl⟩
 case round =>
  clear TE
  obtain ⟨i, rfl, hi, rfl, hw⟩ := hrel
  obtain rfl := hw.out
  have i10 : i ≤ 10 := by omega
  have w9 : IntKind.i64.wrap ((i : Int) + 1) = (i : Int) + 1 := IntWalk.i64_in _ (by omega)
  have b1 : T * 4 ^ i ≤ 50343936 * 1048576 := Nat.mul_le_mul T9.out (Nat.pow_le_pow_right (by omega) i10 : 4 ^ i ≤ 4 ^ 10)
  have e1 : T * 4 ^ (i + 1) = T * 4 ^ i * 4 := by rw [Nat.pow_succ, Nat.mul_assoc]
  have E1 := hidden e1
  clear e1
  generalize hX : T * 4 ^ i = X at *
  have w8 : wrap64 ((X : Int) * 4) = ((X * 4 : Nat) : Int) := by rw [w64I ((X : Int) * 4) (by omega) (by omega)]; omega
  have W8 := hidden w8
  clear w8
  by_cases hlt : i < k
  ·have hl : (i : Int) < (k : Int) := by omega
   have HLT := hidden hlt
   clear b1 hX hlt
   go_wp2_with (go_at_call 31; refine (CL.out _).mono ?_; rintro e w2 ⟨rfl, hw2⟩; rw [hw2]; clear hw2 w2)
   go_roundw
   case rel => exact ⟨i + 1, by go_num, by have := HLT.out; omega, by rw [E1.out, ← W8.out], (by first | exact hidden rfl | exact hidden trivial)⟩
   case measure => simp [intOf]; omega
  ·obtain rfl : i = k := by omega
   have hl : ¬ (i : Int) < (i : Int) := by omega
   have HX := hidden hX
   clear b1 hX W8 E1
   go_wp2_with (go_at_call 31; refine (CL.out _).mono ?_; rintro e w2 ⟨rfl, hw2⟩; rw [hw2]; clear hw2 w2)
   refine bodyPost_ret (v := .int .i64 (X : Int)) (by simp [results, Tryz.results11, go_sem]) rfl ⟨by rw [TQ.out, HX.out], rfl⟩
end Ci
end Go.Proofs.YtnkaolobcglmlaaGreatDoor
namespace Go.Proofs.YtnkaolobcglmlaaGreatDoor
open Go.RowKit
set_option linter.unusedVariables false
set_option linter.unusedSimpArgs false
open Cm (Wr Tm co bf Ls lf ins Eqm)
namespace Ci
set_option maxRecDepth 100000
set_option maxHeartbeats 8000000
theorem len64_q (x : Nat) (hx : x ≤ 1024) (w : World) : Calls Tryz.prog 70 #[.int .u64 (x : Int)] w fun e w' => (∃ r : Int, e = .returned (.int .i64 r)) ∧ w' = w := by
 have g0 : ¬ 4294967296 ≤ (x : Int) := by omega
 have g1 : ¬ 65536 ≤ (x : Int) := by omega
 by_cases g2 : 256 ≤ (x : Int)
 ·have hb0 : 0 ≤ (x : Int) / 256 := by omega
  have hb1 : (x : Int) / 256 ≤ 255 := by omega
  clear hx
  generalize (x : Int) = y at *
  go_enter Tryz.func70, Tryz.ntmps70
  go_wp2_with fail
  refine bodyPost_ret (v := .int .i64 (wrap64 (8 + wrap64 (Lib.len8 (y / 256))))) (by simp [results, Tryz.results70, go_sem]) rfl ⟨⟨_, rfl⟩, rfl⟩
 ·have hb0 : 0 ≤ (x : Int) := by omega
  have hb1 : (x : Int) ≤ 255 := by omega
  clear hx
  generalize (x : Int) = y at *
  go_enter Tryz.func70, Tryz.ntmps70
  go_wp2_with fail
  refine bodyPost_ret (v := .int .i64 (wrap64 (wrap64 (Lib.len8 y)))) (by simp [results, Tryz.results70, go_sem]) rfl ⟨⟨_, rfl⟩, rfl⟩
theorem len_q (x : Nat) (hx : x ≤ 1024) (w : World) : Calls Tryz.prog 49 #[.int .u64 (x : Int)] w fun e w' => (∃ r : Int, e = .returned (.int .i64 r)) ∧ w' = w := by
 have LL := hidden (len64_q x hx w)
 have h1 : (0 : Int) ≤ (x : Int) := by omega
 have h2 : (x : Int) < 18446744073709551616 := by omega
 clear hx
 generalize (x : Int) = z at *
 go_enter Tryz.func49, Tryz.ntmps49
 go_wp2_with (first | (go_at_call 70; refine (LL.out).mono ?_; rintro e w1 ⟨⟨y, rfl⟩, rfl⟩))
 refine bodyPost_ret (v := .int .i64 y) (by simp [results, Tryz.results49, go_sem]) rfl ⟨⟨y, rfl⟩, rfl⟩
theorem shapeOf_of (v : Value) (q nq : Nat) (w : World) (hq : q ≤ 1024) (hn : nq ≤ 4096) (hS : ∀ y, Below w.heap.size w y → Calls Tryz.prog 48 #[v] y fun e w' => e = .returned (.int .i64 (q : Int)) ∧ Below y.heap.size y w') (hR : ∀ y, Below w.heap.size w y → Calls Tryz.prog 22 #[v] y fun e w' => e = .returned (.int .i64 (nq : Int)) ∧ w' = y) : Calls Tryz.prog 23 #[v] w fun e w' => (∃ r : Int, e = .returned (.agg #[.int .i64 (q : Int), .int .i64 ((nq + 1 : Nat) : Int), .int .i64 r])) ∧ Below w.heap.size w w' := by
 have BA := hidden (bl_alloc w (.cells #[.int .i64 0, .int .i64 0, .int .i64 0] 89))
 have HM : Hid ((w.alloc (.cells #[.int .i64 0, .int .i64 0, .int .i64 0] 89)).heap[w.heap.size]? = some (.cells #[.int .i64 0, .int .i64 0, .int .i64 0] 89 (0, 0))) := hidden (heap_alloc_new w _)
 have C0 := hidden hS
 have C1 := hidden hR
 have C2 := hidden (fun y => len_q q hq y)
 have q0 : (0 : Int) ≤ (q : Int) := by omega
 have q1 : (q : Int) < 9223372036854775808 := by omega
 have w9 : wrap64 ((nq : Int) + 1) = ((nq + 1 : Nat) : Int) := by rw [w64I _ (by omega) (by omega)]; rfl
 clear hS hR hq hn
 go_enter Tryz.func23, Tryz.ntmps23
 go_upto_region 1 with fail
 generalize w.alloc (.cells #[.int .i64 0, .int .i64 0, .int .i64 0] 89) = w1 at *
 replace C0 := hidden (C0.out w1 BA.out)
 go_upto_region 2 with (go_at_call 48; refine C0.out.mono ?_; rintro e w2 ⟨rfl, hb⟩; have B2 := hidden (bl_trans BA.out hb); have H2 := hidden ((hb.block _ (Array.getElem?_eq_some_iff.1 HM.out).1).trans HM.out); clear hb)
 replace C1 := hidden (C1.out w2 B2.out)
 have c0 := cell_of_row w2 w.heap.size 0 _ 89 (0, 0) H2.out
 have c1 := cell_of_row w2 w.heap.size 1 _ 89 (0, 0) H2.out
 have c2 := cell_of_row w2 w.heap.size 2 _ 89 (0, 0) H2.out
 have ff : ∀ j, w2.frozen? ⟨w.heap.size, j, none⟩ = false := fun j => by unfold World.frozen?; rw [H2.out]; simp
 have f0 := ff 0
 have f1 := ff 1
 have f2 := ff 2
 simp at c0 c1 c2
 clear ff H2 HM BA C0
 go_wp2_with (first | (have _t := C1; go_at_call 22; refine C1.out.mono ?_; rintro e w3 ⟨rfl, hw3⟩; rw [hw3]; clear hw3 w3 _t C1) | (go_at_call 49; refine (C2.out _).mono ?_; rintro e w4 ⟨⟨r, rfl⟩, hw4⟩; rw [hw4]; clear hw4 w4))
 refine bodyPost_ret (v := .agg #[.int .i64 (q : Int), .int .i64 ((nq + 1 : Nat) : Int), .int .i64 (wrap64 (r - 1))]) (by simp [results, Tryz.results23, go_sem, c0, c1, c2]) rfl ⟨⟨_, rfl⟩, ?_⟩
 exact bl_cell (bl_cell (bl_cell B2.out (by omega)) (by omega)) (by omega)
theorem Leaves_of (v : Value) (q nq : Nat) (w : World) (hq : q ≤ 1024) (hn : nq ≤ 4096) (h : Calls Tryz.prog 23 #[v] w fun e w' => (∃ r : Int, e = .returned (.agg #[.int .i64 (q : Int), .int .i64 ((nq + 1 : Nat) : Int), .int .i64 r])) ∧ Below w.heap.size w w') : Calls Tryz.prog 5 #[v] w fun e w' => e = .returned (.int .i64 ((q * (nq + 1) * 12 * (q * q) : Nat) : Int)) ∧ Below w.heap.size w w' := by
 have C0 := hidden h
 obtain ⟨N, hN⟩ : ∃ N, nq + 1 = N := ⟨_, rfl⟩
 have b1 : q * N ≤ 1024 * 4097 := Nat.mul_le_mul hq (by omega)
 have b2 : q * q ≤ 1024 * 1024 := Nat.mul_le_mul hq hq
 have b4 : q * N * 12 * q ≤ 1024 * 4097 * 12 * 1024 := Nat.mul_le_mul (Nat.mul_le_mul_right 12 b1) hq
 have b5 : q * N * 12 * q * q ≤ 1024 * 4097 * 12 * 1024 * 1024 := Nat.mul_le_mul b4 hq
 have E : Hid (wrap64 (wrap64 (wrap64 (wrap64 (wrap64 ((q : Int) * (N : Int)) * 6) * 2) * (q : Int)) * (q : Int)) = ((q * (nq + 1) * 12 * (q * q) : Nat) : Int)) := hidden (by
  rw [hN, ← Int.natCast_mul, w64I ((q * N : Nat) : Int) (by omega) (by omega), w64I (((q * N : Nat) : Int) * 6) (by omega) (by omega), w64I (((q * N : Nat) : Int) * 6 * 2) (by omega) (by omega)]
  rw [show ((q * N : Nat) : Int) * 6 * 2 = ((q * N * 12 : Nat) : Int) by omega, ← Int.natCast_mul, w64I ((q * N * 12 * q : Nat) : Int) (by omega) (by omega), ← Int.natCast_mul, w64I ((q * N * 12 * q * q : Nat) : Int) (by omega) (by omega), Nat.mul_assoc])
 generalize ((q * (nq + 1) * 12 * (q * q) : Nat) : Int) = R at *
 rw [hN] at C0
 clear h b1 b2 b4 b5 hN
 go_enter Tryz.func5, Tryz.ntmps5
 go_upto_region 2 with (go_at_call 23; refine C0.out.mono ?_; rintro e w2 ⟨⟨r, rfl⟩, hb⟩; have B2 := hidden (bl_trans hb (bl_alloc w2 (.cells #[.int .i64 (q : Int), .int .i64 (N : Int), .int .i64 r] 89))); clear hb)
 clear C0
 go_wp2_with fail
 refine bodyPost_ret (v := .int .i64 (wrap64 (wrap64 (wrap64 (wrap64 (wrap64 ((q : Int) * (N : Int)) * 6) * 2) * (q : Int)) * (q : Int)))) (by simp [results, Tryz.results5, go_sem]) rfl ⟨by rw [E.out], B2.out⟩
theorem four_sq (k : Nat) : 2 ^ k * 2 ^ k = 4 ^ k := by rw [← Nat.mul_pow]
theorem Leaves_any {base : Nat} {w : World} {s m Kg : Nat} {v : Value} {vs : List Value} {Q : List (List Tm)} (h : Sy base w s m Kg v vs Q) (hq : Q.length ≤ 4096) (hK : Kg ≤ 1024) : Calls Tryz.prog 5 #[.pointer (some ⟨s, 0, none⟩)] w fun e w' => e = .returned (.int .i64 ((sz Kg * (Q.length + 1) * 12 * 4 ^ rd Kg : Nat) : Int)) ∧ Below w.heap.size w w' := by
 have C := Leaves_of (.pointer (some ⟨s, 0, none⟩)) (sz Kg) Q.length w (sz_le Kg) hq (shapeOf_of _ (sz Kg) Q.length w (sz_le Kg) hq (fun y hy => Size_of _ (.bool true) (.int .i64 (sz Kg : Int)) (.bool true) (.bool true) _ y rfl ((subjectOf_any (h.keep hy) hq hK).mono fun e w' ⟨t', he, hb⟩ => ⟨_, _, _, he, hb⟩)) (fun y hy => (Requires_any (h.keep hy)).mono fun e w' hh => hh))
 have e : sz Kg * sz Kg = 4 ^ rd Kg := by unfold sz; exact four_sq _
 rw [e] at C
 exact C
theorem none_nil (y : World) : Calls Tryz.prog 25 #[.pointer none] y fun e w' => e = .returned (.bool true) ∧ w' = y := by
 go_enter Tryz.func25, Tryz.ntmps25
 go_wp2_with fail
 refine bodyPost_ret (v := .bool true) (by simp [results, Tryz.results25, go_sem]) rfl ⟨rfl, rfl⟩
theorem Requires_nil (w : World) : Calls Tryz.prog 22 #[.pointer none] w fun e w' => e = .returned (.int .i64 ((0 : Nat) : Int)) ∧ w' = w := by
 have C := hidden (none_nil w)
 go_enter Tryz.func22, Tryz.ntmps22
 go_wp2_with (go_at_call 25; refine C.out.mono ?_; rintro e w1 ⟨rfl, hw1⟩; rw [hw1]; clear hw1 w1)
 refine bodyPost_ret (v := .int .i64 0) (by simp [results, Tryz.results22, go_sem]) rfl ⟨rfl, rfl⟩
theorem Leaves_nil (w : World) : Calls Tryz.prog 5 #[.pointer none] w fun e w' => e = .returned (.int .i64 0) ∧ Below w.heap.size w w' := by
 have C := Leaves_of (.pointer none) 0 0 w (by omega) (by omega) (shapeOf_of _ 0 0 w (by omega) (by omega) (fun y hy => Size_of _ (.bool true) (.int .i64 0) (.bool true) (.bool true) _ y rfl ((subjectOf_none _ y (fun x hx => Clone_nil x)).mono fun e w' ⟨he, hb⟩ => ⟨_, _, _, he, hb⟩)) (fun y hy => Requires_nil y))
 simpa using C
end Ci
end Go.Proofs.YtnkaolobcglmlaaGreatDoor
namespace Go.Proofs.YtnkaolobcglmlaaGreatDoor
open Go.RowKit
set_option linter.unusedVariables false
set_option linter.unusedSimpArgs false
open Cm (Wr Tm co bf Ls lf ins Eqm)
namespace Ci
set_option maxRecDepth 100000
set_option maxHeartbeats 8000000
theorem Ok4.own {mb b0 : Nat} {x y : World} (h : Ok4 mb b0 x y) {b1 sz : Nat} {e : TypeId} {u : Value} {n : Nat} {xs : List Value} (ho : x.ownsRow b1 e sz u n xs) (h1 : e ≠ 41) (h2 : e ≠ 64) (h3 : e ≠ 62) : y.ownsRow b1 e sz u n xs := ⟨ho.1, by
 rcases ho.2 with h0 | ⟨g, c, cur, k1, k2, k3, k4⟩
 ·exact .inl h0
 ·exact .inr ⟨g, c, cur, k1, k2, h.ot g cur e k3 (fun he => absurd he h1) h2 h3, k4⟩⟩
theorem Sy.ok4 {base : Nat} {w : World} {s m Kg : Nat} {v : Value} {vs : List Value} {Q : List (List Tm)} {mb b0 : Nat} {y : World} (h : Sy base w s m Kg v vs Q) (k : Ok4 mb b0 w y) : Sy base y s m Kg v vs Q :=
 ⟨k.ot _ _ _ h.h (fun he => absurd he (by decide)) (by decide) (by decide), k.own h.row (by decide) (by decide) (by decide), fun i X hX => by obtain ⟨u, h1, h2⟩ := h.ls i X hX; exact ⟨u, h1, k.own h2 (by decide) (by decide) (by decide)⟩, h.bs, h.sm⟩
theorem Dy.ok4 {base : Nat} {w : World} {s m Kg : Nat} {v : Value} {vs : List Value} {Q : List (List Tm)} {mb b0 : Nat} {y : World} (h : Dy base w s m Kg v vs Q) (k : Ok4 mb b0 w y) : Dy base y s m Kg v vs Q :=
 ⟨k.ot _ _ _ h.h (fun he => absurd he (by decide)) (by decide) (by decide), k.own h.row (by decide) (by decide) (by decide), fun i X hX => by obtain ⟨u, h1, h2⟩ := h.ls i X hX; exact ⟨u, h1, k.own h2 (by decide) (by decide) (by decide)⟩, h.bs, h.sm⟩
theorem PD.ok4 {w : World} {t r m K1 K2 : Nat} {Q1 Q2 : List (List Tm)} {mb : Nat} {x y : World} (h : PD w t r m K1 K2 Q1 Q2 x) (k : Ok4 mb w.heap.size x y) : PD w t r m K1 K2 Q1 Q2 y := by
 obtain ⟨⟨b1, v1, s1, p1, l1⟩, ⟨b2, v2, s2, p2, l2⟩, bl, q1, q2, k1, k2⟩ := h
 exact ⟨⟨b1, v1, s1, p1.ok4 k, l1⟩, ⟨b2, v2, s2, p2.ok4 k, l2⟩, bl.trans k.bl, q1, q2, k1, k2⟩
theorem tyM_or (i : Nat) : tyM i = 64 ∨ tyM i = 62 := by unfold tyM; split <;> simp
theorem Md.ok2 {b0 : Nat} {x y : World} {mb t r : Nat} {n : Nat → Nat} {p : Nat → Option Addr} {c : Nat → Nat} {Z : Nat → List Int} {ts tr : TypeId} (h : Md b0 x mb t r n p c Z) (k : Ok2 ts tr x y) (h1 : 41 ≠ ts ∧ 41 ≠ tr) (h2 : 64 ≠ ts ∧ 64 ≠ tr) (h3 : 62 ≠ ts ∧ 62 ≠ tr) : Md b0 y mb t r n p c Z :=
 ⟨k _ _ _ h.hm h1.1 h1.2, fun i hi => k.own (h.ow i hi) (by rcases tyM_or i with e | e <;> rw [e]; exact h2.1; exact h3.1) (by rcases tyM_or i with e | e <;> rw [e]; exact h2.2; exact h3.2), h.dj, h.bm⟩
theorem Md.pOk {b0 : Nat} {x y : World} {mb t r : Nat} {n : Nat → Nat} {p : Nat → Option Addr} {c : Nat → Nat} {Z : Nat → List Int} (h : Md b0 x mb t r n p c Z) (k : Ok2 94 67 x y) : Md b0 y mb t r n p c Z := h.ok2 k (by decide) (by decide) (by decide)
theorem Md.dOk {b0 : Nat} {x y : World} {mb t r : Nat} {n : Nat → Nat} {p : Nat → Option Addr} {c : Nat → Nat} {Z : Nat → List Int} (h : Md b0 x mb t r n p c Z) (k : Ok2 79 69 x y) : Md b0 y mb t r n p c Z := h.ok2 k (by decide) (by decide) (by decide)
theorem ssl_len (Z : List Int) : (ssl Z).length = Z.length * 4 := by
 induction Z with
 | nil => rfl
 | cons z Z ih => simp [ssl] at *; omega
theorem Md.ag {b0 : Nat} {x : World} {mb t r : Nat} {n : Nat → Nat} {p : Nat → Option Addr} {c : Nat → Nat} {Z : Nat → List Int} {K m : Nat} (h : Md b0 x mb t r n p c Z) (h4 : n 4 = K) (h5 : n 5 = K) (h6 : n 6 = K) (h7 : n 7 = m) : Ag b0 x K m (.slice (p 4) K (c 4)) (.slice (p 5) K (c 5)) (.slice (p 6) K (c 6)) (.slice (p 7) m (c 7)) (Z 4) (Z 5) (Z 6) (Z 7) := by
 have o4 := h.ow 4 (by omega)
 have o5 := h.ow 5 (by omega)
 have o6 := h.ow 6 (by omega)
 have o7 := h.ow 7 (by omega)
 rw [h4] at o4
 rw [h5] at o5
 rw [h6] at o6
 rw [h7] at o7
 have l4 := o4.1
 have l5 := o5.1
 have l6 := o6.1
 have l7 := o7.1
 rw [ssl_len] at l4 l5 l6 l7
 exact ⟨o4, o5, o6, o7, by omega, by omega, by omega, by omega⟩
theorem gl_hs {m K n : Nat} {f : Nat → Trm} (h : ∀ k, k < n → hs m K (f k).q = true) : ∀ y ∈ glL n f, hs m K y.1 = true := fun y hy => by
 obtain ⟨k, hk, rfl⟩ := List.mem_map.1 hy
 exact h k (List.mem_range.1 hk)
theorem PD.pMul {w : World} {t r m K1 K2 : Nat} {Q1 Q2 : List (List Tm)} {x : World} (h : PD w t r m K1 K2 Q1 Q2 x) (hT : Tb w) (Pa Pb : Option Addr) (na ca nb cb : Nat) (fa fb : Nat → Trm) (hna : na ≤ 1000) (hnb : nb ≤ 1000) (hfa : ∀ k, k < na → (fa k).a.ok ∧ hs m K1 (fa k).q = true) (hfb : ∀ k, k < nb → (fb k).a.ok ∧ hs m K1 (fb k).q = true) (ha : Lt x Pa na fa) (hb : Lt x Pb nb fb) (hq : Q1.length ≤ 4094) (hK : K1 < 1024) :
  Calls Tryz.prog 18 #[.pointer (some ⟨t, 0, none⟩), .slice Pa na ca, .slice Pb nb cb] x fun e x' => e = .returned (tup 2 K1 3 K1 4 K1 0) ∧ (∃ Q', Q'.length = Q1.length + 2 ∧ PD w t r m (K1 + 1) K2 Q' Q2 x') ∧ Ok2 94 67 x x' := by
 obtain ⟨⟨b1, v1, s1, p1, l1⟩, ⟨b2, v2, s2, p2, l2⟩, bl, q1, q2, k1, k2⟩ := h
 exact (Multiply_ok p1 (hT.keep bl) Pa Pb na ca nb cb fa fb (by omega) (by omega) (fun k hk => (hfa k hk).1) (fun k hk => (hfb k hk).1) ha hb (nm_lf (gl_hs fun k hk => (hfa k hk).2)) (nm_lf (gl_hs fun k hk => (hfb k hk).2)) hq hK).mono fun e x' ⟨he, v', vs', h1, h2⟩ => ⟨he, ⟨_, by rw [List.length_append]; rfl, ⟨⟨b1, v', _, h1, l1⟩, ⟨b2, v2, s2, p2.fz2 p1 h2, l2⟩, fzb bl l1 p1.bs p1.row h2, by rw [List.length_append]; simp; omega, q2, by omega, k2⟩⟩, Ok2.of h2 p1.h p1.row⟩
theorem PD.dMul {w : World} {t r m K1 K2 : Nat} {Q1 Q2 : List (List Tm)} {x : World} (h : PD w t r m K1 K2 Q1 Q2 x) (Pa Pb : Option Addr) (ca cb : Nat) (A B : List Tm) (hna : A.length ≤ 1048576) (hnb : B.length ≤ 1048576) (ha : x.ownsRow 0 86 6 (.slice Pa A.length ca) A.length (tls A)) (hb : x.ownsRow 0 86 6 (.slice Pb B.length cb) B.length (tls B)) (hwa : ∀ y ∈ A, hs m K2 y.1 = true) (hwb : ∀ y ∈ B, hs m K2 y.1 = true) (hq : Q2.length ≤ 4094) (hK : K2 < 1024) :
  Calls Tryz.prog 19 #[.pointer (some ⟨r, 0, none⟩), .slice Pa A.length ca, .slice Pb B.length cb] x fun e x' => e = .returned (tup 2 K2 3 K2 4 K2 0) ∧ (∃ Q', Q'.length = Q2.length + 2 ∧ PD w t r m K1 (K2 + 1) Q1 Q' x') ∧ Ok2 79 69 x x' := by
 obtain ⟨⟨b1, v1, s1, p1, l1⟩, ⟨b2, v2, s2, p2, l2⟩, bl, q1, q2, k1, k2⟩ := h
 exact (dMultiply_ok p2 Pa Pb ca cb A B hna hnb ha hb (nm_lf hwa) (nm_lf hwb) hq hK).mono fun e x' ⟨he, v', vs', Q', hl, h1, h2⟩ => ⟨he, ⟨Q', hl, ⟨⟨b1, v1, s1, p1.fz2 p2 h2, l1⟩, ⟨b2, v', _, h1, l2⟩, fzb bl l2 p2.bs p2.row h2, q1, by omega, k1, by omega⟩⟩, Ok2.of h2 p2.h p2.row⟩
theorem rqE_ok {m K : Nat} {Q : List (List Tm)} {Y : List Tm} (h : ∀ y ∈ Y, hs m K y.1 = true) (hq : Q.length < 4096) : rqE m K Q (lf Sm.L Y) = 0 ∧ (rqQ m K Q (lf Sm.L Y)).length = Q.length + 1 := by
 have hw := nm_lf h
 unfold rqE rqQ
 rw [if_pos hw, if_pos hq, if_pos ⟨hw, hq⟩, List.length_append]
 exact ⟨rfl, rfl⟩
end Ci
end Go.Proofs.YtnkaolobcglmlaaGreatDoor
namespace Go.Proofs.YtnkaolobcglmlaaGreatDoor
open Go.RowKit
set_option linter.unusedVariables false
set_option linter.unusedSimpArgs false
open Cm (Wr Tm co bf Ls lf ins Eqm)
namespace Ci
set_option maxRecDepth 100000
set_option maxHeartbeats 8000000
structure Rl4 (w : World) (b o n : Nat) (g : Nat → E4) : Prop where
 c0 : ∀ k, k < n → w.cell? ⟨b, o + k * 4, none⟩ = some (.int .u64 (g k).x0)
 c1 : ∀ k, k < n → w.cell? ⟨b, o + k * 4 + 1, none⟩ = some (.int .u64 (g k).x1)
 c2 : ∀ k, k < n → w.cell? ⟨b, o + k * 4 + 2, none⟩ = some (.int .u64 (g k).x2)
 c3 : ∀ k, k < n → w.cell? ⟨b, o + k * 4 + 3, none⟩ = some (.int .u64 (g k).x3)
theorem Rl4.keep {w1 w2 : World} {b o n : Nat} {g : Nat → E4} (h : Rl4 w1 b o n g) (hb : Below w1.heap.size w1 w2) : Rl4 w2 b o n g :=
 ⟨fun k hk => cell_keep (h.c0 k hk) hb, fun k hk => cell_keep (h.c1 k hk) hb, fun k hk => cell_keep (h.c2 k hk) hb, fun k hk => cell_keep (h.c3 k hk) hb⟩
def Lf4 (w : World) (P : Option Addr) (n : Nat) (g : Nat → E4) : Prop := n = 0 ∨ ∃ b o, P = some ⟨b, o, none⟩ ∧ Rl4 w b o n g ∧ ∀ k, k < n → (g k).ok
theorem Lf4.keep {w w' : World} {P : Option Addr} {n : Nat} {g : Nat → E4} (h : Lf4 w P n g) (hb : Below w.heap.size w w') : Lf4 w' P n g := by
 rcases h with h | ⟨b, o, e, h, k⟩
 ·exact .inl h
 ·exact .inr ⟨b, o, e, h.keep hb, k⟩
structure Prl where
 p : Option Addr
 n : Nat
 c : Nat
 a : Nat → Int
 g : Nat → E4
structure Ops (w : World) (b o n : Nat) (D : Nat → Int) (A B : Nat → Prl) : Prop where
 c0 : ∀ k, k < n → w.cell? ⟨b, o + k * 3, none⟩ = some (.int .i64 (D k))
 c1 : ∀ k, k < n → w.cell? ⟨b, o + k * 3 + 1, none⟩ = some (.slice (A k).p (A k).n (A k).c)
 c2 : ∀ k, k < n → w.cell? ⟨b, o + k * 3 + 2, none⟩ = some (.slice (B k).p (B k).n (B k).c)
 la : ∀ k, k < n → Prt w (A k).p (A k).n (A k).a (A k).g
 lb : ∀ k, k < n → Prt w (B k).p (B k).n (B k).a (B k).g
theorem Ops.keep {w w' : World} {b o n : Nat} {D : Nat → Int} {A B : Nat → Prl} (h : Ops w b o n D A B) (hb : Below w.heap.size w w') : Ops w' b o n D A B :=
 ⟨fun k hk => cell_keep (h.c0 k hk) hb, fun k hk => cell_keep (h.c1 k hk) hb, fun k hk => cell_keep (h.c2 k hk) hb, fun k hk => (h.la k hk).keep hb, fun k hk => (h.lb k hk).keep hb⟩
def Opl (w : World) (P : Option Addr) (n : Nat) (D : Nat → Int) (A B : Nat → Prl) : Prop := n = 0 ∨ ∃ b o, P = some ⟨b, o, none⟩ ∧ Ops w b o n D A B
theorem Opl.keep {w w' : World} {P : Option Addr} {n : Nat} {D : Nat → Int} {A B : Nat → Prl} (h : Opl w P n D A B) (hb : Below w.heap.size w w') : Opl w' P n D A B := by
 rcases h with h | ⟨b, o, e, h⟩
 ·exact .inl h
 ·exact .inr ⟨b, o, e, h.keep hb⟩
structure Wc (w : World) (cs : Array Value) (Pv Pf Po : Option Addr) (nv cv nf cf no co : Nat) (V F : Nat → E4) (D : Nat → Int) (A B : Nat → Prl) : Prop where
 h67 : cs[67]? = some (.slice Pv nv cv)
 h68 : cs[68]? = some (.slice Pf nf cf)
 h70 : cs[70]? = some (.slice Po no co)
 v : Lf4 w Pv nv V
 f : Lf4 w Pf nf F
 o : Opl w Po no D A B
theorem Wc.keep {w w' : World} {cs : Array Value} {Pv Pf Po : Option Addr} {nv cv nf cf no co : Nat} {V F : Nat → E4} {D : Nat → Int} {A B : Nat → Prl} (h : Wc w cs Pv Pf Po nv cv nf cf no co V F D A B) (hb : Below w.heap.size w w') : Wc w' cs Pv Pf Po nv cv nf cf no co V F D A B := ⟨h.h67, h.h68, h.h70, h.v.keep hb, h.f.keep hb, h.o.keep hb⟩
structure Bd (w : World) (cs : Array Value) (t r m mb rb K : Nat) (Q1 Q2 : List (List Tm)) (n : Nat → Nat) (p : Nat → Option Addr) (c : Nat → Nat) (Z : Nat → List Int) (x : World) : Prop where
 pd : PD w t r m K K Q1 Q2 x
 md : Md w.heap.size x mb t r n p c Z
 cb : x.heap[w.heap.size]? = some (.cells cs 31 (0, 0))
 hr : ∃ cur, x.heap[rb]? = some (.cells cur 41 (0, 0)) ∧ cur.size = 10
 ne : rb ≠ mb
 lr : w.heap.size ≤ rb
section
variable {w : World} {cs : Array Value} {t r m mb rb K : Nat} {Q1 Q2 : List (List Tm)} {n : Nat → Nat} {p : Nat → Option Addr} {c : Nat → Nat} {Z : Nat → List Int} {x y : World}
theorem Bd.keep (h : Bd w cs t r m mb rb K Q1 Q2 n p c Z x) (hb : Below x.heap.size x y) : Bd w cs t r m mb rb K Q1 Q2 n p c Z y :=
 ⟨h.pd.keep hb, h.md.keep hb, (hb.block _ (Array.getElem?_eq_some_iff.1 h.cb).1).trans h.cb, by obtain ⟨cur, k1, k2⟩ := h.hr; exact ⟨cur, (hb.block _ (Array.getElem?_eq_some_iff.1 k1).1).trans k1, k2⟩, h.ne, h.lr⟩
theorem Bd.ok4 {n' : Nat → Nat} {p' : Nat → Option Addr} {c' : Nat → Nat} {Z' : Nat → List Int} (h : Bd w cs t r m mb rb K Q1 Q2 n p c Z x) (k : Ok4 mb w.heap.size x y) (hm : Md w.heap.size y mb t r n' p' c' Z') : Bd w cs t r m mb rb K Q1 Q2 n' p' c' Z' y :=
 ⟨h.pd.ok4 k, hm, k.ot _ _ _ h.cb (fun e => absurd e (by decide)) (by decide) (by decide), by obtain ⟨cur, k1, k2⟩ := h.hr; exact ⟨cur, k.ot _ _ _ k1 (fun _ => h.ne) (by decide) (by decide), k2⟩, h.ne, h.lr⟩
theorem Bd.c1 (h : Bd w cs t r m mb rb K Q1 Q2 n p c Z x) (j : Nat) : x.cell? ⟨w.heap.size, j, none⟩ = cs[j]? := cell_of_row x w.heap.size j _ 31 (0, 0) h.cb
end
theorem Bd.two {w : World} {cs : Array Value} {t r m mb rb K : Nat} {Q1 Q2 : List (List Tm)} {n : Nat → Nat} {p : Nat → Option Addr} {c : Nat → Nat} {Z : Nat → List Int} {x y z : World} (h : Bd w cs t r m mb rb K Q1 Q2 n p c Z x) {K' : Nat} {R1 R2 : List (List Tm)} (k1 : Ok2 94 67 x y) (k2 : Ok2 79 69 y z) (hp : PD w t r m K' K' R1 R2 z) : Bd w cs t r m mb rb K' R1 R2 n p c Z z :=
 ⟨hp, (h.md.pOk k1).dOk k2, k2 _ _ _ (k1 _ _ _ h.cb (by decide) (by decide)) (by decide) (by decide), by obtain ⟨cur, q1, q2⟩ := h.hr; exact ⟨cur, k2 _ _ _ (k1 _ _ _ q1 (by decide) (by decide)) (by decide) (by decide), q2⟩, h.ne, h.lr⟩
theorem Bs3.ok2 {x y : World} {B mb : Nat} {z : Int} {n : Nat → Nat} {p : Nat → Option Addr} {c : Nat → Nat} {ts tr : TypeId} (h : Bs3 x B z mb n p c) (k : Ok2 ts tr x y) (h1 : 62 ≠ ts) (h2 : 62 ≠ tr) : Bs3 y B z mb n p c := ⟨k _ _ _ h.1 h1 h2, h.2⟩
end Ci
end Go.Proofs.YtnkaolobcglmlaaGreatDoor
namespace Go.Proofs.YtnkaolobcglmlaaGreatDoor
open Go.RowKit
set_option linter.unusedVariables false
set_option linter.unusedSimpArgs false
open Cm (Wr Tm co bf Ls lf ins Eqm)
namespace Ci
set_option maxRecDepth 100000
set_option maxHeartbeats 8000000
def VsP (b0 : Nat) (x y : World) (mb t r i : Nat) (n : Nat → Nat) (p : Nat → Option Addr) (c : Nat → Nat) : Prop := ∃ n' p' c' Z', Md b0 y mb t r n' p' c' Z' ∧ Ok4 mb b0 x y ∧ (n' = ud n i (n i + 1)) ∧ ∀ B z, Bs3 x B z mb n p c → Bs3 y B z mb n' p' c'
theorem vstep {b0 : Nat} {x w4 : World} {ob : Obj} {mb t r : Nat} {n : Nat → Nat} {p : Nat → Option Addr} {c : Nat → Nat} {Z : Nat → List Int} (h : Md b0 x mb t r n p c Z) {i : Nat} (hi : i < 8) {P4 : Option Addr} {c4 : Nat} {z : Int}
  (hg : (x.alloc ob).grownBy w4 (Value.slice (p i) (n i) (c i)).ownBlock) (ho : w4.ownsRow b0 (tyM i) 4 (.slice P4 (n i + 1) c4) (n i + 1) (ssl (Z i) ++ [.int .u64 (lst z).x0, .int .u64 (lst z).x1, .int .u64 (lst z).x2, .int .u64 (lst z).x3])) (ha : (Value.slice P4 (n i + 1) c4).ownBlock = (Value.slice (p i) (n i) (c i)).ownBlock ∨ (Value.slice P4 (n i + 1) c4).ownBlock = some (x.alloc ob).heap.size) :
  VsP b0 x (w4.setCells mb (2 + i) [.slice P4 (n i + 1) c4]) mb t r i n p c := by
 have hm := ((bl_alloc x ob).block mb (Array.getElem?_eq_some_iff.1 h.hm).1).trans h.hm
 have h4 := blk_gr hm (own_keepT (h.ow i hi) (bl_alloc x ob)) (Ne.symm (tyM_ne i)) hg
 refine stp h hi (((Fy.refl0 x).bel (bl_alloc x ob)).row hg |>.sys (gb_setCells mb [.slice P4 (n i + 1) c4] (2 + i) w4)) (putfin rfl h4 ho (tyM_ne i)) (fun k hk => ?_)
 rcases ha with e | e
 ·exact .inl (e.symm.trans hk)
 ·refine .inr ?_
  rw [e] at hk
  have := Option.some.inj hk
  have := (bl_alloc x ob).size
  omega
theorem md_store {b0 : Nat} {x w4 : World} {ob : Obj} {mb t r : Nat} {n : Nat → Nat} {p : Nat → Option Addr} {c : Nat → Nat} {Z : Nat → List Int} (h : Md b0 x mb t r n p c Z) {i : Nat} (hi : i < 8)
  (hg : (x.alloc ob).grownBy w4 (Value.slice (p i) (n i) (c i)).ownBlock) : w4.cell? ⟨mb, 2 + i, none⟩ = some (.slice (p i) (n i) (c i)) ∧ w4.frozen? ⟨mb, 2 + i, none⟩ = false := by
 have hm := ((bl_alloc x ob).block mb (Array.getElem?_eq_some_iff.1 h.hm).1).trans h.hm
 have h4 := blk_gr hm (own_keepT (h.ow i hi) (bl_alloc x ob)) (Ne.symm (tyM_ne i)) hg
 refine ⟨(cell_of_row w4 mb (2 + i) _ 41 (0, 0) h4).trans (arM_at t r n p c hi), ?_⟩
 unfold World.frozen?
 rw [h4]
 simp
end Ci
end Go.Proofs.YtnkaolobcglmlaaGreatDoor
