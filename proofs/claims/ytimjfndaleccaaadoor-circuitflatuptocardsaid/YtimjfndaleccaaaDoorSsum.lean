import Derived.Test.YtimjfndaleccaaaDoorSle
namespace Go.Proofs.YtimjfndaleccaaaDoor
open Go.RowKit
structure E4 where
 x0 : Int
 x1 : Int
 x2 : Int
 x3 : Int
def E4.ok (a : E4) : Prop := Sm.Wd a.x0 ∧ Sm.Wd a.x1 ∧ Sm.Wd a.x2 ∧ Sm.Wd a.x3
def E4.v (a : E4) : Value := .agg #[.int .u64 a.x0, .int .u64 a.x1, .int .u64 a.x2, .int .u64 a.x3]
def E4.n (a : E4) : Int := Sm.V a.x0 a.x1 a.x2 a.x3
def lst (n : Int) : E4 := ⟨Sm.lim 0 (n % Sm.L), Sm.lim 1 (n % Sm.L), Sm.lim 2 (n % Sm.L), Sm.lim 3 (n % Sm.L)⟩
theorem lst_ok (n : Int) : (lst n).ok := ⟨Sm.lim_wd 0 _, Sm.lim_wd 1 _, Sm.lim_wd 2 _, Sm.lim_wd 3 _⟩
theorem mod_bd (n : Int) : 0 ≤ n % Sm.L ∧ n % Sm.L < Sm.L := ⟨Int.emod_nonneg _ (by decide), Int.emod_lt_of_pos _ (by decide)⟩
theorem mod_bd4 (n : Int) : n % Sm.L < 115792089237316195423570985008687907853269984665640564039457584007913129639936 := Int.lt_trans (mod_bd n).2 (by decide)
theorem lst_n (n : Int) : (lst n).n = n % Sm.L := Sm.V_lim _ (mod_bd n).1 (mod_bd4 n)
def E4.is (r : E4) (n : Int) : Prop := r = lst n
theorem E4.is.ok {r : E4} {n : Int} (h : r.is n) : r.ok := by rw [h]; exact lst_ok n
theorem E4.is.n {r : E4} {n : Int} (h : r.is n) : r.n = n % Sm.L := by rw [h]; exact lst_n n
theorem E4.is.lt {r : E4} {n : Int} (h : r.is n) : r.n < Sm.L := by rw [h.n]; exact (mod_bd n).2
theorem ret4 {F : Nat} {w : World} {args : Array Value} {n m : Int} (h : n % Sm.L = m % Sm.L) (c : Calls Tryd.prog F args w fun e w' => e = .returned (lt (n % Sm.L)) ∧ w' = w) :
  Calls Tryd.prog F args w fun e w' => ∃ r : E4, e = .returned (.tuple #[.int .u64 r.x0, .int .u64 r.x1, .int .u64 r.x2, .int .u64 r.x3]) ∧ r.is m ∧ w' = w :=
 c.mono fun e w' q => ⟨lst n, q.1, by unfold E4.is lst; rw [h], q.2⟩
theorem bl_trans {w w1 w2 : World} (h1 : Below w.heap.size w w1) (h2 : Below w1.heap.size w1 w2) : Below w.heap.size w w2 := h1.trans (h2.mono h1.size)
theorem bl_alloc (w : World) (o : Obj) : Below w.heap.size w (w.alloc o) := (Below.refl _ _).alloc (Nat.le_refl _) _
theorem bl_alloc2 (w : World) (o p : Obj) : Below w.heap.size w ((w.alloc o).alloc p) := bl_trans (bl_alloc w o) (bl_alloc _ p)
theorem bl_alloc3 (w : World) (o p q : Obj) : Below w.heap.size w (((w.alloc o).alloc p).alloc q) := bl_trans (bl_alloc2 w o p) (bl_alloc _ q)
theorem bl_alloc4 (w : World) (o p q r : Obj) : Below w.heap.size w ((((w.alloc o).alloc p).alloc q).alloc r) := bl_trans (bl_alloc3 w o p q) (bl_alloc _ r)
theorem bl_set4 {w w3 : World} {b : Nat} (v0 v1 v2 v3 : Value) (h : Below w.heap.size w w3) (hb : w.heap.size ≤ b) :
  Below w.heap.size w ((((w3.setCell ⟨b, 0, none⟩ v0).setCell ⟨b, 1, none⟩ v1).setCell ⟨b, 2, none⟩ v2).setCell ⟨b, 3, none⟩ v3) :=
 (((h.setCell hb _).setCell hb _).setCell hb _).setCell hb _
theorem bcell {W w1 : World} (hb : Below W.heap.size W w1) : (∀ b o, b < W.heap.size → w1.cell? ⟨b, o, none⟩ = W.cell? ⟨b, o, none⟩) ∧ (∀ b o, b < W.heap.size → w1.frozen? ⟨b, o, none⟩ = W.frozen? ⟨b, o, none⟩) :=
 ⟨fun b o h => hb.cell (p := ⟨b, o, none⟩) h, fun b o h => hb.frozen (p := ⟨b, o, none⟩) h⟩
set_option maxHeartbeats 1000000 in
theorem Least_any (a : E4) (w : World) (hT : Tb w) (h : a.ok) :
  Calls Tryd.prog 47 #[a.v] w fun e w' => ∃ r : E4, e = .returned r.v ∧ r.is a.n ∧ Below w.heap.size w w' := by
 have c1 := fun w T => ret4 rfl (least_raw a.x0 a.x1 a.x2 a.x3 w T h.1 h.2.1 h.2.2.1 h.2.2.2)
 change ∀ w, Tb w → Calls _ _ _ w (fun e w' => ∃ r : E4, e = .returned (.tuple #[.int .u64 r.x0, .int .u64 r.x1, .int .u64 r.x2, .int .u64 r.x3]) ∧ r.is a.n ∧ w' = w) at c1
 simp only [E4.v] at c1 ⊢
 have C1 := hidden c1
 have HT := hidden hT
 clear c1 h hT
 generalize a.n = N at *
 go_enter Tryd.func47, Tryd.ntmps47
 go_wp2_with fail
 refine (C1.out _ (HT.out.keep (bl_alloc2 _ _ _))).mono ?_
 rintro e w' ⟨r, rfl, hr, rfl⟩
 clear C1
 go_wp2_with fail
 refine bodyPost_ret (v := .agg #[.int .u64 r.x0, .int .u64 r.x1, .int .u64 r.x2, .int .u64 r.x3]) (by simp [results, Tryd.results47, go_sem]) rfl ⟨r, rfl, hr, ?_⟩
 exact bl_alloc2 w _ _
theorem mod_add2 (a b : Int) : (a % Sm.L + b % Sm.L) % Sm.L = (a + b) % Sm.L := (Int.add_emod a b Sm.L).symm
theorem mod_sub2 (a b : Int) : (a % Sm.L + Sm.L - b % Sm.L) % Sm.L = (a - b) % Sm.L := by
 rw [show a % Sm.L + Sm.L - b % Sm.L = a % Sm.L - b % Sm.L + Sm.L by omega, Int.add_emod_right, ← Int.sub_emod]
set_option maxHeartbeats 1000000 in
theorem Add_any (a b : E4) (w : World) (hT : Tb w) (ha : a.ok) (hb : b.ok) :
  Calls Tryd.prog 15 #[a.v, b.v] w fun e w' => ∃ r : E4, e = .returned r.v ∧ r.is (a.n + b.n) ∧ Below w.heap.size w w' := by
 have c1 := fun w T => least_raw a.x0 a.x1 a.x2 a.x3 w T ha.1 ha.2.1 ha.2.2.1 ha.2.2.2
 have c2 := fun w T => least_raw b.x0 b.x1 b.x2 b.x3 w T hb.1 hb.2.1 hb.2.2.1 hb.2.2.2
 have hx := mod_bd a.n
 have hy := mod_bd b.n
 have c3 := fun w => sum_any _ _ _ _ _ _ _ _ w (Sm.lim_wd 0 (a.n % Sm.L)) (Sm.lim_wd 1 (a.n % Sm.L)) (Sm.lim_wd 2 (a.n % Sm.L)) (Sm.lim_wd 3 (a.n % Sm.L)) (Sm.lim_wd 0 (b.n % Sm.L)) (Sm.lim_wd 1 (b.n % Sm.L)) (Sm.lim_wd 2 (b.n % Sm.L)) (Sm.lim_wd 3 (b.n % Sm.L))
 have hsum : 0 ≤ a.n % Sm.L + b.n % Sm.L ∧ a.n % Sm.L + b.n % Sm.L < 2 * Sm.L := by omega
 have hV := Sm.V_lim (a.n % Sm.L + b.n % Sm.L) hsum.1 (Int.lt_trans hsum.2 (by decide))
 rw [Sm.V_lim _ hx.1 (mod_bd4 _), Sm.V_lim _ hy.1 (mod_bd4 _)] at c3
 have c4 := fun w T => ret4 (m := a.n + b.n) (by rw [hV, mod_add2]) (lessOnce_any _ _ _ _ w T (Sm.lim_wd 0 (a.n % Sm.L + b.n % Sm.L)) (Sm.lim_wd 1 (a.n % Sm.L + b.n % Sm.L)) (Sm.lim_wd 2 (a.n % Sm.L + b.n % Sm.L)) (Sm.lim_wd 3 (a.n % Sm.L + b.n % Sm.L)) (by rw [hV]; exact hsum.2))
 clear hV hsum hx hy ha hb
 change ∀ w, Tb w → Calls _ _ _ w (fun e w' => e = .returned (lt (a.n % Sm.L)) ∧ w' = w) at c1
 change ∀ w, Tb w → Calls _ _ _ w (fun e w' => e = .returned (lt (b.n % Sm.L)) ∧ w' = w) at c2
 generalize a.n + b.n = N at *
 generalize a.n % Sm.L + b.n % Sm.L = z at *
 generalize a.n % Sm.L = x at *
 generalize b.n % Sm.L = y at *
 unfold lt at c1 c2 c3
 generalize Sm.lim 0 x = x0 at *
 generalize Sm.lim 1 x = x1 at *
 generalize Sm.lim 2 x = x2 at *
 generalize Sm.lim 3 x = x3 at *
 generalize Sm.lim 0 y = y0 at *
 generalize Sm.lim 1 y = y1 at *
 generalize Sm.lim 2 y = y2 at *
 generalize Sm.lim 3 y = y3 at *
 generalize Sm.lim 0 z = z0 at *
 generalize Sm.lim 1 z = z1 at *
 generalize Sm.lim 2 z = z2 at *
 generalize Sm.lim 3 z = z3 at *
 simp only [E4.v]
 have C1 := hidden c1
 have C2 := hidden c2
 have C3 := hidden c3
 have C4 := hidden c4
 have HT := hidden (hT.keep (bl_alloc3 _ (.cells #[.int .u64 a.x0, .int .u64 a.x1, .int .u64 a.x2, .int .u64 a.x3] 26) (.cells #[.int .u64 b.x0, .int .u64 b.x1, .int .u64 b.x2, .int .u64 b.x3] 26) (.cells #[.int .u64 0, .int .u64 0, .int .u64 0, .int .u64 0] 26)))
 clear c1 c2 c3 c4 hT
 go_enter Tryd.func15, Tryd.ntmps15
 go_wp2_with fail
 refine (C1.out _ HT.out).mono ?_
 rintro e w' ⟨rfl, rfl⟩
 clear C1
 go_wp2_with fail
 refine (C2.out _ HT.out).mono ?_
 rintro e w' ⟨rfl, rfl⟩
 clear C2
 go_wp2_with fail
 refine (C3.out _).mono ?_
 rintro e w' ⟨rfl, rfl⟩
 clear C3
 go_wp2_with fail
 refine (C4.out _ HT.out).mono ?_
 rintro e w' ⟨r, rfl, hr, rfl⟩
 clear C4
 go_wp2_with fail
 refine bodyPost_ret (v := .agg #[.int .u64 r.x0, .int .u64 r.x1, .int .u64 r.x2, .int .u64 r.x3]) (by simp [results, Tryd.results15, go_sem]) rfl ⟨r, rfl, hr, ?_⟩
 exact bl_alloc3 w _ _ _
set_option maxHeartbeats 1000000 in
theorem Sub_any (a b : E4) (w : World) (hT : Tb w) (ha : a.ok) (hb : b.ok) :
  Calls Tryd.prog 49 #[a.v, b.v] w fun e w' => ∃ r : E4, e = .returned r.v ∧ r.is (a.n - b.n) ∧ Below w.heap.size w w' := by
 have c1 := fun w T => least_raw a.x0 a.x1 a.x2 a.x3 w T ha.1 ha.2.1 ha.2.2.1 ha.2.2.2
 have c2 := fun w T => least_raw b.x0 b.x1 b.x2 b.x3 w T hb.1 hb.2.1 hb.2.2.1 hb.2.2.2
 have hx := mod_bd a.n
 have hy := mod_bd b.n
 have w0 : Sm.Wd 6346243789798364141 := by unfold Sm.Wd; omega
 have w1 : Sm.Wd 1503914060200516822 := by unfold Sm.Wd; omega
 have w2 : Sm.Wd 0 := by unfold Sm.Wd; omega
 have w3 : Sm.Wd 1152921504606846976 := by unfold Sm.Wd; omega
 have c3 := fun w => sum_any _ _ _ _ _ _ _ _ w (Sm.lim_wd 0 (a.n % Sm.L)) (Sm.lim_wd 1 (a.n % Sm.L)) (Sm.lim_wd 2 (a.n % Sm.L)) (Sm.lim_wd 3 (a.n % Sm.L)) w0 w1 w2 w3
 rw [Sm.V_lim _ hx.1 (mod_bd4 _), show Sm.V 6346243789798364141 1503914060200516822 0 1152921504606846976 = Sm.L from rfl] at c3
 have hs1 : 0 ≤ a.n % Sm.L + Sm.L ∧ a.n % Sm.L + Sm.L < 2 * Sm.L := by unfold Sm.L at *; omega
 have hV1 := Sm.V_lim (a.n % Sm.L + Sm.L) hs1.1 (Int.lt_trans hs1.2 (by decide))
 have hVy := Sm.V_lim _ hy.1 (mod_bd4 b.n)
 have hs2 : 0 ≤ a.n % Sm.L + Sm.L - b.n % Sm.L ∧ a.n % Sm.L + Sm.L - b.n % Sm.L < 2 * Sm.L := by unfold Sm.L at *; omega
 have hV2 := Sm.V_lim (a.n % Sm.L + Sm.L - b.n % Sm.L) hs2.1 (Int.lt_trans hs2.2 (by decide))
 have c4 := fun w T => ret4 (m := a.n - b.n) (by rw [hV2, mod_sub2]) (lessOnce_any _ _ _ _ w T (Sm.lim_wd 0 (a.n % Sm.L + Sm.L - b.n % Sm.L)) (Sm.lim_wd 1 (a.n % Sm.L + Sm.L - b.n % Sm.L)) (Sm.lim_wd 2 (a.n % Sm.L + Sm.L - b.n % Sm.L)) (Sm.lim_wd 3 (a.n % Sm.L + Sm.L - b.n % Sm.L)) (by rw [hV2]; exact hs2.2))
 obtain ⟨⟨m0, m1, m2, m3⟩, -⟩ := Sm.sub_math (Sm.lim 0 (a.n % Sm.L + Sm.L)) (Sm.lim 1 (a.n % Sm.L + Sm.L)) (Sm.lim 2 (a.n % Sm.L + Sm.L)) (Sm.lim 3 (a.n % Sm.L + Sm.L)) (Sm.lim 0 (b.n % Sm.L)) (Sm.lim 1 (b.n % Sm.L)) (Sm.lim 2 (b.n % Sm.L)) (Sm.lim 3 (b.n % Sm.L)) _ _ _ rfl rfl rfl
 rw [hV1, hVy] at m0 m1 m2 m3
 have B0 := Sm.borrow (Sm.lim 0 (a.n % Sm.L + Sm.L)) (Sm.lim 0 (b.n % Sm.L)) 0 (Sm.lim_wd _ _) (Sm.lim_wd _ _) (by omega) (by omega)
 have S0 := sub64_run (Sm.lim 0 (a.n % Sm.L + Sm.L)) (Sm.lim 0 (b.n % Sm.L)) 0 (Sm.lim_wd _ _) (Sm.lim_wd _ _) (by omega) (by omega)
 have B1 := Sm.borrow (Sm.lim 1 (a.n % Sm.L + Sm.L)) (Sm.lim 1 (b.n % Sm.L)) _ (Sm.lim_wd _ _) (Sm.lim_wd _ _) B0.1 B0.2
 have S1 := sub64_run (Sm.lim 1 (a.n % Sm.L + Sm.L)) (Sm.lim 1 (b.n % Sm.L)) _ (Sm.lim_wd _ _) (Sm.lim_wd _ _) B0.1 B0.2
 have B2 := Sm.borrow (Sm.lim 2 (a.n % Sm.L + Sm.L)) (Sm.lim 2 (b.n % Sm.L)) _ (Sm.lim_wd _ _) (Sm.lim_wd _ _) B1.1 B1.2
 have S2 := sub64_run (Sm.lim 2 (a.n % Sm.L + Sm.L)) (Sm.lim 2 (b.n % Sm.L)) _ (Sm.lim_wd _ _) (Sm.lim_wd _ _) B1.1 B1.2
 have S3 := sub64_run (Sm.lim 3 (a.n % Sm.L + Sm.L)) (Sm.lim 3 (b.n % Sm.L)) _ (Sm.lim_wd _ _) (Sm.lim_wd _ _) B2.1 B2.2
 rw [m0] at S0
 rw [m1] at S1
 rw [m2] at S2
 rw [m3] at S3
 clear hV1 hVy hV2 hs1 hs2 hx hy ha hb w0 w1 w2 w3 m0 m1 m2 m3 B0 B1 B2
 change ∀ w, Tb w → Calls _ _ _ w (fun e w' => e = .returned (lt (a.n % Sm.L)) ∧ w' = w) at c1
 change ∀ w, Tb w → Calls _ _ _ w (fun e w' => e = .returned (lt (b.n % Sm.L)) ∧ w' = w) at c2
 generalize a.n - b.n = N at *
 generalize a.n % Sm.L + Sm.L - b.n % Sm.L = z at *
 generalize a.n % Sm.L + Sm.L = u at *
 generalize a.n % Sm.L = x at *
 generalize b.n % Sm.L = y at *
 unfold lt at c1 c2 c3
 generalize Sm.lim 0 x = x0 at *
 generalize Sm.lim 1 x = x1 at *
 generalize Sm.lim 2 x = x2 at *
 generalize Sm.lim 3 x = x3 at *
 generalize Sm.lim 0 y = y0 at *
 generalize Sm.lim 1 y = y1 at *
 generalize Sm.lim 2 y = y2 at *
 generalize Sm.lim 3 y = y3 at *
 generalize Sm.lim 0 z = z0 at *
 generalize Sm.lim 1 z = z1 at *
 generalize Sm.lim 2 z = z2 at *
 generalize Sm.lim 3 z = z3 at *
 generalize Sm.lim 0 u = u0 at *
 generalize Sm.lim 1 u = u1 at *
 generalize Sm.lim 2 u = u2 at *
 generalize Sm.lim 3 u = u3 at *
 generalize -((u0 - y0 - 0) / 18446744073709551616) = d1 at *
 generalize -((u1 - y1 - d1) / 18446744073709551616) = d2 at *
 generalize -((u2 - y2 - d2) / 18446744073709551616) = d3 at *
 generalize -((u3 - y3 - d3) / 18446744073709551616) = d4 at *
 simp only [E4.v]
 have C1 := hidden c1
 have C2 := hidden c2
 have C3 := hidden c3
 have C4 := hidden c4
 have HT := hidden hT
 obtain ⟨t0, t1, t2, t3, -⟩ := hT
 have hz0 : 0 < w.heap.size := World.block_lt_of_cell? w ⟨0, 0, none⟩ t0
 have hzA : ¬ w.heap.size = 0 := by omega
 have hzB : ¬ 0 = w.heap.size := by omega
 have hzC : 0 < w.heap.size := by omega
 have hzD : 0 < w.heap.size + 1 := by omega
 have hzE : 0 < w.heap.size + 1 + 1 := by omega
 clear c1 c2 c3 c4
 go_enter Tryd.func49, Tryd.ntmps49
 go_wp2_with fail
 refine (C1.out _ (HT.out.keep (bl_alloc4 _ _ _ _ _))).mono ?_
 rintro e w' ⟨rfl, rfl⟩
 clear C1
 go_wp2_with fail
 refine (C2.out _ (HT.out.keep (bl_alloc4 _ _ _ _ _))).mono ?_
 rintro e w' ⟨rfl, rfl⟩
 clear C2
 go_wp2_with fail
 refine (C3.out _).mono ?_
 rintro e w' ⟨rfl, rfl⟩
 clear C3
 go_wp2_with fail
 refine (C4.out _ (HT.out.keep (bl_alloc4 _ _ _ _ _))).mono ?_
 rintro e w' ⟨r, rfl, hr, rfl⟩
 clear C4
 go_wp2_with fail
 refine bodyPost_ret (v := .agg #[.int .u64 r.x0, .int .u64 r.x1, .int .u64 r.x2, .int .u64 r.x3]) (by simp [results, Tryd.results49, go_sem]) rfl ⟨r, rfl, hr, ?_⟩
 exact bl_alloc4 w _ _ _ _
end Go.Proofs.YtimjfndaleccaaaDoor
