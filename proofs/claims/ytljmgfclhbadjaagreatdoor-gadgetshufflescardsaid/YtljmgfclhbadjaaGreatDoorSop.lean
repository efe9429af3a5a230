import Derived.Test.YtljmgfclhbadjaaGreatDoorTk
import Derived.Test.YtljmgfclhbadjaaGreatDoorSmon
namespace Go.Proofs.YtljmgfclhbadjaaGreatDoor
set_option maxRecDepth 100000
set_option maxHeartbeats 4000000
open Go.RowKit
theorem lst_congr {n m : Int} (h : n % Sm.L = m % Sm.L) : lst n = lst m := by unfold lst; rw [h]
theorem int_is (n : Int) (h : Sm.Wd n) : lst n = ⟨n, 0, 0, 0⟩ := by
 unfold Sm.Wd at h
 have e : n % Sm.L = n := Int.emod_eq_of_lt h.1 (by unfold Sm.L; omega)
 unfold lst
 rw [e]
 simp only [Sm.lim]
 congr 1 <;> omega
theorem Int_any (n : Int) (w : World) (h : Sm.Wd n) :
  Calls Tryz.prog 120 #[.int .u64 n] w fun e w' => ∃ r : E4, e = .returned r.v ∧ r.is n ∧ Below w.heap.size w w' := by
 refine Calls.mono (R := fun e w' => e = .returned (lst n).v ∧ Below w.heap.size w w') ?_ (fun e w' h => ⟨lst n, h.1, rfl, h.2⟩)
 rw [int_is n h]
 clear h
 simp only [E4.v]
 go_enter Tryz.func120, Tryz.ntmps120
 go_wp2
 refine bodyPost_ret (v := .agg #[.int .u64 n, .int .u64 0, .int .u64 0, .int .u64 0]) (by simp [results, Tryz.results120, go_sem]) rfl ⟨rfl, ?_⟩
 exact bl_alloc w _
def r2E : E4 := ⟨11819153939886771969, 14991950615390032711, 14910419812499177061, 259310039853996605⟩
def r1E : E4 := ⟨15486807595281847581, 14334777244411350896, 18446744073709551614, 1152921504606846975⟩
theorem r2_ok : r2E.ok := ⟨by unfold Sm.Wd r2E; simp, by unfold Sm.Wd r2E; simp, by unfold Sm.Wd r2E; simp, by unfold Sm.Wd r2E; simp⟩
theorem r2_lt : r2E.n < Sm.L := by decide
def R : Int := 115792089237316195423570985008687907853269984665640564039457584007913129639936
theorem RRi : R * Ri % Sm.L = 1 := by decide +kernel
theorem r2_m : r2E.n * Ri % Sm.L = R % Sm.L := by decide +kernel
theorem r1_m : r1E.is (1 * R) := by
 have e : (1 * R) % Sm.L = 7237005577332262213973186563042994240413239274941949949428319933631315875101 := by decide +kernel
 unfold E4.is lst
 rw [e]
 rfl
theorem cancel (x : Int) : x * R * Ri % Sm.L = x % Sm.L := by
 rw [Int.mul_assoc, Int.mul_emod, RRi, Int.mul_one, emod_emod_L]
theorem cancel' (x y : Int) : x * y * R * Ri % Sm.L = x * y % Sm.L := cancel (x * y)
theorem enter_any (a : E4) (w : World) (hT : Tb w) (ha : a.ok) :
  Calls Tryz.prog 185 #[a.v] w fun e w' => ∃ r : E4, e = .returned r.v ∧ r.is (a.n * R) ∧ Below w.heap.size w w' := by
 have hm : a.n * r2E.n * Ri % Sm.L = a.n * R % Sm.L := by rw [Int.mul_assoc]; exact mul_cong rfl r2_m
 have C1 := Hn (fun w T => montgomery_any a r2E w T ha r2_ok r2_lt)
 have HM := Hn hm
 have HT := Hn hT
 obtain ⟨t0, -, -, -, -, -, -, -, t8, t9, t10, t11⟩ := hT
 have hz0 : 1 < w.heap.size := World.block_lt_of_cell? w ⟨1, 0, none⟩ t0
 have hzA : ¬ w.heap.size = 1 := by omega
 have hzB : ¬ 1 = w.heap.size := by omega
 have hzC : 0 < w.heap.size := by omega
 have hzD : 1 < w.heap.size + 1 := by omega
 have hzE : 1 < w.heap.size + 1 + 1 := by omega
 clear hm ha t0
 simp only [E4.v, r2E] at C1 ⊢
 go_enter Tryz.func185, Tryz.ntmps185
 go_wp2_with fail
 refine (C1.out _ (HT.out.keep (bl_alloc2 _ _ _))).mono ?_
 rintro e w1 ⟨r, rfl, hr, hb1⟩
 clear C1
 obtain ⟨hc1, hf1⟩ := bcell hb1
 have hz1 : w.heap.size + 1 < w1.heap.size := by have := hb1.size; simp at this; omega
 clear t8 t9 t10 t11
 go_wp2_with fail
 refine bodyPost_ret (v := .agg #[.int .u64 r.x0, .int .u64 r.x1, .int .u64 r.x2, .int .u64 r.x3]) (by simp [results, Tryz.results185, go_sem, hc1]) rfl ⟨r, rfl, is_of hr HM.out, ?_⟩
 exact bl_set4 _ _ _ _ (bl_trans (bl_alloc2 w _ _) hb1) (by omega)
theorem Mul_any (a b : E4) (w : World) (hT : Tb w) (ha : a.ok) (hb : b.ok) :
  Calls Tryz.prog 122 #[a.v, b.v] w fun e w' => ∃ r : E4, e = .returned r.v ∧ r.is (a.n * b.n) ∧ Below w.heap.size w w' := by
 have EN := Hn (fun w T => enter_any a w T ha)
 have MO := Hn (fun (r s : E4) (h : r.ok) (k : s.ok) (l : s.n < Sm.L) w T => montgomery_any r s w T h k l)
 have HB := Hn hb
 have HT := Hn hT
 clear ha hb hT
 simp only [E4.v] at EN MO ⊢
 go_enter Tryz.func122, Tryz.ntmps122
 go_upto_region 1 with fail
 have s0 := ((St.start w a 53).new b 53).room 53
 simp only [World.size_alloc] at s0
 have SH := Hn s0
 clear s0
 have KSt : Hid (∀ w' : World, St w [(w.heap.size + 1, b), (w.heap.size, a)] [w.heap.size + 1 + 1] w' → (fun w' => St w [(w.heap.size + 1, b), (w.heap.size, a)] [w.heap.size + 1 + 1] w' ∧ w'.cell? ⟨w.heap.size + 1, 0, none⟩ = some (.int .u64 b.x0) ∧ w'.cell? ⟨w.heap.size + 1, 1, none⟩ = some (.int .u64 b.x1) ∧ w'.cell? ⟨w.heap.size + 1, 2, none⟩ = some (.int .u64 b.x2) ∧ w'.cell? ⟨w.heap.size + 1, 3, none⟩ = some (.int .u64 b.x3) ∧ w'.cell? ⟨w.heap.size, 0, none⟩ = some (.int .u64 a.x0) ∧ w'.cell? ⟨w.heap.size, 1, none⟩ = some (.int .u64 a.x1) ∧ w'.cell? ⟨w.heap.size, 2, none⟩ = some (.int .u64 a.x2) ∧ w'.cell? ⟨w.heap.size, 3, none⟩ = some (.int .u64 a.x3)) w') := Hn (fun w' h => ⟨h, (h.live (w.heap.size + 1, b) (by simp)).c0, (h.live (w.heap.size + 1, b) (by simp)).c1, (h.live (w.heap.size + 1, b) (by simp)).c2, (h.live (w.heap.size + 1, b) (by simp)).c3, (h.live (w.heap.size, a) (by simp)).c0, (h.live (w.heap.size, a) (by simp)).c1, (h.live (w.heap.size, a) (by simp)).c2, (h.live (w.heap.size, a) (by simp)).c3⟩)
 have K0 := Hn (KSt.out _ (SH.out.sub (M := [(w.heap.size + 1, b), (w.heap.size, a)]) (by simp)).drew)
 have N1 : Hid (∀ p ∈ [(w.heap.size + 1, b), (w.heap.size, a)], w.heap.size + 1 + 1 ≠ p.1) := Hn (by simp; omega)
 have KT1 : ∀ (w2 : World) (t : E4), St w [(w.heap.size + 1, b), (w.heap.size, a)] [w.heap.size + 1 + 1] w2 → (fun w' => St w [(w.heap.size + 1, b), (w.heap.size, a)] [w.heap.size + 1 + 1] w' ∧ w'.cell? ⟨w.heap.size + 1, 0, none⟩ = some (.int .u64 b.x0) ∧ w'.cell? ⟨w.heap.size + 1, 1, none⟩ = some (.int .u64 b.x1) ∧ w'.cell? ⟨w.heap.size + 1, 2, none⟩ = some (.int .u64 b.x2) ∧ w'.cell? ⟨w.heap.size + 1, 3, none⟩ = some (.int .u64 b.x3) ∧ w'.cell? ⟨w.heap.size, 0, none⟩ = some (.int .u64 a.x0) ∧ w'.cell? ⟨w.heap.size, 1, none⟩ = some (.int .u64 a.x1) ∧ w'.cell? ⟨w.heap.size, 2, none⟩ = some (.int .u64 a.x2) ∧ w'.cell? ⟨w.heap.size, 3, none⟩ = some (.int .u64 a.x3)) (set4 w2 (w.heap.size + 1 + 1) t) := fun w2 t h => KSt.out _ (h.aside N1.out (by omega) t)
 simp only [set4] at KT1
 replace KT1 := Hn KT1
 go_region_held3 (fun w' => St w [(w.heap.size + 1, b), (w.heap.size, a)] [w.heap.size + 1 + 1] w' ∧ w'.cell? ⟨w.heap.size + 1, 0, none⟩ = some (.int .u64 b.x0) ∧ w'.cell? ⟨w.heap.size + 1, 1, none⟩ = some (.int .u64 b.x1) ∧ w'.cell? ⟨w.heap.size + 1, 2, none⟩ = some (.int .u64 b.x2) ∧ w'.cell? ⟨w.heap.size + 1, 3, none⟩ = some (.int .u64 b.x3) ∧ w'.cell? ⟨w.heap.size, 0, none⟩ = some (.int .u64 a.x0) ∧ w'.cell? ⟨w.heap.size, 1, none⟩ = some (.int .u64 a.x1) ∧ w'.cell? ⟨w.heap.size, 2, none⟩ = some (.int .u64 a.x2) ∧ w'.cell? ⟨w.heap.size, 3, none⟩ = some (.int .u64 a.x3)) (first | with_reducible exact K0.out | with_reducible exact KB.out | with_reducible exact KA.out | with_reducible exact KT1.out wB t KB.out.1)
  (first | (go_at_call 185; refine (EN.out _ (SH.out.drew.tb HT.out)).mono ?_; rintro e wA ⟨u, rfl, hu, hbA⟩; have KA := Hn (KSt.out _ ((SH.out.sub (by simp)).drew.keep hbA))) | (go_at_call 184; refine (MO.out b u HB.out (E4.is.ok hu) (E4.is.lt hu) _ ((SH.out.drew.keep hbA).tb HT.out)).mono ?_; rintro e wB ⟨t, rfl, hm, hbB⟩; have sB := (SH.out.drew.keep hbA).keep hbB; have KB := Hn (KSt.out _ (sB.sub (by simp))); have q0 := (sB.live (w.heap.size + 1 + 1, zero4) (by simp)).c0; have q1 := (sB.live (w.heap.size + 1 + 1, zero4) (by simp)).c1; have q2 := (sB.live (w.heap.size + 1 + 1, zero4) (by simp)).c2; have q3 := (sB.live (w.heap.size + 1 + 1, zero4) (by simp)).c3; have f0 := (sB.wrt (w.heap.size + 1 + 1) (by simp)).1.f0; have f1 := (sB.wrt (w.heap.size + 1 + 1) (by simp)).1.f1; have f2 := (sB.wrt (w.heap.size + 1 + 1) (by simp)).1.f2; have f3 := (sB.wrt (w.heap.size + 1 + 1) (by simp)).1.f3; clear sB))
 go_wp2_with fail
 refine bodyPost_ret (v := .agg #[.int .u64 t.x0, .int .u64 t.x1, .int .u64 t.x2, .int .u64 t.x3]) (by simp [results, Tryz.results122, go_sem, q0, q1, q2, q3]) rfl ⟨t, rfl, is_of hm ?_, ?_⟩
 ·refine (mul_cong (mul_cong rfl (E4.is.m hu)) rfl).trans ?_
  rw [show b.n * (a.n * R) * Ri = a.n * b.n * R * Ri by grind]
  exact cancel' a.n b.n
 ·with_reducible exact (KT1.out wB t KB.out.1).1.bel
theorem leave_any (a : E4) (w : World) (hT : Tb w) (ha : a.ok) (hl : a.n < Sm.L) :
  Calls Tryz.prog 260 #[a.v] w fun e w' => ∃ r : E4, e = .returned r.v ∧ r.is (a.n * Ri) ∧ Below w.heap.size w w' := by
 have EN := Hn (fun w => Int_any 1 w (by unfold Sm.Wd; omega))
 have MO := Hn (fun (r : E4) (h : r.ok) w T => montgomery_any r a w T h ha hl)
 have HT := Hn hT
 clear ha hl hT
 simp only [E4.v] at EN MO ⊢
 go_enter Tryz.func260, Tryz.ntmps260
 go_upto_region 1 with fail
 have s0 := (St.start w a 53).room 53
 simp only [World.size_alloc] at s0
 have SH := Hn s0
 clear s0
 have KSt : Hid (∀ w' : World, St w [(w.heap.size, a)] [w.heap.size + 1] w' → (fun w' => St w [(w.heap.size, a)] [w.heap.size + 1] w' ∧ w'.cell? ⟨w.heap.size, 0, none⟩ = some (.int .u64 a.x0) ∧ w'.cell? ⟨w.heap.size, 1, none⟩ = some (.int .u64 a.x1) ∧ w'.cell? ⟨w.heap.size, 2, none⟩ = some (.int .u64 a.x2) ∧ w'.cell? ⟨w.heap.size, 3, none⟩ = some (.int .u64 a.x3)) w') := Hn (fun w' h => ⟨h, (h.live (w.heap.size, a) (by simp)).c0, (h.live (w.heap.size, a) (by simp)).c1, (h.live (w.heap.size, a) (by simp)).c2, (h.live (w.heap.size, a) (by simp)).c3⟩)
 have K0 := Hn (KSt.out _ (SH.out.sub (M := [(w.heap.size, a)]) (by simp)).drew)
 have N1 : Hid (∀ p ∈ [(w.heap.size, a)], w.heap.size + 1 ≠ p.1) := Hn (by simp)
 have KT1 : ∀ (w2 : World) (t : E4), St w [(w.heap.size, a)] [w.heap.size + 1] w2 → (fun w' => St w [(w.heap.size, a)] [w.heap.size + 1] w' ∧ w'.cell? ⟨w.heap.size, 0, none⟩ = some (.int .u64 a.x0) ∧ w'.cell? ⟨w.heap.size, 1, none⟩ = some (.int .u64 a.x1) ∧ w'.cell? ⟨w.heap.size, 2, none⟩ = some (.int .u64 a.x2) ∧ w'.cell? ⟨w.heap.size, 3, none⟩ = some (.int .u64 a.x3)) (set4 w2 (w.heap.size + 1) t) := fun w2 t h => KSt.out _ (h.aside N1.out (by omega) t)
 simp only [set4] at KT1
 replace KT1 := Hn KT1
 go_region_held3 (fun w' => St w [(w.heap.size, a)] [w.heap.size + 1] w' ∧ w'.cell? ⟨w.heap.size, 0, none⟩ = some (.int .u64 a.x0) ∧ w'.cell? ⟨w.heap.size, 1, none⟩ = some (.int .u64 a.x1) ∧ w'.cell? ⟨w.heap.size, 2, none⟩ = some (.int .u64 a.x2) ∧ w'.cell? ⟨w.heap.size, 3, none⟩ = some (.int .u64 a.x3)) (first | with_reducible exact K0.out | with_reducible exact KB.out | with_reducible exact KA.out | with_reducible exact KT1.out wB t KB.out.1)
  (first | (go_at_call 120; refine (EN.out _).mono ?_; rintro e wA ⟨u, rfl, hu, hbA⟩; have KA := Hn (KSt.out _ ((SH.out.sub (by simp)).drew.keep hbA))) | (go_at_call 184; refine (MO.out u (E4.is.ok hu) _ ((SH.out.drew.keep hbA).tb HT.out)).mono ?_; rintro e wB ⟨t, rfl, hm, hbB⟩; have sB := (SH.out.drew.keep hbA).keep hbB; have KB := Hn (KSt.out _ (sB.sub (by simp))); have q0 := (sB.live (w.heap.size + 1, zero4) (by simp)).c0; have q1 := (sB.live (w.heap.size + 1, zero4) (by simp)).c1; have q2 := (sB.live (w.heap.size + 1, zero4) (by simp)).c2; have q3 := (sB.live (w.heap.size + 1, zero4) (by simp)).c3; have f0 := (sB.wrt (w.heap.size + 1) (by simp)).1.f0; have f1 := (sB.wrt (w.heap.size + 1) (by simp)).1.f1; have f2 := (sB.wrt (w.heap.size + 1) (by simp)).1.f2; have f3 := (sB.wrt (w.heap.size + 1) (by simp)).1.f3; clear sB))
 go_wp2_with fail
 refine bodyPost_ret (v := .agg #[.int .u64 t.x0, .int .u64 t.x1, .int .u64 t.x2, .int .u64 t.x3]) (by simp [results, Tryz.results260, go_sem, q0, q1, q2, q3]) rfl ⟨t, rfl, is_of hm ?_, ?_⟩
 ·rw [Int.mul_assoc]
  refine (mul_cong (E4.is.m hu) rfl).trans ?_
  rw [Int.one_mul]
 ·with_reducible exact (KT1.out wB t KB.out.1).1.bel
theorem Neg_any (a : E4) (w : World) (hT : Tb w) (ha : a.ok) :
  Calls Tryz.prog 154 #[a.v] w fun e w' => ∃ r : E4, e = .returned r.v ∧ r.is (-a.n) ∧ Below w.heap.size w w' := by
 have hzk : zero4.ok := ⟨by unfold Sm.Wd zero4; simp, by unfold Sm.Wd zero4; simp, by unfold Sm.Wd zero4; simp, by unfold Sm.Wd zero4; simp⟩
 have c1 := fun w T => Sub_any zero4 a w T hzk ha
 have e0 : zero4.n - a.n = -a.n := by
  have : zero4.n = 0 := rfl
  rw [this, Int.zero_sub]
 simp only [e0] at c1
 generalize -a.n = N at *
 simp only [E4.v, zero4] at c1 ⊢
 have C1 := Hn c1
 have HT := Hn hT
 clear c1 ha e0 hzk hT
 go_enter Tryz.func154, Tryz.ntmps154
 go_wp2_with fail
 refine (C1.out _ (HT.out.keep (bl_alloc2 _ _ _))).mono ?_
 rintro e w1 ⟨r, rfl, hr, hb1⟩
 clear C1
 obtain ⟨hc1, hf1⟩ := bcell hb1
 have hz1 : w.heap.size + 1 < w1.heap.size := by have := hb1.size; simp at this; omega
 go_wp2_with fail
 refine bodyPost_ret (v := .agg #[.int .u64 r.x0, .int .u64 r.x1, .int .u64 r.x2, .int .u64 r.x3]) (by simp [results, Tryz.results154, go_sem, hc1]) rfl ⟨r, rfl, hr, ?_⟩
 exact bl_set4 _ _ _ _ (bl_trans (bl_alloc2 w _ _) hb1) (by omega)
def E4.same (a b : E4) : Bool := a.x0 == b.x0 && (a.x1 == b.x1 && (a.x2 == b.x2 && (a.x3 == b.x3)))
theorem E4.same_iff (a b : E4) : a.same b = true ↔ a = b := by
 obtain ⟨a0, a1, a2, a3⟩ := a
 obtain ⟨b0, b1, b2, b3⟩ := b
 simp [E4.same]
theorem eqItems_ints {P : Program} (w : World) {e : TypeId} {k : IntKind} (d : Nat) (hp : P.plainKey e = true) (hu : P.underlying e = some (.int k)) (xs ys : Array Value) (f g : Nat → Int) :
  ∀ is : List Nat, (∀ i ∈ is, xs[i]? = some (.int k (f i)) ∧ ys[i]? = some (.int k (g i))) → (Op.eqItems (d + 1) e 1 xs ys is).run P w = .ok (is.all fun i => f i == g i) w
 | [], _ => by simp [Op.eqItems]
 | i :: is, h => by
  have hi := h i (by simp)
  have ih := eqItems_ints w d hp hu xs ys f g is (fun j hj => h j (by simp [hj]))
  simp only [Op.eqItems, Sem.run_bind, Nat.mul_one, run_part_plain w hp hi.1, run_part_plain w hp hi.2, Result.andThen_ok, run_equalIn_int w d e k k _ _ hu, List.all_cons]
  by_cases hx : f i = g i
  ·simp [hx, ih]
  ·simp [hx]
theorem eq4 (a b : E4) (w : World) : (Op.equalIn 10000 53 a.v b.v).run Tryz.prog w = .ok (a.same b) w := by
 have hi : Tryz.prog.info? 25 = some (Tryz.prog.info? 25).get! := by kernel_rfl
 have hc : Tryz.prog.cellsOf 25 = 1 := by kernel_rfl
 unfold E4.v
 rw [run_equalIn_array w 9999 _ _ (by kernel_rfl : Tryz.prog.underlying 53 = some (.array 4 25)) hi, hc]
 rw [eqItems_ints w (k := .u64) 9998 (by kernel_rfl) (by kernel_rfl) _ _ (fun i => [a.x0, a.x1, a.x2, a.x3].getD i 0) (fun i => [b.x0, b.x1, b.x2, b.x3].getD i 0)]
 ·rw [show List.range 4 = [0, 1, 2, 3] from rfl]
  simp only [List.all_cons, List.all_nil, Bool.and_true]
  rfl
 ·intro i hi
  have : i < 4 := List.mem_range.1 hi
  match i, this with
  | 0, _ => exact ⟨rfl, rfl⟩
  | 1, _ => exact ⟨rfl, rfl⟩
  | 2, _ => exact ⟨rfl, rfl⟩
  | 3, _ => exact ⟨rfl, rfl⟩
theorem zero_is (n : Int) : lst n = ⟨0, 0, 0, 0⟩ ↔ n % Sm.L = 0 := by
 constructor
 ·intro h
  have := lst_n n
  rw [h] at this
  rw [← this]; rfl
 ·intro h
  unfold lst; rw [h]; rfl
theorem IsZero_any (a : E4) (w : World) (hT : Tb w) (ha : a.ok) :
  Calls Tryz.prog 61 #[a.v] w fun e w' => e = .returned (.bool (decide (a.n % Sm.L = 0))) ∧ Below w.heap.size w w' := by
 have c1 := fun w T => Least_any a w T ha
 simp only [E4.v] at c1 ⊢
 have C1 := Hn c1
 have HT := Hn hT
 clear c1 ha hT
 go_enter Tryz.func61, Tryz.ntmps61
 go_wp2_with fail
 refine (C1.out _ (HT.out.keep (bl_alloc _ _))).mono ?_
 rintro e w1 ⟨r, rfl, hr, hb1⟩
 clear C1
 have hq : ∀ w, (Op.equalIn 10000 53 (.agg #[.int .u64 r.x0, .int .u64 r.x1, .int .u64 r.x2, .int .u64 r.x3]) (.agg #[.int .u64 0, .int .u64 0, .int .u64 0, .int .u64 0])).run Tryz.prog w = .ok (r.same ⟨0, 0, 0, 0⟩) w := fun w => eq4 r ⟨0, 0, 0, 0⟩ w
 have he : r.same ⟨0, 0, 0, 0⟩ = decide (a.n % Sm.L = 0) := by
  rw [Bool.eq_iff_iff, E4.same_iff, hr, zero_is]
  simp
 rw [he] at hq
 clear he
 generalize hB : decide (a.n % Sm.L = 0) = B at hq
 go_wp2_with fail
 refine bodyPost_ret (v := .bool B) (by simp [results, Tryz.results61, go_sem]) rfl ⟨by rw [hB], ?_⟩
 exact bl_trans (bl_alloc w _) hb1
end Go.Proofs.YtljmgfclhbadjaaGreatDoor
