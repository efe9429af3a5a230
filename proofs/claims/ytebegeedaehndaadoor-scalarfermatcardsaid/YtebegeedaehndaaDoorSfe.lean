import Derived.Test.YtebegeedaehndaaDoorSli
namespace Go.Proofs.YtebegeedaehndaaDoor
open Go.RowKit

/-- the limbs of l - 1 -/
def fN : Nat → Nat
  | 0 => 6346243789798364140
  | 1 => 1503914060200516822
  | 2 => 0
  | _ => 1152921504606846976
def fl : Nat → Nat
  | 0 => 0
  | k + 1 => fl k + 2 ^ (64 * k) * fN k
theorem fl4 : fl 4 = 7237005577332262213973186563042994240857116359379907606001950938285454250988 := by decide +kernel
theorem fl_next (n : Int) (k : Nat) : n ^ fl k * (n ^ 2 ^ (64 * k)) ^ fN k = n ^ fl (k + 1) := by
  rw [← Int.pow_mul, ← Int.pow_add]; rfl
theorem top_next (n : Int) (k : Nat) : ((n ^ 2 ^ (64 * k)) ^ 4294967296) ^ 4294967296 = n ^ 2 ^ (64 * (k + 1)) := by
  have e : 2 ^ (64 * (k + 1)) = 2 ^ (64 * k) * 4294967296 * 4294967296 := by
    rw [Nat.mul_add, Nat.pow_add, Nat.mul_one, Nat.mul_assoc]
  rw [e, Int.pow_mul, Int.pow_mul]
theorem is_pow {r t : E4} {n : Int} {k : Nat} (h : r.is n) (m : t.is (r.n ^ k)) : t.is (n ^ k) := is_of m (pow_emod _ _ _ h.m)
theorem is_mul {r s t : E4} {n m : Int} (h : r.is n) (k : s.is m) (q : t.is (r.n * s.n)) : t.is (n * m) := is_of q (mul_cong h.m k.m)
theorem fermat_one (n : Int) (h : n % Sm.L ≠ 0) : lst (n ^ fl 4) = k1 := by
  rw [fl4, ← lst1]
  have e : n ^ 7237005577332262213973186563042994240857116359379907606001950938285454250988 = n * n ^ 7237005577332262213973186563042994240857116359379907606001950938285454250987 := by rw [Int.mul_comm, ← Int.pow_succ]
  rw [e]
  exact mul_inv n h
theorem fermat_zero (n : Int) (h : n % Sm.L = 0) : (lst (n ^ fl 4)).n % Sm.L = 0 := by
  rw [lst_n, emod_emod_L, fl4]
  have e : n ^ 7237005577332262213973186563042994240857116359379907606001950938285454250988 = n * n ^ 7237005577332262213973186563042994240857116359379907606001950938285454250987 := by rw [Int.mul_comm, ← Int.pow_succ]
  rw [e, Int.mul_emod, h, Int.zero_mul]; rfl

set_option maxHeartbeats 1000000 in
theorem prime_any (w : World) : Calls Tryd.prog 13 #[] w fun e w' => e = .returned lE.v ∧ Below w.heap.size w w' := by
  simp only [E4.v, lE]
  go_enter Tryd.func13, Tryd.ntmps13
  go_wp2
  refine bodyPost_ret (v := .agg #[.int .u64 6346243789798364141, .int .u64 1503914060200516822, .int .u64 0, .int .u64 1152921504606846976]) (by simp [results, Tryd.results13, go_sem]) rfl ⟨rfl, ?_⟩
  exact bl_alloc w _

set_option maxRecDepth 100000 in
set_option maxHeartbeats 64000000 in
theorem fermat_any (a : E4) (e f : Int) (w : World) (hT : Tb w) (ha : a.ok) (he : Sm.Wd e) (hf : Sm.Wd f) : Calls Tryd.prog 3 #[a.v, .int .u64 e, .int .u64 f] w fun e w' => e = .returned (.bool true) ∧ Below w.heap.size w w' := by
  obtain ⟨E, rfl⟩ := Int.eq_ofNat_of_zero_le he.1
  obtain ⟨F, rfl⟩ := Int.eq_ofNat_of_zero_le hf.1
  have hE : E < 18446744073709551616 := by have := he.2; omega
  have hF : F < 18446744073709551616 := by have := hf.2; omega
  clear he hf
  obtain ⟨LA, hLA⟩ : ∃ t : E4, t = lst a.n := ⟨_, rfl⟩
  obtain ⟨PE, hPE⟩ : ∃ t : E4, t = lst (a.n ^ E) := ⟨_, rfl⟩
  obtain ⟨PF, hPF⟩ : ∃ t : E4, t = lst (a.n ^ F) := ⟨_, rfl⟩
  obtain ⟨PS, hPS⟩ : ∃ t : E4, t = lst (a.n ^ (E + F)) := ⟨_, rfl⟩
  have PEok : PE.ok := by rw [hPE]; exact lst_ok _
  have PFok : PF.ok := by rw [hPF]; exact lst_ok _
  have lv := hidden alive_any
  have p_0 := hidden (fun w T => fix (Power_any a 0 w T ha (by decide)) (by rw [Int.pow_zero]; exact lst1 : _ = k1))
  have p_1 := hidden (fun w T => fix (Power_any a 1 w T ha (by decide)) (by rw [hLA, Int.pow_succ, Int.pow_zero, Int.one_mul] : _ = LA))
  have l_a := hidden (fun w T => fix (Least_any a w T ha) (by rw [hLA] : _ = LA))
  have p_E := hidden (fun w T => fix (Power_any a E w T ha hE) (by rw [hPE] : _ = PE))
  have p_F := hidden (fun w T => fix (Power_any a F w T ha hF) (by rw [hPF] : _ = PF))
  have m_EF := hidden (fun w T => fix (Mul_any PE PF w T PEok PFok) (by rw [hPE, hPF, hPS, lst_mul, lst_mul', Int.pow_add] : _ = PS))
  have p_S : Hid (E + F < 18446744073709551616 → ∀ w, Tb w → Calls Tryd.prog 10 #[a.v, .int .u64 ((E : Int) + (F : Int))] w (fun e w' => e = .returned PS.v ∧ Below w.heap.size w w')) := hidden (fun h w T => fix (Power_any a (E + F) w T ha h) (by rw [hPS] : _ = PS))
  have PW := hidden (fun (r : E4) (k : Nat) (h : r.ok) (hk : k < 18446744073709551616) w T => Power_any r k w T h hk)
  have MU := hidden (fun (r s : E4) (h : r.ok) (k : s.ok) w T => Mul_any r s w T h k)
  have z_a := hidden (fun w T => IsZero_any a w T ha)
  have IZ := hidden (fun (r : E4) (h : r.ok) w T => IsZero_any r w T h)
  have pr := hidden prime_any
  have qx := fun (x : E4) w => (eq4 x x w).trans (by rw [E4.same_self] : _ = Result.ok true w)
  have q1 := fun w => (eq4 k1 k1 w).trans (by rw [E4.same_self] : _ = Result.ok true w)
  have HT := hidden hT
  have HLA := hidden (show LA.is a.n from hLA)
  clear ha hT hLA hPE hPF hPS PEok PFok
  have p_0' : Hid (∀ w, Tb w → Calls Tryd.prog 10 #[a.v, .int .u64 0] w (fun e w' => e = .returned k1.v ∧ Below w.heap.size w w')) := p_0
  have p_1' : Hid (∀ w, Tb w → Calls Tryd.prog 10 #[a.v, .int .u64 1] w (fun e w' => e = .returned LA.v ∧ Below w.heap.size w w')) := p_1
  clear p_0 p_1
  simp only [E4.v, k1, lE] at p_0' p_1' l_a p_E p_F m_EF p_S PW MU z_a IZ pr qx q1 ⊢
  have s0 := (St.start w a 24).new a 25
  simp only [World.size_alloc] at s0
  have s1 := hidden (s0.sub (M := [(w.heap.size + 1, a)]) (by simp))
  clear s0
  go_enter Tryd.func3, Tryd.ntmps3
  go_upto_region 2 with fail
  have KSt : Hid (∀ w' : World, St w [(w.heap.size + 1, a)] [] w' → (fun w' => St w [(w.heap.size + 1, a)] [] w' ∧ w'.cell? ⟨w.heap.size + 1, 0, none⟩ = some (.int .u64 a.x0) ∧ w'.cell? ⟨w.heap.size + 1, 1, none⟩ = some (.int .u64 a.x1) ∧ w'.cell? ⟨w.heap.size + 1, 2, none⟩ = some (.int .u64 a.x2) ∧ w'.cell? ⟨w.heap.size + 1, 3, none⟩ = some (.int .u64 a.x3)) w') := hidden (fun w' h => ⟨h, (h.live (w.heap.size + 1, a) (by simp)).c0, (h.live (w.heap.size + 1, a) (by simp)).c1, (h.live (w.heap.size + 1, a) (by simp)).c2, (h.live (w.heap.size + 1, a) (by simp)).c3⟩)
  have KTb : Hid (∀ w' : World, St w [(w.heap.size + 1, a)] [] w' → Tb w') := hidden (fun w' h => h.tb HT.out)
  have K0 : Hid ((fun w' => St w [(w.heap.size + 1, a)] [] w' ∧ w'.cell? ⟨w.heap.size + 1, 0, none⟩ = some (.int .u64 a.x0) ∧ w'.cell? ⟨w.heap.size + 1, 1, none⟩ = some (.int .u64 a.x1) ∧ w'.cell? ⟨w.heap.size + 1, 2, none⟩ = some (.int .u64 a.x2) ∧ w'.cell? ⟨w.heap.size + 1, 3, none⟩ = some (.int .u64 a.x3)) _) := hidden (KSt.out _ (s1.out).drew)
  go_region_held3 (fun w' => St w [(w.heap.size + 1, a)] [] w' ∧ w'.cell? ⟨w.heap.size + 1, 0, none⟩ = some (.int .u64 a.x0) ∧ w'.cell? ⟨w.heap.size + 1, 1, none⟩ = some (.int .u64 a.x1) ∧ w'.cell? ⟨w.heap.size + 1, 2, none⟩ = some (.int .u64 a.x2) ∧ w'.cell? ⟨w.heap.size + 1, 3, none⟩ = some (.int .u64 a.x3)) (first | with_reducible exact K0.out | with_reducible exact hk.out)
    (first | (go_at_call 9; with_reducible refine (lv.out _ (KTb.out _ (And.left (by assumption)))).mono ?_; rintro e wn ⟨rfl, hb⟩; have hk := hidden (KSt.out _ ((show St w [(w.heap.size + 1, a)] [] _ from And.left (by assumption)).keep hb))) | (go_at_call 10; with_reducible refine (p_0'.out _ (KTb.out _ (And.left (by assumption)))).mono ?_; rintro e wn ⟨rfl, hb⟩; have hk := hidden (KSt.out _ ((show St w [(w.heap.size + 1, a)] [] _ from And.left (by assumption)).keep hb))) | (go_at_call 10; with_reducible refine (p_1'.out _ (KTb.out _ (And.left (by assumption)))).mono ?_; rintro e wn ⟨rfl, hb⟩; have hk := hidden (KSt.out _ ((show St w [(w.heap.size + 1, a)] [] _ from And.left (by assumption)).keep hb))) | (go_at_call 11; with_reducible refine (l_a.out _ (KTb.out _ (And.left (by assumption)))).mono ?_; rintro e wn ⟨rfl, hb⟩; have hk := hidden (KSt.out _ ((show St w [(w.heap.size + 1, a)] [] _ from And.left (by assumption)).keep hb))))
  clear K0 s1
  go_upto_region 4 with fail
  have k4 := hk
  go_cut [49] (fun vx wx => vx = .bool false ∧ St w [(w.heap.size + 1, a)] [] wx)
  case first =>
    by_cases hE2 : E ≤ 4611686018427387904
    · by_cases hF2 : F ≤ 4611686018427387904
      · have hEi : (E : Int) ≤ 4611686018427387904 := by omega
        have hFi : (F : Int) ≤ 4611686018427387904 := by omega
        have hdE : decide ((E : Int) ≤ 4611686018427387904) = true := decide_eq_true hEi
        have hdF : decide ((F : Int) ≤ 4611686018427387904) = true := decide_eq_true hFi
        have hw : IntKind.u64.wrap ((E : Int) + (F : Int)) = (E : Int) + (F : Int) := by rw [IntKind.wrap_u64]; omega
        replace p_S := hidden (p_S.out (by omega))
        have K0 : Hid ((fun w' => St w [(w.heap.size + 1, a)] [] w' ∧ w'.cell? ⟨w.heap.size + 1, 0, none⟩ = some (.int .u64 a.x0) ∧ w'.cell? ⟨w.heap.size + 1, 1, none⟩ = some (.int .u64 a.x1) ∧ w'.cell? ⟨w.heap.size + 1, 2, none⟩ = some (.int .u64 a.x2) ∧ w'.cell? ⟨w.heap.size + 1, 3, none⟩ = some (.int .u64 a.x3)) _) := hidden (KSt.out _ (k4.out.1).drew)
        go_region_held3 (fun w' => St w [(w.heap.size + 1, a)] [] w' ∧ w'.cell? ⟨w.heap.size + 1, 0, none⟩ = some (.int .u64 a.x0) ∧ w'.cell? ⟨w.heap.size + 1, 1, none⟩ = some (.int .u64 a.x1) ∧ w'.cell? ⟨w.heap.size + 1, 2, none⟩ = some (.int .u64 a.x2) ∧ w'.cell? ⟨w.heap.size + 1, 3, none⟩ = some (.int .u64 a.x3)) (first | with_reducible exact K0.out | with_reducible exact hk.out)
          (first | (go_at_call 10; with_reducible refine (p_E.out _ (KTb.out _ (And.left (by assumption)))).mono ?_; rintro e wn ⟨rfl, hb⟩; have hk := hidden (KSt.out _ ((show St w [(w.heap.size + 1, a)] [] _ from And.left (by assumption)).keep hb))) | (go_at_call 10; with_reducible refine (p_F.out _ (KTb.out _ (And.left (by assumption)))).mono ?_; rintro e wn ⟨rfl, hb⟩; have hk := hidden (KSt.out _ ((show St w [(w.heap.size + 1, a)] [] _ from And.left (by assumption)).keep hb))) | (go_at_call 12; with_reducible refine (m_EF.out _ (KTb.out _ (And.left (by assumption)))).mono ?_; rintro e wn ⟨rfl, hb⟩; have hk := hidden (KSt.out _ ((show St w [(w.heap.size + 1, a)] [] _ from And.left (by assumption)).keep hb))) | (go_at_call 10; with_reducible refine (p_S.out _ (KTb.out _ (And.left (by assumption)))).mono ?_; rintro e wn ⟨rfl, hb⟩; have hk := hidden (KSt.out _ ((show St w [(w.heap.size + 1, a)] [] _ from And.left (by assumption)).keep hb))))
        go_wp2_with fail
        go_meet
        exact ⟨rfl, hk.out.1⟩
      · have hEi : (E : Int) ≤ 4611686018427387904 := by omega
        have hFi : ¬ (F : Int) ≤ 4611686018427387904 := by omega
        have hdE : decide ((E : Int) ≤ 4611686018427387904) = true := decide_eq_true hEi
        have hdF : decide ((F : Int) ≤ 4611686018427387904) = false := decide_eq_false hFi
        have K0 : Hid ((fun w' => St w [(w.heap.size + 1, a)] [] w' ∧ w'.cell? ⟨w.heap.size + 1, 0, none⟩ = some (.int .u64 a.x0) ∧ w'.cell? ⟨w.heap.size + 1, 1, none⟩ = some (.int .u64 a.x1) ∧ w'.cell? ⟨w.heap.size + 1, 2, none⟩ = some (.int .u64 a.x2) ∧ w'.cell? ⟨w.heap.size + 1, 3, none⟩ = some (.int .u64 a.x3)) _) := hidden (KSt.out _ (k4.out.1).drew)
        refine wp_region_noPanic ?_
        refine wp_region_held_drew (S := fun w' => St w [(w.heap.size + 1, a)] [] w' ∧ w'.cell? ⟨w.heap.size + 1, 0, none⟩ = some (.int .u64 a.x0) ∧ w'.cell? ⟨w.heap.size + 1, 1, none⟩ = some (.int .u64 a.x1) ∧ w'.cell? ⟨w.heap.size + 1, 2, none⟩ = some (.int .u64 a.x2) ∧ w'.cell? ⟨w.heap.size + 1, 3, none⟩ = some (.int .u64 a.x3)) (by kernel_rfl) K0.out (fun hHeld => ?_)
        refine wpAnyH_take (i := 0) (oi := { dst := some 29, op := Op.move (Operand.tmp 1), type := 22, pos := "outright.go:179", after := #[], guard := none }) (v := ?_) rfl (by kernel_rfl) (by kernel_rfl) (by kernel_rfl) (fun _ _ _ h => h) (Or.inl ⟨by rfl, ?_⟩) hHeld ?_
        rotate_left 1
        · (intro w0 hSw; (try dsimp only at hSw); go_simp; try with_reducible rfl)
        simp only [Act.put, List.setIfInBounds_toArray, List.set_cons_zero, List.set_cons_succ]
        refine wpAnyH_take (i := 1) (oi := { dst := some 30, op := Op.binOp BinOp.leq 22 (Operand.tmp 29) (Operand.const (Value.int IntKind.u64 4611686018427387904)) 22, type := 4, pos := "outright.go:179", after := #[{ on := 0, ground := Ground.data }], guard := none }) (v := ?_) rfl (by kernel_rfl) (by kernel_rfl) (by kernel_rfl) (fun _ _ _ h => h) (Or.inl ⟨by rfl, ?_⟩) hHeld ?_
        rotate_left 1
        · (intro w0 hSw; (try dsimp only at hSw); go_simp; try with_reducible rfl)
        simp only [Act.put, List.setIfInBounds_toArray, List.set_cons_zero, List.set_cons_succ]
        refine wpAnyH_take (i := 2) (oi := { dst := some 31, op := Op.move (Operand.tmp 30), type := 4, pos := "outright.go:179", after := #[{ on := 1, ground := Ground.data }], guard := none }) (v := ?_) rfl (by kernel_rfl) (by kernel_rfl) (by kernel_rfl) (fun _ _ _ h => h) (Or.inl ⟨by rfl, ?_⟩) hHeld ?_
        rotate_left 1
        · (intro w0 hSw; (try dsimp only at hSw); go_simp; try with_reducible rfl)
        simp only [Act.put, List.setIfInBounds_toArray, List.set_cons_zero, List.set_cons_succ]
        refine wpAnyH_take (i := 3) (oi := { dst := some 32, op := Op.move (Operand.tmp 2), type := 22, pos := "outright.go:179", after := #[{ on := 2, ground := Ground.guard }], guard := some (2, true) }) (v := ?_) rfl (by kernel_rfl) (by kernel_rfl) (by kernel_rfl) (fun _ _ _ h => h) (Or.inl ⟨by rfl, ?_⟩) hHeld ?_
        rotate_left 1
        · (intro w0 hSw; (try dsimp only at hSw); go_simp; try with_reducible rfl)
        simp only [Act.put, List.setIfInBounds_toArray, List.set_cons_zero, List.set_cons_succ]
        refine wpAnyH_take (i := 4) (oi := { dst := some 33, op := Op.binOp BinOp.leq 22 (Operand.tmp 32) (Operand.const (Value.int IntKind.u64 4611686018427387904)) 22, type := 4, pos := "outright.go:179", after := #[{ on := 3, ground := Ground.data }, { on := 2, ground := Ground.guard }], guard := some (2, true) }) (v := ?_) rfl (by kernel_rfl) (by kernel_rfl) (by kernel_rfl) (fun _ _ _ h => h) (Or.inl ⟨by rfl, ?_⟩) hHeld ?_
        rotate_left 1
        · (intro w0 hSw; (try dsimp only at hSw); go_simp; try with_reducible rfl)
        simp only [Act.put, List.setIfInBounds_toArray, List.set_cons_zero, List.set_cons_succ]
        refine wpAnyH_take (i := 5) (oi := { dst := some 34, op := Op.pick (Operand.tmp 31) (Operand.tmp 33) (Operand.const (Value.bool false)), type := 4, pos := "outright.go:179", after := #[{ on := 2, ground := Ground.data }, { on := 4, ground := Ground.data }], guard := none }) (v := ?_) rfl (by kernel_rfl) (by kernel_rfl) (by kernel_rfl) (fun _ _ _ h => h) (Or.inl ⟨by rfl, ?_⟩) hHeld ?_
        rotate_left 1
        · (intro w0 hSw; (try dsimp only at hSw); go_simp; try with_reducible rfl)
        simp only [Act.put, List.setIfInBounds_toArray, List.set_cons_zero, List.set_cons_succ]
        refine wpAnyH_take (i := 6) (oi := { dst := some 35, op := Op.move (Operand.tmp 34), type := 4, pos := "outright.go:179", after := #[{ on := 5, ground := Ground.data }, { on := 2, ground := Ground.chain }], guard := none }) (v := ?_) rfl (by kernel_rfl) (by kernel_rfl) (by kernel_rfl) (fun _ _ _ h => h) (Or.inl ⟨by rfl, ?_⟩) hHeld ?_
        rotate_left 1
        · (intro w0 hSw; (try dsimp only at hSw); go_simp; try with_reducible rfl)
        simp only [Act.put, List.setIfInBounds_toArray, List.set_cons_zero, List.set_cons_succ]
        refine wpAnyH_take (i := 7) (oi := { dst := some 36, op := Op.load 25 (Operand.tmp 7), type := 25, pos := "outright.go:179", after := #[{ on := 6, ground := Ground.guard }], guard := some (6, true) }) (v := undef) rfl (by kernel_rfl) (by kernel_rfl) (by kernel_rfl) (fun _ _ _ h => h) (Or.inr ⟨by rfl, rfl⟩) hHeld ?_
        simp only [Act.put, List.setIfInBounds_toArray, List.set_cons_zero, List.set_cons_succ]
        refine wpAnyH_take (i := 8) (oi := { dst := some 37, op := Op.move (Operand.tmp 1), type := 22, pos := "outright.go:179", after := #[{ on := 6, ground := Ground.guard }], guard := some (6, true) }) (v := undef) rfl (by kernel_rfl) (by kernel_rfl) (by kernel_rfl) (fun _ _ _ h => h) (Or.inr ⟨by rfl, rfl⟩) hHeld ?_
        simp only [Act.put, List.setIfInBounds_toArray, List.set_cons_zero, List.set_cons_succ]
        refine wpAnyH_take (i := 10) (oi := { dst := some 39, op := Op.load 25 (Operand.tmp 7), type := 25, pos := "outright.go:179", after := #[{ on := 6, ground := Ground.guard }], guard := some (6, true) }) (v := undef) rfl (by kernel_rfl) (by kernel_rfl) (by kernel_rfl) (fun _ _ _ h => h) (Or.inr ⟨by rfl, rfl⟩) hHeld ?_
        simp only [Act.put, List.setIfInBounds_toArray, List.set_cons_zero, List.set_cons_succ]
        refine wpAnyH_take (i := 11) (oi := { dst := some 40, op := Op.move (Operand.tmp 2), type := 22, pos := "outright.go:179", after := #[{ on := 6, ground := Ground.guard }], guard := some (6, true) }) (v := undef) rfl (by kernel_rfl) (by kernel_rfl) (by kernel_rfl) (fun _ _ _ h => h) (Or.inr ⟨by rfl, rfl⟩) hHeld ?_
        simp only [Act.put, List.setIfInBounds_toArray, List.set_cons_zero, List.set_cons_succ]
        refine wpAnyH_take (i := 14) (oi := { dst := some 43, op := Op.load 25 (Operand.tmp 7), type := 25, pos := "outright.go:179", after := #[{ on := 6, ground := Ground.guard }], guard := some (6, true) }) (v := undef) rfl (by kernel_rfl) (by kernel_rfl) (by kernel_rfl) (fun _ _ _ h => h) (Or.inr ⟨by rfl, rfl⟩) hHeld ?_
        simp only [Act.put, List.setIfInBounds_toArray, List.set_cons_zero, List.set_cons_succ]
        refine wpAnyH_take (i := 15) (oi := { dst := some 44, op := Op.move (Operand.tmp 1), type := 22, pos := "outright.go:179", after := #[{ on := 6, ground := Ground.guard }], guard := some (6, true) }) (v := undef) rfl (by kernel_rfl) (by kernel_rfl) (by kernel_rfl) (fun _ _ _ h => h) (Or.inr ⟨by rfl, rfl⟩) hHeld ?_
        simp only [Act.put, List.setIfInBounds_toArray, List.set_cons_zero, List.set_cons_succ]
        refine wpAnyH_take (i := 16) (oi := { dst := some 45, op := Op.move (Operand.tmp 2), type := 22, pos := "outright.go:179", after := #[{ on := 6, ground := Ground.guard }], guard := some (6, true) }) (v := undef) rfl (by kernel_rfl) (by kernel_rfl) (by kernel_rfl) (fun _ _ _ h => h) (Or.inr ⟨by rfl, rfl⟩) hHeld ?_
        simp only [Act.put, List.setIfInBounds_toArray, List.set_cons_zero, List.set_cons_succ]
        refine wpAnyH_take (i := 17) (oi := { dst := some 46, op := Op.binOp BinOp.add 22 (Operand.tmp 44) (Operand.tmp 45) 22, type := 22, pos := "outright.go:179", after := #[{ on := 15, ground := Ground.data }, { on := 16, ground := Ground.data }, { on := 6, ground := Ground.guard }], guard := some (6, true) }) (v := undef) rfl (by kernel_rfl) (by kernel_rfl) (by kernel_rfl) (fun _ _ _ h => h) (Or.inr ⟨by rfl, rfl⟩) hHeld ?_
        simp only [Act.put, List.setIfInBounds_toArray, List.set_cons_zero, List.set_cons_succ]
        refine wpAnyH_ready (rs := [9]) (by kernel_rfl) (by simp) ?_
        refine AllReadyH.cons (o := { dst := some 38, op := Op.call { callee := Callee.value (Operand.func 10), args := #[Operand.tmp 36, Operand.tmp 37], argTypes := #[25, 22] }, type := 25, pos := "outright.go:179", after := #[{ on := 7, ground := Ground.data }, { on := 8, ground := Ground.data }, { on := 6, ground := Ground.chain }, { on := 6, ground := Ground.guard }], guard := some (6, true) }) rfl (fun K hK => ?_) AllReadyH.nil
        refine Eq.mpr (if_neg (by exact fun h => Bool.false_ne_true h)) ?_
        refine hK.out _ _ hHeld (fun hHeld2 => ?_)
        clear hK K hHeld2
        simp only [Act.put, List.setIfInBounds_toArray, List.set_cons_zero, List.set_cons_succ]
        refine wpAnyH_ready (rs := [12]) (by kernel_rfl) (by simp) ?_
        refine AllReadyH.cons (o := { dst := some 41, op := Op.call { callee := Callee.value (Operand.func 10), args := #[Operand.tmp 39, Operand.tmp 40], argTypes := #[25, 22] }, type := 25, pos := "outright.go:179", after := #[{ on := 10, ground := Ground.data }, { on := 11, ground := Ground.data }, { on := 9, ground := Ground.chain }, { on := 6, ground := Ground.guard }], guard := some (6, true) }) rfl (fun K hK => ?_) AllReadyH.nil
        refine Eq.mpr (if_neg (by exact fun h => Bool.false_ne_true h)) ?_
        refine hK.out _ _ hHeld (fun hHeld2 => ?_)
        clear hK K hHeld2
        simp only [Act.put, List.setIfInBounds_toArray, List.set_cons_zero, List.set_cons_succ]
        refine wpAnyH_ready (rs := [13]) (by kernel_rfl) (by simp) ?_
        refine AllReadyH.cons (o := { dst := some 42, op := Op.call { callee := Callee.value (Operand.func 12), args := #[Operand.tmp 38, Operand.tmp 41], argTypes := #[25, 25] }, type := 25, pos := "outright.go:179", after := #[{ on := 9, ground := Ground.data }, { on := 12, ground := Ground.data }, { on := 12, ground := Ground.chain }, { on := 6, ground := Ground.guard }], guard := some (6, true) }) rfl (fun K hK => ?_) AllReadyH.nil
        refine Eq.mpr (if_neg (by exact fun h => Bool.false_ne_true h)) ?_
        refine hK.out _ _ hHeld (fun hHeld2 => ?_)
        clear hK K hHeld2
        simp only [Act.put, List.setIfInBounds_toArray, List.set_cons_zero, List.set_cons_succ]
        refine wpAnyH_ready (rs := [18]) (by kernel_rfl) (by simp) ?_
        refine AllReadyH.cons (o := { dst := some 47, op := Op.call { callee := Callee.value (Operand.func 10), args := #[Operand.tmp 43, Operand.tmp 46], argTypes := #[25, 22] }, type := 25, pos := "outright.go:179", after := #[{ on := 14, ground := Ground.data }, { on := 17, ground := Ground.data }, { on := 13, ground := Ground.chain }, { on := 6, ground := Ground.guard }], guard := some (6, true) }) rfl (fun K hK => ?_) AllReadyH.nil
        refine Eq.mpr (if_neg (by exact fun h => Bool.false_ne_true h)) ?_
        refine hK.out _ _ hHeld (fun hHeld2 => ?_)
        clear hK K hHeld2
        simp only [Act.put, List.setIfInBounds_toArray, List.set_cons_zero, List.set_cons_succ]
        refine wpAnyH_take (i := 19) (oi := { dst := some 48, op := Op.binOp BinOp.neq 25 (Operand.tmp 42) (Operand.tmp 47) 25, type := 4, pos := "outright.go:179", after := #[{ on := 13, ground := Ground.data }, { on := 18, ground := Ground.data }, { on := 6, ground := Ground.guard }], guard := some (6, true) }) (v := undef) rfl (by kernel_rfl) (by kernel_rfl) (by kernel_rfl) (fun _ _ _ h => h) (Or.inr ⟨by rfl, rfl⟩) hHeld ?_
        simp only [Act.put, List.setIfInBounds_toArray, List.set_cons_zero, List.set_cons_succ]
        refine wpAnyH_take (i := 20) (oi := { dst := some 49, op := Op.pick (Operand.tmp 35) (Operand.tmp 48) (Operand.const (Value.bool false)), type := 4, pos := "outright.go:179", after := #[{ on := 6, ground := Ground.data }, { on := 19, ground := Ground.data }], guard := none }) (v := ?_) rfl (by kernel_rfl) (by kernel_rfl) (by kernel_rfl) (fun _ _ _ h => h) (Or.inl ⟨by rfl, ?_⟩) hHeld ?_
        rotate_left 1
        · (intro w0 hSw; (try dsimp only at hSw); go_simp; try with_reducible rfl)
        simp only [Act.put, List.setIfInBounds_toArray, List.set_cons_zero, List.set_cons_succ]
        refine wpAnyH_done (by kernel_rfl) ?_ _
        refine NoPanic.normal ?_
        go_wp2_with fail
        go_meet
        exact ⟨rfl, k4.out.1.drew⟩
    · have hEi : ¬ (E : Int) ≤ 4611686018427387904 := by omega
      have hdE : decide ((E : Int) ≤ 4611686018427387904) = false := decide_eq_false hEi
      have K0 : Hid ((fun w' => St w [(w.heap.size + 1, a)] [] w' ∧ w'.cell? ⟨w.heap.size + 1, 0, none⟩ = some (.int .u64 a.x0) ∧ w'.cell? ⟨w.heap.size + 1, 1, none⟩ = some (.int .u64 a.x1) ∧ w'.cell? ⟨w.heap.size + 1, 2, none⟩ = some (.int .u64 a.x2) ∧ w'.cell? ⟨w.heap.size + 1, 3, none⟩ = some (.int .u64 a.x3)) _) := hidden (KSt.out _ (k4.out.1).drew)
      refine wp_region_noPanic ?_
      refine wp_region_held_drew (S := fun w' => St w [(w.heap.size + 1, a)] [] w' ∧ w'.cell? ⟨w.heap.size + 1, 0, none⟩ = some (.int .u64 a.x0) ∧ w'.cell? ⟨w.heap.size + 1, 1, none⟩ = some (.int .u64 a.x1) ∧ w'.cell? ⟨w.heap.size + 1, 2, none⟩ = some (.int .u64 a.x2) ∧ w'.cell? ⟨w.heap.size + 1, 3, none⟩ = some (.int .u64 a.x3)) (by kernel_rfl) K0.out (fun hHeld => ?_)
      refine wpAnyH_take (i := 0) (oi := { dst := some 29, op := Op.move (Operand.tmp 1), type := 22, pos := "outright.go:179", after := #[], guard := none }) (v := ?_) rfl (by kernel_rfl) (by kernel_rfl) (by kernel_rfl) (fun _ _ _ h => h) (Or.inl ⟨by rfl, ?_⟩) hHeld ?_
      rotate_left 1
      · (intro w0 hSw; (try dsimp only at hSw); go_simp; try with_reducible rfl)
      simp only [Act.put, List.setIfInBounds_toArray, List.set_cons_zero, List.set_cons_succ]
      refine wpAnyH_take (i := 1) (oi := { dst := some 30, op := Op.binOp BinOp.leq 22 (Operand.tmp 29) (Operand.const (Value.int IntKind.u64 4611686018427387904)) 22, type := 4, pos := "outright.go:179", after := #[{ on := 0, ground := Ground.data }], guard := none }) (v := ?_) rfl (by kernel_rfl) (by kernel_rfl) (by kernel_rfl) (fun _ _ _ h => h) (Or.inl ⟨by rfl, ?_⟩) hHeld ?_
      rotate_left 1
      · (intro w0 hSw; (try dsimp only at hSw); go_simp; try with_reducible rfl)
      simp only [Act.put, List.setIfInBounds_toArray, List.set_cons_zero, List.set_cons_succ]
      refine wpAnyH_take (i := 2) (oi := { dst := some 31, op := Op.move (Operand.tmp 30), type := 4, pos := "outright.go:179", after := #[{ on := 1, ground := Ground.data }], guard := none }) (v := ?_) rfl (by kernel_rfl) (by kernel_rfl) (by kernel_rfl) (fun _ _ _ h => h) (Or.inl ⟨by rfl, ?_⟩) hHeld ?_
      rotate_left 1
      · (intro w0 hSw; (try dsimp only at hSw); go_simp; try with_reducible rfl)
      simp only [Act.put, List.setIfInBounds_toArray, List.set_cons_zero, List.set_cons_succ]
      refine wpAnyH_take (i := 3) (oi := { dst := some 32, op := Op.move (Operand.tmp 2), type := 22, pos := "outright.go:179", after := #[{ on := 2, ground := Ground.guard }], guard := some (2, true) }) (v := undef) rfl (by kernel_rfl) (by kernel_rfl) (by kernel_rfl) (fun _ _ _ h => h) (Or.inr ⟨by rfl, rfl⟩) hHeld ?_
      simp only [Act.put, List.setIfInBounds_toArray, List.set_cons_zero, List.set_cons_succ]
      refine wpAnyH_take (i := 4) (oi := { dst := some 33, op := Op.binOp BinOp.leq 22 (Operand.tmp 32) (Operand.const (Value.int IntKind.u64 4611686018427387904)) 22, type := 4, pos := "outright.go:179", after := #[{ on := 3, ground := Ground.data }, { on := 2, ground := Ground.guard }], guard := some (2, true) }) (v := undef) rfl (by kernel_rfl) (by kernel_rfl) (by kernel_rfl) (fun _ _ _ h => h) (Or.inr ⟨by rfl, rfl⟩) hHeld ?_
      simp only [Act.put, List.setIfInBounds_toArray, List.set_cons_zero, List.set_cons_succ]
      refine wpAnyH_take (i := 5) (oi := { dst := some 34, op := Op.pick (Operand.tmp 31) (Operand.tmp 33) (Operand.const (Value.bool false)), type := 4, pos := "outright.go:179", after := #[{ on := 2, ground := Ground.data }, { on := 4, ground := Ground.data }], guard := none }) (v := ?_) rfl (by kernel_rfl) (by kernel_rfl) (by kernel_rfl) (fun _ _ _ h => h) (Or.inl ⟨by rfl, ?_⟩) hHeld ?_
      rotate_left 1
      · (intro w0 hSw; (try dsimp only at hSw); go_simp; try with_reducible rfl)
      simp only [Act.put, List.setIfInBounds_toArray, List.set_cons_zero, List.set_cons_succ]
      refine wpAnyH_take (i := 6) (oi := { dst := some 35, op := Op.move (Operand.tmp 34), type := 4, pos := "outright.go:179", after := #[{ on := 5, ground := Ground.data }, { on := 2, ground := Ground.chain }], guard := none }) (v := ?_) rfl (by kernel_rfl) (by kernel_rfl) (by kernel_rfl) (fun _ _ _ h => h) (Or.inl ⟨by rfl, ?_⟩) hHeld ?_
      rotate_left 1
      · (intro w0 hSw; (try dsimp only at hSw); go_simp; try with_reducible rfl)
      simp only [Act.put, List.setIfInBounds_toArray, List.set_cons_zero, List.set_cons_succ]
      refine wpAnyH_take (i := 7) (oi := { dst := some 36, op := Op.load 25 (Operand.tmp 7), type := 25, pos := "outright.go:179", after := #[{ on := 6, ground := Ground.guard }], guard := some (6, true) }) (v := undef) rfl (by kernel_rfl) (by kernel_rfl) (by kernel_rfl) (fun _ _ _ h => h) (Or.inr ⟨by rfl, rfl⟩) hHeld ?_
      simp only [Act.put, List.setIfInBounds_toArray, List.set_cons_zero, List.set_cons_succ]
      refine wpAnyH_take (i := 8) (oi := { dst := some 37, op := Op.move (Operand.tmp 1), type := 22, pos := "outright.go:179", after := #[{ on := 6, ground := Ground.guard }], guard := some (6, true) }) (v := undef) rfl (by kernel_rfl) (by kernel_rfl) (by kernel_rfl) (fun _ _ _ h => h) (Or.inr ⟨by rfl, rfl⟩) hHeld ?_
      simp only [Act.put, List.setIfInBounds_toArray, List.set_cons_zero, List.set_cons_succ]
      refine wpAnyH_take (i := 10) (oi := { dst := some 39, op := Op.load 25 (Operand.tmp 7), type := 25, pos := "outright.go:179", after := #[{ on := 6, ground := Ground.guard }], guard := some (6, true) }) (v := undef) rfl (by kernel_rfl) (by kernel_rfl) (by kernel_rfl) (fun _ _ _ h => h) (Or.inr ⟨by rfl, rfl⟩) hHeld ?_
      simp only [Act.put, List.setIfInBounds_toArray, List.set_cons_zero, List.set_cons_succ]
      refine wpAnyH_take (i := 11) (oi := { dst := some 40, op := Op.move (Operand.tmp 2), type := 22, pos := "outright.go:179", after := #[{ on := 6, ground := Ground.guard }], guard := some (6, true) }) (v := undef) rfl (by kernel_rfl) (by kernel_rfl) (by kernel_rfl) (fun _ _ _ h => h) (Or.inr ⟨by rfl, rfl⟩) hHeld ?_
      simp only [Act.put, List.setIfInBounds_toArray, List.set_cons_zero, List.set_cons_succ]
      refine wpAnyH_take (i := 14) (oi := { dst := some 43, op := Op.load 25 (Operand.tmp 7), type := 25, pos := "outright.go:179", after := #[{ on := 6, ground := Ground.guard }], guard := some (6, true) }) (v := undef) rfl (by kernel_rfl) (by kernel_rfl) (by kernel_rfl) (fun _ _ _ h => h) (Or.inr ⟨by rfl, rfl⟩) hHeld ?_
      simp only [Act.put, List.setIfInBounds_toArray, List.set_cons_zero, List.set_cons_succ]
      refine wpAnyH_take (i := 15) (oi := { dst := some 44, op := Op.move (Operand.tmp 1), type := 22, pos := "outright.go:179", after := #[{ on := 6, ground := Ground.guard }], guard := some (6, true) }) (v := undef) rfl (by kernel_rfl) (by kernel_rfl) (by kernel_rfl) (fun _ _ _ h => h) (Or.inr ⟨by rfl, rfl⟩) hHeld ?_
      simp only [Act.put, List.setIfInBounds_toArray, List.set_cons_zero, List.set_cons_succ]
      refine wpAnyH_take (i := 16) (oi := { dst := some 45, op := Op.move (Operand.tmp 2), type := 22, pos := "outright.go:179", after := #[{ on := 6, ground := Ground.guard }], guard := some (6, true) }) (v := undef) rfl (by kernel_rfl) (by kernel_rfl) (by kernel_rfl) (fun _ _ _ h => h) (Or.inr ⟨by rfl, rfl⟩) hHeld ?_
      simp only [Act.put, List.setIfInBounds_toArray, List.set_cons_zero, List.set_cons_succ]
      refine wpAnyH_take (i := 17) (oi := { dst := some 46, op := Op.binOp BinOp.add 22 (Operand.tmp 44) (Operand.tmp 45) 22, type := 22, pos := "outright.go:179", after := #[{ on := 15, ground := Ground.data }, { on := 16, ground := Ground.data }, { on := 6, ground := Ground.guard }], guard := some (6, true) }) (v := undef) rfl (by kernel_rfl) (by kernel_rfl) (by kernel_rfl) (fun _ _ _ h => h) (Or.inr ⟨by rfl, rfl⟩) hHeld ?_
      simp only [Act.put, List.setIfInBounds_toArray, List.set_cons_zero, List.set_cons_succ]
      refine wpAnyH_ready (rs := [9]) (by kernel_rfl) (by simp) ?_
      refine AllReadyH.cons (o := { dst := some 38, op := Op.call { callee := Callee.value (Operand.func 10), args := #[Operand.tmp 36, Operand.tmp 37], argTypes := #[25, 22] }, type := 25, pos := "outright.go:179", after := #[{ on := 7, ground := Ground.data }, { on := 8, ground := Ground.data }, { on := 6, ground := Ground.chain }, { on := 6, ground := Ground.guard }], guard := some (6, true) }) rfl (fun K hK => ?_) AllReadyH.nil
      refine Eq.mpr (if_neg (by exact fun h => Bool.false_ne_true h)) ?_
      refine hK.out _ _ hHeld (fun hHeld2 => ?_)
      clear hK K hHeld2
      simp only [Act.put, List.setIfInBounds_toArray, List.set_cons_zero, List.set_cons_succ]
      refine wpAnyH_ready (rs := [12]) (by kernel_rfl) (by simp) ?_
      refine AllReadyH.cons (o := { dst := some 41, op := Op.call { callee := Callee.value (Operand.func 10), args := #[Operand.tmp 39, Operand.tmp 40], argTypes := #[25, 22] }, type := 25, pos := "outright.go:179", after := #[{ on := 10, ground := Ground.data }, { on := 11, ground := Ground.data }, { on := 9, ground := Ground.chain }, { on := 6, ground := Ground.guard }], guard := some (6, true) }) rfl (fun K hK => ?_) AllReadyH.nil
      refine Eq.mpr (if_neg (by exact fun h => Bool.false_ne_true h)) ?_
      refine hK.out _ _ hHeld (fun hHeld2 => ?_)
      clear hK K hHeld2
      simp only [Act.put, List.setIfInBounds_toArray, List.set_cons_zero, List.set_cons_succ]
      refine wpAnyH_ready (rs := [13]) (by kernel_rfl) (by simp) ?_
      refine AllReadyH.cons (o := { dst := some 42, op := Op.call { callee := Callee.value (Operand.func 12), args := #[Operand.tmp 38, Operand.tmp 41], argTypes := #[25, 25] }, type := 25, pos := "outright.go:179", after := #[{ on := 9, ground := Ground.data }, { on := 12, ground := Ground.data }, { on := 12, ground := Ground.chain }, { on := 6, ground := Ground.guard }], guard := some (6, true) }) rfl (fun K hK => ?_) AllReadyH.nil
      refine Eq.mpr (if_neg (by exact fun h => Bool.false_ne_true h)) ?_
      refine hK.out _ _ hHeld (fun hHeld2 => ?_)
      clear hK K hHeld2
      simp only [Act.put, List.setIfInBounds_toArray, List.set_cons_zero, List.set_cons_succ]
      refine wpAnyH_ready (rs := [18]) (by kernel_rfl) (by simp) ?_
      refine AllReadyH.cons (o := { dst := some 47, op := Op.call { callee := Callee.value (Operand.func 10), args := #[Operand.tmp 43, Operand.tmp 46], argTypes := #[25, 22] }, type := 25, pos := "outright.go:179", after := #[{ on := 14, ground := Ground.data }, { on := 17, ground := Ground.data }, { on := 13, ground := Ground.chain }, { on := 6, ground := Ground.guard }], guard := some (6, true) }) rfl (fun K hK => ?_) AllReadyH.nil
      refine Eq.mpr (if_neg (by exact fun h => Bool.false_ne_true h)) ?_
      refine hK.out _ _ hHeld (fun hHeld2 => ?_)
      clear hK K hHeld2
      simp only [Act.put, List.setIfInBounds_toArray, List.set_cons_zero, List.set_cons_succ]
      refine wpAnyH_take (i := 19) (oi := { dst := some 48, op := Op.binOp BinOp.neq 25 (Operand.tmp 42) (Operand.tmp 47) 25, type := 4, pos := "outright.go:179", after := #[{ on := 13, ground := Ground.data }, { on := 18, ground := Ground.data }, { on := 6, ground := Ground.guard }], guard := some (6, true) }) (v := undef) rfl (by kernel_rfl) (by kernel_rfl) (by kernel_rfl) (fun _ _ _ h => h) (Or.inr ⟨by rfl, rfl⟩) hHeld ?_
      simp only [Act.put, List.setIfInBounds_toArray, List.set_cons_zero, List.set_cons_succ]
      refine wpAnyH_take (i := 20) (oi := { dst := some 49, op := Op.pick (Operand.tmp 35) (Operand.tmp 48) (Operand.const (Value.bool false)), type := 4, pos := "outright.go:179", after := #[{ on := 6, ground := Ground.data }, { on := 19, ground := Ground.data }], guard := none }) (v := ?_) rfl (by kernel_rfl) (by kernel_rfl) (by kernel_rfl) (fun _ _ _ h => h) (Or.inl ⟨by rfl, ?_⟩) hHeld ?_
      rotate_left 1
      · (intro w0 hSw; (try dsimp only at hSw); go_simp; try with_reducible rfl)
      simp only [Act.put, List.setIfInBounds_toArray, List.set_cons_zero, List.set_cons_succ]
      refine wpAnyH_done (by kernel_rfl) ?_ _
      refine NoPanic.normal ?_
      go_wp2_with fail
      go_meet
      exact ⟨rfl, k4.out.1.drew⟩
  case rest =>
  obtain ⟨rfl, s4⟩ := hcut
  have S4 := hidden s4
  clear s4 k4 hk KSt KTb p_0' p_1' p_E p_F m_EF p_S lv
  go_upto_region 6 with fail
  go_cut [8] (fun vx wx => ∃ P8 : Nat, vx = .pointer (some ⟨P8, 0, none⟩) ∧ w.heap.size + 1 < P8 ∧ St w [(P8, lE), (w.heap.size + 1, a)] [] wx)
  case first =>
    go_wp2_with fail
    refine (pr.out _).mono ?_
    rintro e w5 ⟨rfl, hb5⟩
    have s5 := hidden ((S4.out.keep hb5).new lE 24)
    have hl := ((S4.out.keep hb5).live (w.heap.size + 1, a) (by simp)).lt
    go_wp2_with fail
    go_meet
    exact ⟨_, rfl, hl, s5.out⟩
  case rest =>
  obtain ⟨P8, rfl, h8, s8⟩ := hcut
  have S8 := hidden s8
  clear s8 S4
  go_upto_region 7 with fail
  go_cut [9] (fun vx wx => ∃ P9 : Nat, vx = .pointer (some ⟨P9, 0, none⟩) ∧ P8 < P9 ∧ St w [(P9, k1), (P8, lE), (w.heap.size + 1, a)] [P9] wx)
  case first =>
    have s5 := hidden (S8.out.roomR k1 25)
    have hl := (S8.out.live (P8, lE) (by simp)).lt
    go_wp2_with fail
    go_meet
    exact ⟨_, rfl, hl, s5.out⟩
  case rest =>
  obtain ⟨P9, rfl, h9, s9⟩ := hcut
  have S9 := hidden s9
  clear s9 S8
  go_upto_region 8 with fail
  go_cut [10] (fun vx wx => ∃ P10 : Nat, vx = .pointer (some ⟨P10, 0, none⟩) ∧ P9 < P10 ∧ St w [(P10, LA), (P9, k1), (P8, lE), (w.heap.size + 1, a)] [P10, P9] wx)
  case first =>
    have x0 := (S9.out.live (w.heap.size + 1, a) (by simp)).c0
    have x1 := (S9.out.live (w.heap.size + 1, a) (by simp)).c1
    have x2 := (S9.out.live (w.heap.size + 1, a) (by simp)).c2
    have x3 := (S9.out.live (w.heap.size + 1, a) (by simp)).c3
    go_wp2_with fail
    refine (l_a.out _ (S9.out.tb HT.out)).mono ?_
    rintro e w5 ⟨rfl, hb5⟩
    have s5 := hidden ((S9.out.keep hb5).roomR LA 25)
    have hl := ((S9.out.keep hb5).live (P9, k1) (by simp)).lt
    clear x0 x1 x2 x3
    go_wp2_with fail
    go_meet
    exact ⟨_, rfl, hl, s5.out⟩
  case rest =>
  obtain ⟨P10, rfl, h10, s10⟩ := hcut
  have S10 := hidden s10
  clear s10 S9
  go_wp2_with fail
  go_loopw [11] (fun i w' => ∃ (k : Nat) (O Tp : E4), k ≤ 4 ∧ i = .int .i64 k ∧ O.is (a.n ^ fl k) ∧ Tp.is (a.n ^ 2 ^ (64 * k)) ∧ St w [(P10, Tp), (P9, O), (P8, lE), (w.heap.size + 1, a)] [P10, P9] w') (fun i _ => 4 - (intOf i).toNat)
  case atStart =>
    refine ⟨0, k1, LA, by omega, rfl, ?_, ?_, S10.out⟩
    · rw [show a.n ^ fl 0 = 1 from Int.pow_zero _]; exact lst1.symm
    · have h := HLA.out
      rw [show a.n ^ 2 ^ (64 * 0) = a.n by simp [Int.pow_succ]]; exact h
  case round =>
    obtain ⟨k, O, Tp, hk, rfl, hO, hTp, hst⟩ := hrel
    have HO := hidden hO
    have HTp := hidden hTp
    have ST := hidden hst
    clear hO hTp hst S10
    by_cases hk4 : k < 4
    · obtain rfl | rfl | rfl | rfl : k = 0 ∨ k = 1 ∨ k = 2 ∨ k = 3 := by omega
      · rw [show ((0 : Nat) : Int) = 0 from rfl]
        have EX := hidden (fl_next a.n 0)
        have TX := hidden (top_next a.n 0)
        have c0 : wr.cell? ⟨P8, 0, none⟩ = some (.int .u64 6346243789798364141) := (ST.out.live (P8, lE) (by simp)).c0
        have PWk := PW.out Tp 6346243789798364140 HTp.out.ok (by decide)
        rw [show ((6346243789798364140 : Nat) : Int) = 6346243789798364140 from rfl] at PWk
        replace PWk := hidden PWk
        go_upto_region 15 with fail
        go_cut [] (fun wx => ∃ O2 : E4, O2.is (a.n ^ fl (0 + 1)) ∧ St w [(P10, Tp), (P9, O2), (P8, lE), (w.heap.size + 1, a)] [P10, P9] wx)
        case first =>
          have o0 := (ST.out.live (P9, O) (by simp)).drew.c0
          have o1 := (ST.out.live (P9, O) (by simp)).drew.c1
          have o2 := (ST.out.live (P9, O) (by simp)).drew.c2
          have o3 := (ST.out.live (P9, O) (by simp)).drew.c3
          have y0 := (ST.out.live (P10, Tp) (by simp)).drew.c0
          have y1 := (ST.out.live (P10, Tp) (by simp)).drew.c1
          have y2 := (ST.out.live (P10, Tp) (by simp)).drew.c2
          have y3 := (ST.out.live (P10, Tp) (by simp)).drew.c3
          go_region_with (first | (go_at_call 10; refine (PWk.out _ (ST.out.drew.tb HT.out)).mono ?_; rintro e wA ⟨u, rfl, hu, hbA⟩; have sA := ST.out.drew.keep hbA; have a0 := (sA.live (P9, O) (by simp)).c0; have a1 := (sA.live (P9, O) (by simp)).c1; have a2 := (sA.live (P9, O) (by simp)).c2; have a3 := (sA.live (P9, O) (by simp)).c3; clear sA) | (go_at_call 12; refine (MU.out O u HO.out.ok hu.ok _ ((ST.out.drew.keep hbA).tb HT.out)).mono ?_; rintro e wB ⟨t, rfl, ht, hbB⟩; have sB := (ST.out.drew.keep hbA).keep hbB; have q0 := (sB.live (P9, O) (by simp)).c0; have q1 := (sB.live (P9, O) (by simp)).c1; have q2 := (sB.live (P9, O) (by simp)).c2; have q3 := (sB.live (P9, O) (by simp)).c3; have f0 := (sB.wrt P9 (by simp)).1.f0; have f1 := (sB.wrt P9 (by simp)).1.f1; have f2 := (sB.wrt P9 (by simp)).1.f2; have f3 := (sB.wrt P9 (by simp)).1.f3; have S5 := hidden (sB.set (b := P9) (M := [(P10, Tp), (P8, lE), (w.heap.size + 1, a)]) t (old := O) (by simp) (by omega) (by simp; omega)); clear sB))
          all_goals
            clear o0 o1 o2 o3 y0 y1 y2 y3 q0 q1 q2 q3 f0 f1 f2 f3
            have HU := hidden (is_pow HTp.out hu)
            have HT2 := hidden ht
            go_wp2_with fail
            go_meet
            exact ⟨t, by have h := is_mul HO.out HU.out HT2.out; rw [show (6346243789798364140 : Nat) = fN 0 from rfl, EX.out] at h; exact h, S5.out.sub (by simp)⟩
        case rest =>
        obtain ⟨O2, hO2, s2⟩ := hcut
        have HO2 := hidden hO2
        have S2 := hidden s2
        clear hO2 s2 c0 ST HO PWk EX
        have y0 := (S2.out.live (P10, Tp) (by simp)).c0
        have y1 := (S2.out.live (P10, Tp) (by simp)).c1
        have y2 := (S2.out.live (P10, Tp) (by simp)).c2
        have y3 := (S2.out.live (P10, Tp) (by simp)).c3
        have PW1 := PW.out Tp 4294967296 HTp.out.ok (by decide)
        rw [show ((4294967296 : Nat) : Int) = 4294967296 from rfl] at PW1
        replace PW1 := hidden PW1
        go_wp2_with fail
        refine (PW1.out _ (S2.out.tb HT.out)).mono ?_
        rintro e wA ⟨u, rfl, hu, hbA⟩
        clear PW1 y0 y1 y2 y3
        have PW2 := PW.out u 4294967296 hu.ok (by decide)
        rw [show ((4294967296 : Nat) : Int) = 4294967296 from rfl] at PW2
        replace PW2 := hidden PW2
        have HU := hidden (is_pow HTp.out hu)
        have SA := hidden (S2.out.keep hbA)
        clear hu S2 hbA
        go_wp2_with fail
        refine (PW2.out _ (SA.out.tb HT.out)).mono ?_
        rintro e wB ⟨v, rfl, hv, hbB⟩
        have HV := hidden (is_pow HU.out hv)
        have sB := SA.out.keep hbB
        have q0 := (sB.live (P10, Tp) (by simp)).c0
        have q1 := (sB.live (P10, Tp) (by simp)).c1
        have q2 := (sB.live (P10, Tp) (by simp)).c2
        have q3 := (sB.live (P10, Tp) (by simp)).c3
        have f0 := (sB.wrt P10 (by simp)).1.f0
        have f1 := (sB.wrt P10 (by simp)).1.f1
        have f2 := (sB.wrt P10 (by simp)).1.f2
        have f3 := (sB.wrt P10 (by simp)).1.f3
        have S5 := hidden (sB.set (b := P10) (M := [(P9, O2), (P8, lE), (w.heap.size + 1, a)]) v (old := Tp) (by simp) (by omega) (by simp; omega))
        clear hv sB SA hbB PW2 HU
        go_wp2_with fail
        go_roundw
        case rel => exact ⟨0 + 1, O2, v, by omega, by go_num, HO2.out, by have h := HV.out; rw [TX.out] at h; exact h, S5.out⟩
        case measure => simp [intOf]
      · rw [show ((1 : Nat) : Int) = 1 from rfl]
        have EX := hidden (fl_next a.n 1)
        have TX := hidden (top_next a.n 1)
        have c1 : wr.cell? ⟨P8, 1, none⟩ = some (.int .u64 1503914060200516822) := (ST.out.live (P8, lE) (by simp)).c1
        have PWk := PW.out Tp 1503914060200516822 HTp.out.ok (by decide)
        rw [show ((1503914060200516822 : Nat) : Int) = 1503914060200516822 from rfl] at PWk
        replace PWk := hidden PWk
        go_upto_region 15 with fail
        go_cut [] (fun wx => ∃ O2 : E4, O2.is (a.n ^ fl (1 + 1)) ∧ St w [(P10, Tp), (P9, O2), (P8, lE), (w.heap.size + 1, a)] [P10, P9] wx)
        case first =>
          have o0 := (ST.out.live (P9, O) (by simp)).drew.c0
          have o1 := (ST.out.live (P9, O) (by simp)).drew.c1
          have o2 := (ST.out.live (P9, O) (by simp)).drew.c2
          have o3 := (ST.out.live (P9, O) (by simp)).drew.c3
          have y0 := (ST.out.live (P10, Tp) (by simp)).drew.c0
          have y1 := (ST.out.live (P10, Tp) (by simp)).drew.c1
          have y2 := (ST.out.live (P10, Tp) (by simp)).drew.c2
          have y3 := (ST.out.live (P10, Tp) (by simp)).drew.c3
          go_region_with (first | (go_at_call 10; refine (PWk.out _ (ST.out.drew.tb HT.out)).mono ?_; rintro e wA ⟨u, rfl, hu, hbA⟩; have sA := ST.out.drew.keep hbA; have a0 := (sA.live (P9, O) (by simp)).c0; have a1 := (sA.live (P9, O) (by simp)).c1; have a2 := (sA.live (P9, O) (by simp)).c2; have a3 := (sA.live (P9, O) (by simp)).c3; clear sA) | (go_at_call 12; refine (MU.out O u HO.out.ok hu.ok _ ((ST.out.drew.keep hbA).tb HT.out)).mono ?_; rintro e wB ⟨t, rfl, ht, hbB⟩; have sB := (ST.out.drew.keep hbA).keep hbB; have q0 := (sB.live (P9, O) (by simp)).c0; have q1 := (sB.live (P9, O) (by simp)).c1; have q2 := (sB.live (P9, O) (by simp)).c2; have q3 := (sB.live (P9, O) (by simp)).c3; have f0 := (sB.wrt P9 (by simp)).1.f0; have f1 := (sB.wrt P9 (by simp)).1.f1; have f2 := (sB.wrt P9 (by simp)).1.f2; have f3 := (sB.wrt P9 (by simp)).1.f3; have S5 := hidden (sB.set (b := P9) (M := [(P10, Tp), (P8, lE), (w.heap.size + 1, a)]) t (old := O) (by simp) (by omega) (by simp; omega)); clear sB))
          all_goals
            clear o0 o1 o2 o3 y0 y1 y2 y3 q0 q1 q2 q3 f0 f1 f2 f3
            have HU := hidden (is_pow HTp.out hu)
            have HT2 := hidden ht
            go_wp2_with fail
            go_meet
            exact ⟨t, by have h := is_mul HO.out HU.out HT2.out; rw [show (1503914060200516822 : Nat) = fN 1 from rfl, EX.out] at h; exact h, S5.out.sub (by simp)⟩
        case rest =>
        obtain ⟨O2, hO2, s2⟩ := hcut
        have HO2 := hidden hO2
        have S2 := hidden s2
        clear hO2 s2 c1 ST HO PWk EX
        have y0 := (S2.out.live (P10, Tp) (by simp)).c0
        have y1 := (S2.out.live (P10, Tp) (by simp)).c1
        have y2 := (S2.out.live (P10, Tp) (by simp)).c2
        have y3 := (S2.out.live (P10, Tp) (by simp)).c3
        have PW1 := PW.out Tp 4294967296 HTp.out.ok (by decide)
        rw [show ((4294967296 : Nat) : Int) = 4294967296 from rfl] at PW1
        replace PW1 := hidden PW1
        go_wp2_with fail
        refine (PW1.out _ (S2.out.tb HT.out)).mono ?_
        rintro e wA ⟨u, rfl, hu, hbA⟩
        clear PW1 y0 y1 y2 y3
        have PW2 := PW.out u 4294967296 hu.ok (by decide)
        rw [show ((4294967296 : Nat) : Int) = 4294967296 from rfl] at PW2
        replace PW2 := hidden PW2
        have HU := hidden (is_pow HTp.out hu)
        have SA := hidden (S2.out.keep hbA)
        clear hu S2 hbA
        go_wp2_with fail
        refine (PW2.out _ (SA.out.tb HT.out)).mono ?_
        rintro e wB ⟨v, rfl, hv, hbB⟩
        have HV := hidden (is_pow HU.out hv)
        have sB := SA.out.keep hbB
        have q0 := (sB.live (P10, Tp) (by simp)).c0
        have q1 := (sB.live (P10, Tp) (by simp)).c1
        have q2 := (sB.live (P10, Tp) (by simp)).c2
        have q3 := (sB.live (P10, Tp) (by simp)).c3
        have f0 := (sB.wrt P10 (by simp)).1.f0
        have f1 := (sB.wrt P10 (by simp)).1.f1
        have f2 := (sB.wrt P10 (by simp)).1.f2
        have f3 := (sB.wrt P10 (by simp)).1.f3
        have S5 := hidden (sB.set (b := P10) (M := [(P9, O2), (P8, lE), (w.heap.size + 1, a)]) v (old := Tp) (by simp) (by omega) (by simp; omega))
        clear hv sB SA hbB PW2 HU
        go_wp2_with fail
        go_roundw
        case rel => exact ⟨1 + 1, O2, v, by omega, by go_num, HO2.out, by have h := HV.out; rw [TX.out] at h; exact h, S5.out⟩
        case measure => simp [intOf]
      · rw [show ((2 : Nat) : Int) = 2 from rfl]
        have EX := hidden (fl_next a.n 2)
        have TX := hidden (top_next a.n 2)
        have c2 : wr.cell? ⟨P8, 2, none⟩ = some (.int .u64 0) := (ST.out.live (P8, lE) (by simp)).c2
        have PWk := PW.out Tp 0 HTp.out.ok (by decide)
        rw [show ((0 : Nat) : Int) = 0 from rfl] at PWk
        replace PWk := hidden PWk
        go_upto_region 15 with fail
        go_cut [] (fun wx => ∃ O2 : E4, O2.is (a.n ^ fl (2 + 1)) ∧ St w [(P10, Tp), (P9, O2), (P8, lE), (w.heap.size + 1, a)] [P10, P9] wx)
        case first =>
          have o0 := (ST.out.live (P9, O) (by simp)).drew.c0
          have o1 := (ST.out.live (P9, O) (by simp)).drew.c1
          have o2 := (ST.out.live (P9, O) (by simp)).drew.c2
          have o3 := (ST.out.live (P9, O) (by simp)).drew.c3
          have y0 := (ST.out.live (P10, Tp) (by simp)).drew.c0
          have y1 := (ST.out.live (P10, Tp) (by simp)).drew.c1
          have y2 := (ST.out.live (P10, Tp) (by simp)).drew.c2
          have y3 := (ST.out.live (P10, Tp) (by simp)).drew.c3
          go_region_with (first | (go_at_call 10; refine (PWk.out _ (ST.out.drew.tb HT.out)).mono ?_; rintro e wA ⟨u, rfl, hu, hbA⟩; have sA := ST.out.drew.keep hbA; have a0 := (sA.live (P9, O) (by simp)).c0; have a1 := (sA.live (P9, O) (by simp)).c1; have a2 := (sA.live (P9, O) (by simp)).c2; have a3 := (sA.live (P9, O) (by simp)).c3; clear sA) | (go_at_call 12; refine (MU.out O u HO.out.ok hu.ok _ ((ST.out.drew.keep hbA).tb HT.out)).mono ?_; rintro e wB ⟨t, rfl, ht, hbB⟩; have sB := (ST.out.drew.keep hbA).keep hbB; have q0 := (sB.live (P9, O) (by simp)).c0; have q1 := (sB.live (P9, O) (by simp)).c1; have q2 := (sB.live (P9, O) (by simp)).c2; have q3 := (sB.live (P9, O) (by simp)).c3; have f0 := (sB.wrt P9 (by simp)).1.f0; have f1 := (sB.wrt P9 (by simp)).1.f1; have f2 := (sB.wrt P9 (by simp)).1.f2; have f3 := (sB.wrt P9 (by simp)).1.f3; have S5 := hidden (sB.set (b := P9) (M := [(P10, Tp), (P8, lE), (w.heap.size + 1, a)]) t (old := O) (by simp) (by omega) (by simp; omega)); clear sB))
          all_goals
            clear o0 o1 o2 o3 y0 y1 y2 y3 q0 q1 q2 q3 f0 f1 f2 f3
            have HU := hidden (is_pow HTp.out hu)
            have HT2 := hidden ht
            go_wp2_with fail
            go_meet
            exact ⟨t, by have h := is_mul HO.out HU.out HT2.out; rw [show (0 : Nat) = fN 2 from rfl, EX.out] at h; exact h, S5.out.sub (by simp)⟩
        case rest =>
        obtain ⟨O2, hO2, s2⟩ := hcut
        have HO2 := hidden hO2
        have S2 := hidden s2
        clear hO2 s2 c2 ST HO PWk EX
        have y0 := (S2.out.live (P10, Tp) (by simp)).c0
        have y1 := (S2.out.live (P10, Tp) (by simp)).c1
        have y2 := (S2.out.live (P10, Tp) (by simp)).c2
        have y3 := (S2.out.live (P10, Tp) (by simp)).c3
        have PW1 := PW.out Tp 4294967296 HTp.out.ok (by decide)
        rw [show ((4294967296 : Nat) : Int) = 4294967296 from rfl] at PW1
        replace PW1 := hidden PW1
        go_wp2_with fail
        refine (PW1.out _ (S2.out.tb HT.out)).mono ?_
        rintro e wA ⟨u, rfl, hu, hbA⟩
        clear PW1 y0 y1 y2 y3
        have PW2 := PW.out u 4294967296 hu.ok (by decide)
        rw [show ((4294967296 : Nat) : Int) = 4294967296 from rfl] at PW2
        replace PW2 := hidden PW2
        have HU := hidden (is_pow HTp.out hu)
        have SA := hidden (S2.out.keep hbA)
        clear hu S2 hbA
        go_wp2_with fail
        refine (PW2.out _ (SA.out.tb HT.out)).mono ?_
        rintro e wB ⟨v, rfl, hv, hbB⟩
        have HV := hidden (is_pow HU.out hv)
        have sB := SA.out.keep hbB
        have q0 := (sB.live (P10, Tp) (by simp)).c0
        have q1 := (sB.live (P10, Tp) (by simp)).c1
        have q2 := (sB.live (P10, Tp) (by simp)).c2
        have q3 := (sB.live (P10, Tp) (by simp)).c3
        have f0 := (sB.wrt P10 (by simp)).1.f0
        have f1 := (sB.wrt P10 (by simp)).1.f1
        have f2 := (sB.wrt P10 (by simp)).1.f2
        have f3 := (sB.wrt P10 (by simp)).1.f3
        have S5 := hidden (sB.set (b := P10) (M := [(P9, O2), (P8, lE), (w.heap.size + 1, a)]) v (old := Tp) (by simp) (by omega) (by simp; omega))
        clear hv sB SA hbB PW2 HU
        go_wp2_with fail
        go_roundw
        case rel => exact ⟨2 + 1, O2, v, by omega, by go_num, HO2.out, by have h := HV.out; rw [TX.out] at h; exact h, S5.out⟩
        case measure => simp [intOf]
      · rw [show ((3 : Nat) : Int) = 3 from rfl]
        have EX := hidden (fl_next a.n 3)
        have TX := hidden (top_next a.n 3)
        have c3 : wr.cell? ⟨P8, 3, none⟩ = some (.int .u64 1152921504606846976) := (ST.out.live (P8, lE) (by simp)).c3
        have PWk := PW.out Tp 1152921504606846976 HTp.out.ok (by decide)
        rw [show ((1152921504606846976 : Nat) : Int) = 1152921504606846976 from rfl] at PWk
        replace PWk := hidden PWk
        go_upto_region 15 with fail
        go_cut [] (fun wx => ∃ O2 : E4, O2.is (a.n ^ fl (3 + 1)) ∧ St w [(P10, Tp), (P9, O2), (P8, lE), (w.heap.size + 1, a)] [P10, P9] wx)
        case first =>
          have o0 := (ST.out.live (P9, O) (by simp)).drew.c0
          have o1 := (ST.out.live (P9, O) (by simp)).drew.c1
          have o2 := (ST.out.live (P9, O) (by simp)).drew.c2
          have o3 := (ST.out.live (P9, O) (by simp)).drew.c3
          have y0 := (ST.out.live (P10, Tp) (by simp)).drew.c0
          have y1 := (ST.out.live (P10, Tp) (by simp)).drew.c1
          have y2 := (ST.out.live (P10, Tp) (by simp)).drew.c2
          have y3 := (ST.out.live (P10, Tp) (by simp)).drew.c3
          go_region_with (first | (go_at_call 10; refine (PWk.out _ (ST.out.drew.tb HT.out)).mono ?_; rintro e wA ⟨u, rfl, hu, hbA⟩; have sA := ST.out.drew.keep hbA; have a0 := (sA.live (P9, O) (by simp)).c0; have a1 := (sA.live (P9, O) (by simp)).c1; have a2 := (sA.live (P9, O) (by simp)).c2; have a3 := (sA.live (P9, O) (by simp)).c3; clear sA) | (go_at_call 12; refine (MU.out O u HO.out.ok hu.ok _ ((ST.out.drew.keep hbA).tb HT.out)).mono ?_; rintro e wB ⟨t, rfl, ht, hbB⟩; have sB := (ST.out.drew.keep hbA).keep hbB; have q0 := (sB.live (P9, O) (by simp)).c0; have q1 := (sB.live (P9, O) (by simp)).c1; have q2 := (sB.live (P9, O) (by simp)).c2; have q3 := (sB.live (P9, O) (by simp)).c3; have f0 := (sB.wrt P9 (by simp)).1.f0; have f1 := (sB.wrt P9 (by simp)).1.f1; have f2 := (sB.wrt P9 (by simp)).1.f2; have f3 := (sB.wrt P9 (by simp)).1.f3; have S5 := hidden (sB.set (b := P9) (M := [(P10, Tp), (P8, lE), (w.heap.size + 1, a)]) t (old := O) (by simp) (by omega) (by simp; omega)); clear sB))
          all_goals
            clear o0 o1 o2 o3 y0 y1 y2 y3 q0 q1 q2 q3 f0 f1 f2 f3
            have HU := hidden (is_pow HTp.out hu)
            have HT2 := hidden ht
            go_wp2_with fail
            go_meet
            exact ⟨t, by have h := is_mul HO.out HU.out HT2.out; rw [show (1152921504606846976 : Nat) = fN 3 from rfl, EX.out] at h; exact h, S5.out.sub (by simp)⟩
        case rest =>
        obtain ⟨O2, hO2, s2⟩ := hcut
        have HO2 := hidden hO2
        have S2 := hidden s2
        clear hO2 s2 c3 ST HO PWk EX
        have y0 := (S2.out.live (P10, Tp) (by simp)).c0
        have y1 := (S2.out.live (P10, Tp) (by simp)).c1
        have y2 := (S2.out.live (P10, Tp) (by simp)).c2
        have y3 := (S2.out.live (P10, Tp) (by simp)).c3
        have PW1 := PW.out Tp 4294967296 HTp.out.ok (by decide)
        rw [show ((4294967296 : Nat) : Int) = 4294967296 from rfl] at PW1
        replace PW1 := hidden PW1
        go_wp2_with fail
        refine (PW1.out _ (S2.out.tb HT.out)).mono ?_
        rintro e wA ⟨u, rfl, hu, hbA⟩
        clear PW1 y0 y1 y2 y3
        have PW2 := PW.out u 4294967296 hu.ok (by decide)
        rw [show ((4294967296 : Nat) : Int) = 4294967296 from rfl] at PW2
        replace PW2 := hidden PW2
        have HU := hidden (is_pow HTp.out hu)
        have SA := hidden (S2.out.keep hbA)
        clear hu S2 hbA
        go_wp2_with fail
        refine (PW2.out _ (SA.out.tb HT.out)).mono ?_
        rintro e wB ⟨v, rfl, hv, hbB⟩
        have HV := hidden (is_pow HU.out hv)
        have sB := SA.out.keep hbB
        have q0 := (sB.live (P10, Tp) (by simp)).c0
        have q1 := (sB.live (P10, Tp) (by simp)).c1
        have q2 := (sB.live (P10, Tp) (by simp)).c2
        have q3 := (sB.live (P10, Tp) (by simp)).c3
        have f0 := (sB.wrt P10 (by simp)).1.f0
        have f1 := (sB.wrt P10 (by simp)).1.f1
        have f2 := (sB.wrt P10 (by simp)).1.f2
        have f3 := (sB.wrt P10 (by simp)).1.f3
        have S5 := hidden (sB.set (b := P10) (M := [(P9, O2), (P8, lE), (w.heap.size + 1, a)]) v (old := Tp) (by simp) (by omega) (by simp; omega))
        clear hv sB SA hbB PW2 HU
        go_wp2_with fail
        go_roundw
        case rel => exact ⟨3 + 1, O2, v, by omega, by go_num, HO2.out, by have h := HV.out; rw [TX.out] at h; exact h, S5.out⟩
        case measure => simp [intOf]
    · have hkk : k = 4 := by omega
      subst hkk
      have x0 := (ST.out.live (w.heap.size + 1, a) (by simp)).c0
      have x1 := (ST.out.live (w.heap.size + 1, a) (by simp)).c1
      have x2 := (ST.out.live (w.heap.size + 1, a) (by simp)).c2
      have x3 := (ST.out.live (w.heap.size + 1, a) (by simp)).c3
      go_wp2_with fail
      refine (z_a.out _ (ST.out.tb HT.out)).mono ?_
      rintro e w7 ⟨rfl, hb7⟩
      have S7 := hidden (ST.out.keep hb7)
      clear x0 x1 x2 x3 ST
      have o0 := (S7.out.live (P9, O) (by simp)).c0
      have o1 := (S7.out.live (P9, O) (by simp)).c1
      have o2 := (S7.out.live (P9, O) (by simp)).c2
      have o3 := (S7.out.live (P9, O) (by simp)).c3
      by_cases hz : a.n % Sm.L = 0
      · have hd := fermat_zero a.n hz
        rw [← (show O = lst (a.n ^ fl 4) from HO.out)] at hd
        have IZO := IZ.out O HO.out.ok
        rw [decide_eq_true hd] at IZO
        replace IZO := hidden IZO
        clear hd
        go_wp2_with fail
        refine (IZO.out _ (S7.out.tb HT.out)).mono ?_
        rintro e w8 ⟨rfl, hb8⟩
        clear o0 o1 o2 o3
        go_wp2_with fail
        go_ret
        exact ⟨rfl, (S7.out.keep hb8).bel⟩
      · have hO1 : O = k1 := (show O = lst (a.n ^ fl 4) from HO.out).trans (fermat_one a.n hz)
        have qO := fun w => (eq4 O k1 w).trans (by rw [hO1, E4.same_self] : _ = Result.ok true w)
        simp only [E4.v, k1] at qO
        clear hO1
        go_wp2_with fail
        go_ret
        exact ⟨rfl, S7.out.bel⟩
end Go.Proofs.YtebegeedaehndaaDoor
