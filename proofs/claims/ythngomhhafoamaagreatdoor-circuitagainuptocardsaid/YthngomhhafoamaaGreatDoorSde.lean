import Derived.Test.YthngomhhafoamaaGreatDoorTz
namespace Go.Proofs.YthngomhhafoamaaGreatDoor
open Go.RowKit
theorem num_lt256 {zs : List Int} (lz : zs.length = 32) (hz : ∀ z ∈ zs, 0 ≤ z ∧ z ≤ 255) : (num zs : Int) < 115792089237316195423570985008687907853269984665640564039457584007913129639936 := by
 have h := num_lt zs hz
 rw [lz] at h
 simp only [Nat.reducePow] at h
 omega
theorem limE_lst (N : Int) (h0 : 0 ≤ N) (h : N < Sm.L) : limE N = lst N := by
 unfold limE lst
 rw [Int.emod_eq_of_lt h0 h]
theorem limE_ne (N : Int) (h0 : 0 ≤ N) (h1 : N < 115792089237316195423570985008687907853269984665640564039457584007913129639936) (h : ¬ N < Sm.L) : limE N ≠ lst N := by
 intro e
 have e2 := congrArg E4.n e
 rw [limE_n N h0 h1, lst_n] at e2
 have := (mod_bd N).2
 omega
set_option maxRecDepth 100000 in
set_option maxHeartbeats 4000000 in
theorem Decode_any (zs : List Int) (w : World) (hT : Tb w) (lz : zs.length = 32) (hz : ∀ z ∈ zs, 0 ≤ z ∧ z ≤ 255) (B : Bool) (hB : decide ((num zs : Int) < Sm.L) = B) :
  Calls Tryz.prog 97 #[bv zs] w fun e w' => e = .returned (.tuple #[(cond B (limE (num zs)) zero4).v, .int .i64 (cond B 0 3)]) ∧ Below w.heap.size w w' := by
 have c1 := Hn (fun w => read_any zs w lz hz)
 have h256 := num_lt256 lz hz
 have c2 := fun w T => Least_any (limE (num zs)) w T (limE_ok _)
 rw [limE_n _ (by omega) h256] at c2
 have hq : ∀ l : E4, l.is (num zs) → ∀ w, (Op.equalIn 10000 35 (limE (num zs)).v l.v).run Tryz.prog w = .ok B w := fun l hl w => by
  refine (eq4 _ _ w).trans ?_
  have hS : (limE (num zs)).same l = B := ?_
  ·rw [hS]
  rw [← hB, Bool.eq_iff_iff, E4.same_iff, decide_eq_true_iff, (show l = lst (num zs) from hl)]
  constructor
  ·intro h
   by_cases h2 : (num zs : Int) < Sm.L
   ·exact h2
   ·exact absurd h (limE_ne _ (by omega) h256 h2)
  ·intro h; exact limE_lst _ (by omega) h
 have HQ := Hn hq
 have C2 := Hn c2
 have hi : (Tryz.prog.info? 79).map (·.size) = some (zs.map fun z => Value.int .u8 z).length := by rw [List.length_map, lz]; kernel_rfl
 have hu : Tryz.prog.underlying 79 = some (.array 32 5) := by kernel_rfl
 have HU := Hn hu
 have HI := Hn hi
 have HT := Hn hT
 have RN := Hn (range_new w zs 79)
 clear hu hi lz hz c2 hT hq hB h256
 generalize (num zs : Int) = N at *
 simp only [E4.v, bv] at c1 C2 HQ ⊢
 generalize limE N = r at *
 generalize (zs.map fun z => Value.int .u8 z) = cs at *
 go_enter Tryz.func97, Tryz.ntmps97
 go_upto_region 1 with fail
 go_cut [4] (fun v4 wx => ∃ A : Nat, v4 = .pointer (some ⟨A, 0, none⟩) ∧ w.heap.size + 1 < A ∧ St w [(A, r), (w.heap.size + 1, zero4)] [w.heap.size + 1] wx)
 case first =>
  go_wp2_with (first | refine wpList_load_mid rfl 79 _ rfl w.heap.size 0 (by rfl) cs _ (World.rangeAt_alloc RN.out _) HU.out rfl HI.out ?_)
  refine (c1.out _).mono ?_
  rintro e w1 ⟨rfl, hb1⟩
  have s1 := (((((St.nil w).keep (bl_alloc w (.cells cs.toArray 79))).room 35).keep (by simpa using hb1))).new r 35
  simp only [World.size_alloc] at s1
  have S1 := Hn s1
  have hz : w.heap.size + 1 < w1.heap.size := by have := hb1.size; simp at this; omega
  clear s1 hb1
  go_wp2_with fail
  go_meet
  exact ⟨w1.heap.size, rfl, hz, S1.out⟩
 case rest =>
 obtain ⟨A, rfl, hA, hD⟩ := hcut
 have SH := Hn hD
 clear RN c1 hD
 have KSt : Hid (∀ w' : World, St w [(A, r), (w.heap.size + 1, zero4)] [w.heap.size + 1] w' → (fun w' => St w [(A, r), (w.heap.size + 1, zero4)] [w.heap.size + 1] w' ∧ w'.cell? ⟨A, 0, none⟩ = some (.int .u64 r.x0) ∧ w'.cell? ⟨A, 1, none⟩ = some (.int .u64 r.x1) ∧ w'.cell? ⟨A, 2, none⟩ = some (.int .u64 r.x2) ∧ w'.cell? ⟨A, 3, none⟩ = some (.int .u64 r.x3)) w') := Hn (fun w' h => ⟨h, (h.live (A, r) (by simp)).c0, (h.live (A, r) (by simp)).c1, (h.live (A, r) (by simp)).c2, (h.live (A, r) (by simp)).c3⟩)
 have K0 := Hn (KSt.out _ SH.out.drew)
 go_upto_region 2 with fail
 go_region_held3 (fun w' => St w [(A, r), (w.heap.size + 1, zero4)] [w.heap.size + 1] w' ∧ w'.cell? ⟨A, 0, none⟩ = some (.int .u64 r.x0) ∧ w'.cell? ⟨A, 1, none⟩ = some (.int .u64 r.x1) ∧ w'.cell? ⟨A, 2, none⟩ = some (.int .u64 r.x2) ∧ w'.cell? ⟨A, 3, none⟩ = some (.int .u64 r.x3)) (first | with_reducible exact K0.out | with_reducible exact KA.out)
  (first | (go_at_call 59; refine (C2.out _ (SH.out.drew.tb HT.out)).mono ?_; rintro e wA ⟨l, rfl, hl, hbA⟩; have KA := Hn (KSt.out _ (SH.out.drew.keep hbA)); have ql := HQ.out l hl))
 obtain ⟨sA, g0, g1, g2, g3⟩ := KA.out
 have q0 := (sA.live (w.heap.size + 1, zero4) (by simp)).c0
 have q1 := (sA.live (w.heap.size + 1, zero4) (by simp)).c1
 have q2 := (sA.live (w.heap.size + 1, zero4) (by simp)).c2
 have q3 := (sA.live (w.heap.size + 1, zero4) (by simp)).c3
 obtain ⟨f0, f1, f2, f3⟩ := (sA.wrt (w.heap.size + 1) (by simp)).1
 have SA := Hn sA
 clear sA ql K0
 cases B
 ·go_wp2_with fail
  refine bodyPost_ret (v := .tuple #[.agg #[.int .u64 0, .int .u64 0, .int .u64 0, .int .u64 0], .int .i64 3]) (by simp [results, Tryz.results97, go_sem, q0, q1, q2, q3]) rfl ⟨rfl, ?_⟩
  exact bl_set4 _ _ _ _ SA.out.bel (by omega)
 ·go_wp2_with fail
  refine bodyPost_ret (v := .tuple #[.agg #[.int .u64 r.x0, .int .u64 r.x1, .int .u64 r.x2, .int .u64 r.x3], .int .i64 0]) (by simp [results, Tryz.results97, go_sem, q0, q1, q2, q3]) rfl ⟨rfl, ?_⟩
  exact bl_set4 _ _ _ _ SA.out.bel (by omega)
end Go.Proofs.YthngomhhafoamaaGreatDoor
