import Derived.Test.YtgijodenblpbgaaDoorNum
import Derived.Deep.DeepCutAuto
namespace Go.Proofs.YtgijodenblpbgaaDoor
open Go.RowKit

/-- the number of bytes, the lowest first -/
def num : List Int → Nat
  | [] => 0
  | z :: zs => z.toNat + 256 * num zs

theorem num_bit : ∀ (zs : List Int) (m : Nat), (∀ z ∈ zs, 0 ≤ z ∧ z ≤ 255) → num zs / 2 ^ m % 2 = (zs.getD (m / 8) 0).toNat / 2 ^ (m % 8) % 2
  | [], m, _ => by simp [num]
  | z :: zs, m, h => by
    have hz := h z (by simp)
    by_cases hm : m < 8
    · have e1 : m / 8 = 0 := by omega
      have e2 : m % 8 = m := by omega
      rw [e1, e2]
      simp only [num, List.getD_cons_zero]
      have hc : m = 0 ∨ m = 1 ∨ m = 2 ∨ m = 3 ∨ m = 4 ∨ m = 5 ∨ m = 6 ∨ m = 7 := by omega
      rcases hc with rfl | rfl | rfl | rfl | rfl | rfl | rfl | rfl <;> simp <;> omega
    · obtain ⟨k, rfl⟩ : ∃ k, m = k + 8 := ⟨m - 8, by omega⟩
      have ih := num_bit zs k (fun y hy => h y (by simp [hy]))
      have e1 : (k + 8) / 8 = k / 8 + 1 := by omega
      have e2 : (k + 8) % 8 = k % 8 := by omega
      rw [e1, e2, List.getD_cons_succ, ← ih, num, Nat.pow_add, Nat.mul_comm (2 ^ k), ← Nat.div_div_eq_div_mul]
      have e3 : (z.toNat + 256 * num zs) / 2 ^ 8 = num zs := by simp; omega
      rw [e3]

theorem num_lt : ∀ (zs : List Int), (∀ z ∈ zs, 0 ≤ z ∧ z ≤ 255) → num zs < 256 ^ zs.length
  | [], _ => by simp [num]
  | z :: zs, h => by
    have hz := h z (by simp)
    have ih := num_lt zs (fun y hy => h y (by simp [hy]))
    rw [num, List.length_cons, Nat.pow_succ]
    omega

theorem and1_u8 (y : Int) (h0 : 0 ≤ y) (h1 : y ≤ 255) : (bits .and .u8 y 1 == 1) = decide (y % 2 = 1) := by
  have e : bits .and .u8 y 1 = y % 2 := by
    rw [u8_and y 1 h0 (by omega) (by omega) (by omega)]
    have : y.toNat &&& (1 : Int).toNat = y.toNat % 2 := Nat.and_two_pow_sub_one_eq_mod y.toNat 1
    rw [this]; omega
  rw [e, Bool.eq_iff_iff]
  simp

/-- a block of bytes -/
def Byt (w : World) (b : Nat) (zs : List Int) : Prop := zs.length = 32 ∧ ∀ j, j < 32 → w.cell? ⟨b, j, none⟩ = some (.int .u8 (zs.getD j 0))
theorem Byt.keep {w1 w2 : World} {b : Nat} {zs : List Int} (h : Byt w1 b zs) (hb : Below w1.heap.size w1 w2) : Byt w2 b zs := ⟨h.1, fun j hj => cell_keep (h.2 j hj) hb⟩
theorem Byt.far {w : World} {b c : Nat} {zs : List Int} {s : E5} (h : Byt w b zs) (hne : c ≠ b) : Byt (set5 w c s) b zs := ⟨h.1, fun j hj => (set5_cell_far w c s _ hne).trans (h.2 j hj)⟩
theorem Byt.new (w : World) (zs : List Int) (t : TypeId) (hl : zs.length = 32) : Byt (w.alloc (.cells (zs.map fun z => Value.int .u8 z).toArray t)) w.heap.size zs := by
  refine ⟨hl, fun j hj => ?_⟩
  go_simp
theorem Byt.lt {w : World} {b : Nat} {zs : List Int} (h : Byt w b zs) : b < w.heap.size := World.block_lt_of_cell? w ⟨b, 0, none⟩ (h.2 0 (by omega))

theorem St.roomR {w0 : World} {L : List (Nat × E5)} {R : List Nat} {w1 : World} (h : St w0 L R w1) (r : E5) (t : TypeId) :
    St w0 ((w1.heap.size, r) :: L) (w1.heap.size :: R) (w1.alloc (.cells #[.int .u64 r.x0, .int .u64 r.x1, .int .u64 r.x2, .int .u64 r.x3, .int .u64 r.x4] t)) := by
  have k := h.new r t
  refine ⟨k.live, fun b hb => ?_, k.bel⟩
  rcases List.mem_cons.1 hb with rfl | hb
  · exact ⟨Wrt.new w1 r t, by simp⟩
  · exact k.wrt b hb

def bv (zs : List Int) : Value := .agg (zs.map fun z => Value.int .u8 z).toArray

set_option maxRecDepth 100000 in
set_option maxHeartbeats 1000000 in
theorem Power_any (a : E5) (zs : List Int) (w : World) (ha : a.ok) (hl : zs.length = 32) (hz : ∀ z ∈ zs, 0 ≤ z ∧ z ≤ 255) :
    Calls Tryd.prog 32 #[a.v, bv zs] w fun e w' => ∃ r : E5, e = .returned r.v ∧ r.is (a.n ^ num zs) ∧ Below w.heap.size w w' := by
  have SQ := hidden (fun (r : E5) (h : r.ok) w => Square_any r w h)
  have MU := hidden (fun (r s : E5) (h : r.ok) (k : s.ok) w => Mul_any r s w h k)
  have IN := hidden (fun w => Int_any 1 w ⟨by decide, by decide⟩)
  have HA := hidden ha
  have HZ := hidden hz
  have HL := hidden hl
  clear ha hz hl
  simp only [E5.v] at SQ MU IN ⊢
  unfold bv
  go_enter Tryd.func32, Tryd.ntmps32
  go_wp2_with fail
  refine (IN.out _).mono ?_
  rintro e w1 ⟨r1, rfl, hr1, hb1⟩
  have s0 := ((St.start w a 24).keep (bl_alloc _ (.cells (zs.map fun z => Value.int .u8 z).toArray 26))).room 24
  simp only [World.size_alloc] at s0
  have y0 : Byt ((w.alloc (.cells #[.int .u64 a.x0, .int .u64 a.x1, .int .u64 a.x2, .int .u64 a.x3, .int .u64 a.x4] 24)).alloc (.cells (zs.map fun z => Value.int .u8 z).toArray 26)) (w.heap.size + 1) zs := by
    have := Byt.new (w.alloc (.cells #[.int .u64 a.x0, .int .u64 a.x1, .int .u64 a.x2, .int .u64 a.x3, .int .u64 a.x4] 24)) zs 26 HL.out
    simpa using this
  have s1 := (s0.keep hb1).roomR r1 24
  have y1 := ((y0.keep (bl_alloc _ _)).keep hb1).keep (bl_alloc w1 (.cells #[.int .u64 r1.x0, .int .u64 r1.x1, .int .u64 r1.x2, .int .u64 r1.x3, .int .u64 r1.x4] 24))
  have hz1 : w.heap.size + 1 + 1 < w1.heap.size := ((s0.keep hb1).wrt (w.heap.size + 1 + 1) (by simp)).2
  have SH := hidden s1
  have YH := hidden y1
  have HR1 := hidden hr1
  clear s0 y0 s1 y1 hr1 hb1 IN
  go_wp2_with fail
  go_loopw [6] (fun i w' => ∃ (k : Nat) (r : E5), k ≤ 256 ∧ i = .int .i64 ((k : Int) - 1) ∧ r.is (a.n ^ (num zs / 2 ^ k)) ∧ St w [(w1.heap.size, r), (w.heap.size + 1 + 1, zero5), (w.heap.size, a)] [w1.heap.size, w.heap.size + 1 + 1] w' ∧ Byt w' (w.heap.size + 1) zs) (fun i _ => (intOf i + 1).toNat)
  case atStart =>
    refine ⟨256, r1, Nat.le_refl _, rfl, ?_, SH.out, YH.out⟩
    have h := num_lt zs HZ.out
    rw [HL.out] at h
    have e0 : num zs / 2 ^ 256 = 0 := Nat.div_eq_of_lt (Nat.lt_of_lt_of_le h (by decide))
    rw [e0, Int.pow_zero]
    exact HR1.out
  case round =>
    obtain ⟨k, r, hk, rfl, hp, hst, hby⟩ := hrel
    clear SH YH HR1
    have PR := hidden hp
    clear hp
    have hok : r.ok := PR.out.ok
    have HOK := hidden hok
    clear hok
    have v0 := (hst.live (w1.heap.size, r) (by simp)).c0
    have v1 := (hst.live (w1.heap.size, r) (by simp)).c1
    have v2 := (hst.live (w1.heap.size, r) (by simp)).c2
    have v3 := (hst.live (w1.heap.size, r) (by simp)).c3
    have v4 := (hst.live (w1.heap.size, r) (by simp)).c4
    have ST := hidden hst
    have BY := hidden hby
    clear hst hby
    by_cases hk0 : k = 0
    · subst hk0
      have d0 := (ST.out.live (w.heap.size + 1 + 1, zero5) (by simp)).c0
      have d1 := (ST.out.live (w.heap.size + 1 + 1, zero5) (by simp)).c1
      have d2 := (ST.out.live (w.heap.size + 1 + 1, zero5) (by simp)).c2
      have d3 := (ST.out.live (w.heap.size + 1 + 1, zero5) (by simp)).c3
      have d4 := (ST.out.live (w.heap.size + 1 + 1, zero5) (by simp)).c4
      obtain ⟨g0, g1, g2, g3, g4⟩ := (ST.out.wrt (w.heap.size + 1 + 1) (by simp)).1
      go_wp2_with fail
      refine bodyPost_ret (v := .agg #[.int .u64 r.x0, .int .u64 r.x1, .int .u64 r.x2, .int .u64 r.x3, .int .u64 r.x4]) (by simp [results, Tryd.results32, go_sem, d0, d1, d2, d3, d4]) rfl ⟨r, rfl, ?_, ?_⟩
      · have h := PR.out
        rw [Nat.pow_zero, Nat.div_one] at h
        exact h
      · exact set5_below _ _ _ ST.out.bel (by omega)
    · obtain ⟨m, rfl⟩ : ∃ m, k = m + 1 := ⟨k - 1, by omega⟩
      have em : ((m + 1 : Nat) : Int) - 1 = (m : Int) := by omega
      rw [em]
      clear em hk0
      have hm : m ≤ 255 := by omega
      have hm2 : (m : Int) ≤ 255 := by omega
      go_upto_region 5 with fail
      go_cut [] (fun wx => ∃ r2 : E5, r2.is (r.n * r.n) ∧ St w [(w1.heap.size, r2), (w.heap.size + 1 + 1, zero5), (w.heap.size, a)] [w1.heap.size, w.heap.size + 1 + 1] wx ∧ Byt wx (w.heap.size + 1) zs)
      case first =>
        go_wp2_with fail
        refine (SQ.out r HOK.out _).mono ?_
        rintro e w2 ⟨r2, rfl, hr2, hb2⟩
        have s2 := ST.out.keep hb2
        have y2 := BY.out.keep hb2
        clear v0 v1 v2 v3 v4
        have v0 := (s2.live (w1.heap.size, r) (by simp)).c0
        have v1 := (s2.live (w1.heap.size, r) (by simp)).c1
        have v2 := (s2.live (w1.heap.size, r) (by simp)).c2
        have v3 := (s2.live (w1.heap.size, r) (by simp)).c3
        have v4 := (s2.live (w1.heap.size, r) (by simp)).c4
        obtain ⟨g0, g1, g2, g3, g4⟩ := (s2.wrt w1.heap.size (by simp)).1
        have S3 := hidden (s2.set (b := w1.heap.size) (M := [(w.heap.size + 1 + 1, zero5), (w.heap.size, a)]) r2 (old := r) (by simp) (by omega) (by simp; omega))
        have Y3 := hidden (y2.far (c := w1.heap.size) (s := r2) (by omega))
        clear s2 y2
        go_wp2_with fail
        go_meet
        exact ⟨r2, hr2, S3.out, Y3.out⟩
      case rest =>
      obtain ⟨r2, hr2, s2, y2⟩ := hcut
      clear v0 v1 v2 v3 v4
      have hbit := num_bit zs m HZ.out
      have HR2 := hidden hr2
      clear hr2
      have hx := y2.2 (m / 8) (by omega)
      have hxb : 0 ≤ zs.getD (m / 8) 0 ∧ zs.getD (m / 8) 0 ≤ 255 := by
        have hl := HL.out
        rw [List.getD_eq_getElem?_getD, List.getElem?_eq_getElem (by omega)]
        exact HZ.out _ (List.getElem_mem _)
      generalize zs.getD (m / 8) 0 = x at *
      have HBIT := hidden hbit
      clear hbit
      have S2 := hidden s2
      have Y2 := hidden y2
      clear s2 y2
      go_upto_region 6 with fail
      go_cut [22] (fun vx wx => vx = .bool (decide (x / 2 ^ (m % 8) % 2 = 1)) ∧ wx = wc)
      case first =>
        go_wp2_with fail
        go_meet
        exact ⟨by rw [and1_u8 _ (Int.ediv_nonneg hxb.1 (Int.le_of_lt (Int.pow_pos (by decide)))) (Int.le_trans (Int.ediv_le_self _ hxb.1) hxb.2)], rfl⟩
      case rest =>
      obtain ⟨rfl, rfl⟩ := hcut
      have hstep : ∀ b : Nat, num zs / 2 ^ m % 2 = b → num zs / 2 ^ m = num zs / 2 ^ (m + 1) * 2 + b := by
        intro b hb
        have e1 : num zs / 2 ^ (m + 1) = num zs / 2 ^ m / 2 := by rw [Nat.pow_succ, Nat.div_div_eq_div_mul]
        rw [e1]; omega
      obtain ⟨X, rfl⟩ := Int.eq_ofNat_of_zero_le hxb.1
      have eX : ((X : Int) / 2 ^ (m % 8) % 2 = 1) ↔ X / 2 ^ (m % 8) % 2 = 1 := by
        have : (X : Int) / 2 ^ (m % 8) % 2 = ((X / 2 ^ (m % 8) % 2 : Nat) : Int) := by simp
        rw [this]; omega
      have hB := HBIT.out
      rw [Int.toNat_natCast] at hB
      have hQ : r2.is (a.n ^ (num zs / 2 ^ (m + 1) * 2)) := E5.pw.mul (a := a) PR.out PR.out HR2.out (by omega)
      by_cases hbit : (X : Int) / 2 ^ (m % 8) % 2 = 1
      · have hd : decide ((X : Int) / 2 ^ (m % 8) % 2 = 1) = true := decide_eq_true hbit
        rw [hd]
        have hone := hidden (hstep 1 (by rw [hB]; exact eX.1 hbit))
        have HQ := hidden hQ
        clear hQ hB eX hstep hd hbit HBIT hx
        have v0 := (S2.out.live (w1.heap.size, r2) (by simp)).c0
        have v1 := (S2.out.live (w1.heap.size, r2) (by simp)).c1
        have v2 := (S2.out.live (w1.heap.size, r2) (by simp)).c2
        have v3 := (S2.out.live (w1.heap.size, r2) (by simp)).c3
        have v4 := (S2.out.live (w1.heap.size, r2) (by simp)).c4
        have u0 := (S2.out.live (w.heap.size, a) (by simp)).c0
        have u1 := (S2.out.live (w.heap.size, a) (by simp)).c1
        have u2 := (S2.out.live (w.heap.size, a) (by simp)).c2
        have u3 := (S2.out.live (w.heap.size, a) (by simp)).c3
        have u4 := (S2.out.live (w.heap.size, a) (by simp)).c4
        go_wp2_with fail
        refine (MU.out r2 a HR2.out.ok HA.out _).mono ?_
        rintro e w3 ⟨r3, rfl, hr3, hb3⟩
        have s3 := S2.out.keep hb3
        have y3 := Y2.out.keep hb3
        clear v0 v1 v2 v3 v4 u0 u1 u2 u3 u4
        have v0 := (s3.live (w1.heap.size, r2) (by simp)).c0
        have v1 := (s3.live (w1.heap.size, r2) (by simp)).c1
        have v2 := (s3.live (w1.heap.size, r2) (by simp)).c2
        have v3 := (s3.live (w1.heap.size, r2) (by simp)).c3
        have v4 := (s3.live (w1.heap.size, r2) (by simp)).c4
        obtain ⟨g0, g1, g2, g3, g4⟩ := (s3.wrt w1.heap.size (by simp)).1
        have S3 := hidden (s3.set (b := w1.heap.size) (M := [(w.heap.size + 1 + 1, zero5), (w.heap.size, a)]) r3 (old := r2) (by simp) (by omega) (by simp; omega))
        have Y3 := hidden (y3.far (c := w1.heap.size) (s := r3) (by omega))
        have HR3 := hidden hr3
        clear s3 y3 hr3
        go_wp2_with fail
        go_roundw
        case rel =>
          refine ⟨m, r3, by omega, rfl, ?_, S3.out, Y3.out⟩
          rw [hone.out]
          exact E5.pw.mulR (a := a) HQ.out HR3.out rfl
        case measure => simp [intOf]
      · have hd : decide ((X : Int) / 2 ^ (m % 8) % 2 = 1) = false := decide_eq_false hbit
        rw [hd]
        have hone := hidden (hstep 0 (by rw [hB]; have := mt eX.2 hbit; omega))
        have HQ := hidden hQ
        clear hQ hB eX hstep hd hbit HBIT hx
        go_wp2_with fail
        go_roundw
        case rel =>
          refine ⟨m, r2, by omega, rfl, ?_, S2.out, Y2.out⟩
          rw [hone.out]
          exact HQ.out
        case measure => simp [intOf]
end Go.Proofs.YtgijodenblpbgaaDoor
