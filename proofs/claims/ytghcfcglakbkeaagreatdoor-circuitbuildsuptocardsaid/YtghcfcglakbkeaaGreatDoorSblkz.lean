import Derived.Test.YtghcfcglakbkeaaGreatDoorSlez
namespace Go.Proofs.YtghcfcglakbkeaaGreatDoor
open Go.RowKit
structure Blc (w : World) (b : Nat) (r : E4) : Prop where
 c0 : w.cell? ⟨b, 0, none⟩ = some (.int .u64 r.x0)
 c1 : w.cell? ⟨b, 1, none⟩ = some (.int .u64 r.x1)
 c2 : w.cell? ⟨b, 2, none⟩ = some (.int .u64 r.x2)
 c3 : w.cell? ⟨b, 3, none⟩ = some (.int .u64 r.x3)
structure Wrt (w : World) (b : Nat) : Prop where
 f0 : w.frozen? ⟨b, 0, none⟩ = false
 f1 : w.frozen? ⟨b, 1, none⟩ = false
 f2 : w.frozen? ⟨b, 2, none⟩ = false
 f3 : w.frozen? ⟨b, 3, none⟩ = false
theorem Blc.lt {w : World} {b : Nat} {r : E4} (h : Blc w b r) : b < w.heap.size := World.block_lt_of_cell? w ⟨b, 0, none⟩ h.c0
theorem Blc.keep {w1 w2 : World} {b : Nat} {r : E4} (h : Blc w1 b r) (hb : Below w1.heap.size w1 w2) : Blc w2 b r :=
 ⟨cell_keep h.c0 hb, cell_keep h.c1 hb, cell_keep h.c2 hb, cell_keep h.c3 hb⟩
theorem Blc.drew {w : World} {b : Nat} {r : E4} (h : Blc w b r) : Blc w.drew b r := h.keep ((Below.refl _ _).drew)
theorem Wrt.keep {w1 w2 : World} {b : Nat} (h : Wrt w1 b) (hl : b < w1.heap.size) (hb : Below w1.heap.size w1 w2) : Wrt w2 b :=
 ⟨((bcell hb).2 _ _ hl).trans h.f0, ((bcell hb).2 _ _ hl).trans h.f1, ((bcell hb).2 _ _ hl).trans h.f2, ((bcell hb).2 _ _ hl).trans h.f3⟩
def set4 (w : World) (b : Nat) (r : E4) : World :=
 (((w.setCell ⟨b, 0, none⟩ (.int .u64 r.x0)).setCell ⟨b, 1, none⟩ (.int .u64 r.x1)).setCell ⟨b, 2, none⟩ (.int .u64 r.x2)).setCell ⟨b, 3, none⟩ (.int .u64 r.x3)
theorem set4_eq (w : World) (b : Nat) (r : E4) : (((w.setCell ⟨b, 0, none⟩ (.int .u64 r.x0)).setCell ⟨b, 1, none⟩ (.int .u64 r.x1)).setCell ⟨b, 2, none⟩ (.int .u64 r.x2)).setCell ⟨b, 3, none⟩ (.int .u64 r.x3) = set4 w b r := rfl
theorem set4_cell_far (w : World) (b : Nat) (r : E4) (a : Addr) (h : b ≠ a.block) : (set4 w b r).cell? a = w.cell? a := by
 unfold set4
 rw [World.cell?_setCell_far _ _ _ _ h, World.cell?_setCell_far _ _ _ _ h, World.cell?_setCell_far _ _ _ _ h, World.cell?_setCell_far _ _ _ _ h]
theorem Blc.far {w : World} {b c : Nat} {r s : E4} (h : Blc w b r) (hne : c ≠ b) : Blc (set4 w c s) b r :=
 ⟨(set4_cell_far w c s _ hne).trans h.c0, (set4_cell_far w c s _ hne).trans h.c1, (set4_cell_far w c s _ hne).trans h.c2, (set4_cell_far w c s _ hne).trans h.c3⟩
theorem Blc.set {w : World} {b : Nat} {r : E4} (h : Blc w b r) (s : E4) : Blc (set4 w b s) b s := by
 obtain ⟨h0, h1, h2, h3⟩ := h
 constructor <;> (unfold set4; go_simp)
theorem set4_below (w : World) (b : Nat) (r : E4) {w0 : World} (h : Below w0.heap.size w0 w) (hb : w0.heap.size ≤ b) : Below w0.heap.size w0 (set4 w b r) := bl_set4 _ _ _ _ h hb
theorem Wrt.set {w : World} {b c : Nat} {s : E4} (h : Wrt w b) : Wrt (set4 w c s) b := by
 obtain ⟨h0, h1, h2, h3⟩ := h
 constructor <;> (unfold set4; go_simp)
theorem set4_size (w : World) (b : Nat) (r : E4) : (set4 w b r).heap.size = w.heap.size := by unfold set4; simp
theorem Blc.new (w : World) (r : E4) (t : TypeId) : Blc (w.alloc (.cells #[.int .u64 r.x0, .int .u64 r.x1, .int .u64 r.x2, .int .u64 r.x3] t)) w.heap.size r := by
 constructor <;> go_simp
theorem Wrt.new (w : World) (r : E4) (t : TypeId) : Wrt (w.alloc (.cells #[.int .u64 r.x0, .int .u64 r.x1, .int .u64 r.x2, .int .u64 r.x3] t)) w.heap.size := by
 constructor <;> go_simp
def zero4 : E4 := ⟨0, 0, 0, 0⟩
structure St (w0 : World) (L : List (Nat × E4)) (R : List Nat) (w : World) : Prop where
 live : ∀ p ∈ L, Blc w p.1 p.2
 wrt : ∀ b ∈ R, Wrt w b ∧ b < w.heap.size
 bel : Below w0.heap.size w0 w
theorem St.keep {w0 : World} {L : List (Nat × E4)} {R : List Nat} {w1 w2 : World} (h : St w0 L R w1) (hb : Below w1.heap.size w1 w2) : St w0 L R w2 :=
 ⟨fun p hp => (h.live p hp).keep hb, fun b hb' => ⟨(h.wrt b hb').1.keep (h.wrt b hb').2 hb, Nat.lt_of_lt_of_le (h.wrt b hb').2 hb.size⟩, bl_trans h.bel hb⟩
theorem St.drew {w0 : World} {L : List (Nat × E4)} {R : List Nat} {w1 : World} (h : St w0 L R w1) : St w0 L R w1.drew := h.keep ((Below.refl _ _).drew)
theorem St.new {w0 : World} {L : List (Nat × E4)} {R : List Nat} {w1 : World} (h : St w0 L R w1) (r : E4) (t : TypeId) :
  St w0 ((w1.heap.size, r) :: L) R (w1.alloc (.cells #[.int .u64 r.x0, .int .u64 r.x1, .int .u64 r.x2, .int .u64 r.x3] t)) := by
 have k := h.keep (bl_alloc w1 (.cells #[.int .u64 r.x0, .int .u64 r.x1, .int .u64 r.x2, .int .u64 r.x3] t))
 refine ⟨fun p hp => ?_, k.wrt, k.bel⟩
 rcases List.mem_cons.1 hp with rfl | hp
 ·exact Blc.new w1 r t
 ·exact k.live p hp
theorem St.sub {w0 : World} {L M : List (Nat × E4)} {R : List Nat} {w1 : World} (h : St w0 L R w1) (hs : ∀ p ∈ M, p ∈ L) : St w0 M R w1 := ⟨fun p hp => h.live p (hs p hp), h.wrt, h.bel⟩
theorem St.set {w0 : World} {L M : List (Nat × E4)} {R : List Nat} {w1 : World} {b : Nat} {old : E4} (h : St w0 L R w1) (s : E4) (hb : (b, old) ∈ L) (h0 : w0.heap.size ≤ b) (hs : ∀ p ∈ M, p ∈ L ∧ b ≠ p.1) :
  St w0 ((b, s) :: M) R (set4 w1 b s) := by
 refine ⟨fun p hp => ?_, fun c hc => ⟨(h.wrt c hc).1.set, by rw [set4_size]; exact (h.wrt c hc).2⟩, set4_below _ _ _ h.bel h0⟩
 rcases List.mem_cons.1 hp with rfl | hp
 ·exact (h.live _ hb).set s
 ·exact (h.live p (hs p hp).1).far (hs p hp).2
theorem St.aside {w0 : World} {L : List (Nat × E4)} {R : List Nat} {w1 : World} {b : Nat} (h : St w0 L R w1) (hn : ∀ p ∈ L, b ≠ p.1) (h0 : w0.heap.size ≤ b) (s : E4) : St w0 L R (set4 w1 b s) :=
 ⟨fun p hp => (h.live p hp).far (hn p hp), fun c hc => ⟨(h.wrt c hc).1.set, by rw [set4_size]; exact (h.wrt c hc).2⟩, set4_below _ _ _ h.bel h0⟩
theorem St.start (w : World) (a : E4) (t : TypeId) : St w [(w.heap.size, a)] [] (w.alloc (.cells #[.int .u64 a.x0, .int .u64 a.x1, .int .u64 a.x2, .int .u64 a.x3] t)) := by
 have h0 : St w [] [] w := ⟨fun p hp => absurd hp (by simp), fun b hb => absurd hb (by simp), Below.refl _ _⟩
 exact h0.new a t
theorem St.room {w0 : World} {L : List (Nat × E4)} {R : List Nat} {w1 : World} (h : St w0 L R w1) (t : TypeId) :
  St w0 ((w1.heap.size, zero4) :: L) (w1.heap.size :: R) (w1.alloc (.cells #[.int .u64 0, .int .u64 0, .int .u64 0, .int .u64 0] t)) := by
 have k := h.new zero4 t
 refine ⟨k.live, fun b hb => ?_, k.bel⟩
 rcases List.mem_cons.1 hb with rfl | hb
 ·exact ⟨Wrt.new w1 zero4 t, by simp⟩
 ·exact k.wrt b hb
theorem St.roomR {w0 : World} {L : List (Nat × E4)} {R : List Nat} {w1 : World} (h : St w0 L R w1) (r : E4) (t : TypeId) :
  St w0 ((w1.heap.size, r) :: L) (w1.heap.size :: R) (w1.alloc (.cells #[.int .u64 r.x0, .int .u64 r.x1, .int .u64 r.x2, .int .u64 r.x3] t)) := by
 have k := h.new r t
 refine ⟨k.live, fun b hb => ?_, k.bel⟩
 rcases List.mem_cons.1 hb with rfl | hb
 ·exact ⟨Wrt.new w1 r t, by simp⟩
 ·exact k.wrt b hb
theorem St.nil (w : World) : St w [] [] w := ⟨fun p hp => absurd hp (by simp), fun b hb => absurd hb (by simp), Below.refl _ _⟩
theorem St.tb {w0 : World} {L : List (Nat × E4)} {R : List Nat} {w1 : World} (h : St w0 L R w1) (hT : Tb w0) : Tb w1 := hT.keep h.bel
theorem is_of {r : E4} {n m : Int} (h : r.is n) (e : n % Sm.L = m % Sm.L) : r.is m := by unfold E4.is lst at *; rw [h, e]
theorem emod_emod_L (n : Int) : n % Sm.L % Sm.L = n % Sm.L := Int.emod_emod_of_dvd _ (Int.dvd_refl _)
theorem E4.is.m {r : E4} {n : Int} (h : r.is n) : r.n % Sm.L = n % Sm.L := by rw [h.n, emod_emod_L]
end Go.Proofs.YtghcfcglakbkeaaGreatDoor
namespace Go.Proofs.YtghcfcglakbkeaaGreatDoor
open Go.RowKit
def Ri : Int := 4458503529701987551646482192314240623644693141688353256590997718326214331684
theorem mont_end (A b T M : Int) (h : 115792089237316195423570985008687907853269984665640564039457584007913129639936 * T = A * b + M * Sm.L) : T % Sm.L = A * b * Ri % Sm.L := by
 have e : T = A * b * Ri + Sm.L * (M * Ri - T * 71336056475231800826343715077027849978041630819377026201054086228062141447707) := by
  have k : 115792089237316195423570985008687907853269984665640564039457584007913129639936 * Ri = 1 + 71336056475231800826343715077027849978041630819377026201054086228062141447707 * Sm.L := rfl
  have h2 : 115792089237316195423570985008687907853269984665640564039457584007913129639936 * T * Ri = (A * b + M * Sm.L) * Ri := by rw [h]
  have h3 : 115792089237316195423570985008687907853269984665640564039457584007913129639936 * T * Ri = T * (115792089237316195423570985008687907853269984665640564039457584007913129639936 * Ri) := by rw [Int.mul_comm 115792089237316195423570985008687907853269984665640564039457584007913129639936 T, Int.mul_assoc]
  rw [h3, k] at h2
  generalize Ri = r at *
  generalize Sm.L = l at *
  grind
 have e2 := congrArg (fun z => z % Sm.L) e
 simp only [Int.add_mul_emod_self_left] at e2
 exact e2
def E4.get (a : E4) : Nat → Int
 | 0 => a.x0
 | 1 => a.x1
 | 2 => a.x2
 | _ => a.x3
def E4.low (a : E4) : Nat → Int
 | 0 => 0
 | k + 1 => a.low k + 18446744073709551616 ^ k * a.get k
theorem E4.get_wd {a : E4} (h : a.ok) (k : Nat) : Sm.Wd (a.get k) := by
 obtain ⟨h0, h1, h2, h3⟩ := h
 unfold E4.get; split <;> assumption
theorem E4.low4 (a : E4) : a.low 4 = a.n := by
 simp only [E4.low, E4.get, E4.n, Sm.V]; grind
theorem E4.low_bd {a : E4} (h : a.ok) (k : Nat) : 0 ≤ a.low k ∧ a.low k ≤ 18446744073709551616 ^ k - 1 := by
 induction k with
 | zero => simp [E4.low]
 | succ k ih =>
  have hg := E4.get_wd h k
  unfold Sm.Wd at hg
  have hp : (0 : Int) < 18446744073709551616 ^ k := Int.pow_pos (by decide)
  simp only [E4.low, Int.pow_succ]
  generalize (18446744073709551616 : Int) ^ k = p at *
  have h1 : 0 ≤ p * a.get k := Int.mul_nonneg (by omega) hg.1
  have h2 : p * a.get k ≤ p * (18446744073709551616 - 1) := Int.mul_le_mul_of_nonneg_left (by omega) (by omega)
  rw [Int.mul_sub] at h2
  constructor
  ·omega
  ·omega
theorem Blc.get {w : World} {b : Nat} {a : E4} (h : Blc w b a) (k : Nat) (hk : k < 4) : w.cell? ⟨b, k, none⟩ = some (.int .u64 (a.get k)) := by
 match k, hk with
 | 0, _ => exact h.c0
 | 1, _ => exact h.c1
 | 2, _ => exact h.c2
 | 3, _ => exact h.c3
def Inv (a : E4) (bn : Int) (k : Nat) (T : Int) : Prop := ∃ M : Int, 0 ≤ M ∧ M ≤ 18446744073709551616 ^ k - 1 ∧ 18446744073709551616 ^ k * T = a.low k * bn + M * Sm.L
theorem Inv.lt {a : E4} {bn T : Int} {k : Nat} (h : Inv a bn k T) (ha : a.ok) (hb0 : 0 ≤ bn) (hb : bn < Sm.L) : T < 2 * Sm.L := by
 obtain ⟨M, h0, h1, h2⟩ := h
 have hl := E4.low_bd ha k
 have hp : (0 : Int) < 18446744073709551616 ^ k := Int.pow_pos (by decide)
 generalize (18446744073709551616 : Int) ^ k = p at *
 have g1 : a.low k * bn ≤ (p - 1) * bn := Int.mul_le_mul_of_nonneg_right hl.2 hb0
 have g2 : M * Sm.L ≤ (p - 1) * Sm.L := Int.mul_le_mul_of_nonneg_right h1 (by decide)
 have g3 : p * T < p * (2 * Sm.L) := by
  have g4 : p * bn ≤ p * Sm.L := Int.mul_le_mul_of_nonneg_left (by omega) (by omega)
  rw [Int.sub_mul] at g1 g2
  have hLp : (0 : Int) < Sm.L := by decide
  have : p * (2 * Sm.L) = p * Sm.L + p * Sm.L := by grind
  omega
 exact Int.lt_of_mul_lt_mul_left g3 (by omega)
theorem Inv.next {a : E4} {bn T T' m : Int} {k : Nat} (h : Inv a bn k T) (hm : Sm.Wd m) (e : 18446744073709551616 * T' = T + a.get k * bn + m * Sm.L) : Inv a bn (k + 1) T' := by
 obtain ⟨M, h0, h1, h2⟩ := h
 unfold Sm.Wd at hm
 have hp : (0 : Int) < 18446744073709551616 ^ k := Int.pow_pos (by decide)
 refine ⟨M + 18446744073709551616 ^ k * m, ?_, ?_, ?_⟩
 ·have := Int.mul_nonneg (Int.le_of_lt hp) hm.1
  omega
 ·rw [Int.pow_succ]
  generalize (18446744073709551616 : Int) ^ k = p at *
  have h2 : p * m ≤ p * (18446744073709551616 - 1) := Int.mul_le_mul_of_nonneg_left (by omega) (by omega)
  rw [Int.mul_sub] at h2
  omega
 ·simp only [E4.low]
  rw [Int.pow_succ, Int.mul_assoc, e]
  generalize (18446744073709551616 : Int) ^ k = p at *
  generalize a.get k = g at *
  generalize Sm.L = l at *
  grind
theorem Inv.start (a : E4) (bn : Int) : Inv a bn 0 0 := ⟨0, by omega, by simp, by simp [E4.low]⟩
theorem Inv.done {a : E4} {bn T : Int} (h : Inv a bn 4 T) : T % Sm.L = a.n * bn * Ri % Sm.L := by
 obtain ⟨M, -, -, h2⟩ := h
 rw [E4.low4] at h2
 exact mont_end _ _ _ M h2
def lE : E4 := ⟨6346243789798364141, 1503914060200516822, 0, 1152921504606846976⟩
end Go.Proofs.YtghcfcglakbkeaaGreatDoor
namespace Go.Proofs.YtghcfcglakbkeaaGreatDoor
set_option maxRecDepth 100000
set_option maxHeartbeats 4000000
open Go.RowKit
theorem lst_congr {n m : Int} (h : n % Sm.L = m % Sm.L) : lst n = lst m := by unfold lst; rw [h]
theorem int_is (n : Int) (h : Sm.Wd n) : lst n = ⟨n, 0, 0, 0⟩ := by
 unfold Sm.Wd at h
 have e : n % Sm.L = n := Int.emod_eq_of_lt h.1 (by unfold Sm.L; omega)
 unfold lst
 rw [e]
 simp only [Sm.lim]
 congr 1 <;> omega
theorem Int_any (n : Int) (w : World) (h : Sm.Wd n) :
  Calls Tryz.prog 14 #[.int .u64 n] w fun e w' => ∃ r : E4, e = .returned r.v ∧ r.is n ∧ Below w.heap.size w w' := by
 refine Calls.mono (R := fun e w' => e = .returned (lst n).v ∧ Below w.heap.size w w') ?_ (fun e w' h => ⟨lst n, h.1, rfl, h.2⟩)
 rw [int_is n h]
 clear h
 simp only [E4.v]
 go_enter Tryz.func14, Tryz.ntmps14
 go_wp2
 refine bodyPost_ret (v := .agg #[.int .u64 n, .int .u64 0, .int .u64 0, .int .u64 0]) (by simp [results, Tryz.results14, go_sem]) rfl ⟨rfl, ?_⟩
 exact bl_alloc w _
def R : Int := 115792089237316195423570985008687907853269984665640564039457584007913129639936
theorem Neg_any (a : E4) (w : World) (hT : Tb w) (ha : a.ok) :
  Calls Tryz.prog 87 #[a.v] w fun e w' => ∃ r : E4, e = .returned r.v ∧ r.is (-a.n) ∧ Below w.heap.size w w' := by
 have hzk : zero4.ok := ⟨by unfold Sm.Wd zero4; simp, by unfold Sm.Wd zero4; simp, by unfold Sm.Wd zero4; simp, by unfold Sm.Wd zero4; simp⟩
 have c1 := fun w T => Sub_any zero4 a w T hzk ha
 have e0 : zero4.n - a.n = -a.n := by
  have : zero4.n = 0 := rfl
  rw [this, Int.zero_sub]
 simp only [e0] at c1
 generalize -a.n = N at *
 simp only [E4.v, zero4] at c1 ⊢
 have C1 := Hn c1
 have HT := Hn hT
 clear c1 ha e0 hzk hT
 go_enter Tryz.func87, Tryz.ntmps87
 go_wp2_with fail
 refine (C1.out _ (HT.out.keep (bl_alloc2 _ _ _))).mono ?_
 rintro e w1 ⟨r, rfl, hr, hb1⟩
 clear C1
 obtain ⟨hc1, hf1⟩ := bcell hb1
 have hz1 : w.heap.size + 1 < w1.heap.size := by have := hb1.size; simp at this; omega
 go_wp2_with fail
 refine bodyPost_ret (v := .agg #[.int .u64 r.x0, .int .u64 r.x1, .int .u64 r.x2, .int .u64 r.x3]) (by simp [results, Tryz.results87, go_sem, hc1]) rfl ⟨r, rfl, hr, ?_⟩
 exact bl_set4 _ _ _ _ (bl_trans (bl_alloc2 w _ _) hb1) (by omega)
def E4.same (a b : E4) : Bool := a.x0 == b.x0 && (a.x1 == b.x1 && (a.x2 == b.x2 && (a.x3 == b.x3)))
theorem E4.same_iff (a b : E4) : a.same b = true ↔ a = b := by
 obtain ⟨a0, a1, a2, a3⟩ := a
 obtain ⟨b0, b1, b2, b3⟩ := b
 simp [E4.same]
theorem E4.same_self (a : E4) : a.same a = true := (E4.same_iff a a).2 rfl
theorem eqItems_ints {P : Program} (w : World) {e : TypeId} {k : IntKind} (d : Nat) (hp : P.plainKey e = true) (hu : P.underlying e = some (.int k)) (xs ys : Array Value) (f g : Nat → Int) :
  ∀ is : List Nat, (∀ i ∈ is, xs[i]? = some (.int k (f i)) ∧ ys[i]? = some (.int k (g i))) → (Op.eqItems (d + 1) e 1 xs ys is).run P w = .ok (is.all fun i => f i == g i) w
 | [], _ => by simp [Op.eqItems]
 | i :: is, h => by
  have hi := h i (by simp)
  have ih := eqItems_ints w d hp hu xs ys f g is (fun j hj => h j (by simp [hj]))
  simp only [Op.eqItems, Sem.run_bind, Nat.mul_one, run_part_plain w hp hi.1, run_part_plain w hp hi.2, Result.andThen_ok, run_equalIn_int w d e k k _ _ hu, List.all_cons]
  by_cases hx : f i = g i
  ·simp [hx, ih]
  ·simp [hx]
theorem eq4 (a b : E4) (w : World) : (Op.equalIn 10000 41 a.v b.v).run Tryz.prog w = .ok (a.same b) w := by
 have hi : Tryz.prog.info? 39 = some (Tryz.prog.info? 39).get! := by kernel_rfl
 have hc : Tryz.prog.cellsOf 39 = 1 := by kernel_rfl
 unfold E4.v
 rw [run_equalIn_array w 9999 _ _ (by kernel_rfl : Tryz.prog.underlying 41 = some (.array 4 39)) hi, hc]
 rw [eqItems_ints w (k := .u64) 9998 (by kernel_rfl) (by kernel_rfl) _ _ (fun i => [a.x0, a.x1, a.x2, a.x3].getD i 0) (fun i => [b.x0, b.x1, b.x2, b.x3].getD i 0)]
 ·rw [show List.range 4 = [0, 1, 2, 3] from rfl]
  simp only [List.all_cons, List.all_nil, Bool.and_true]
  rfl
 ·intro i hi
  have : i < 4 := List.mem_range.1 hi
  match i, this with
  | 0, _ => exact ⟨rfl, rfl⟩
  | 1, _ => exact ⟨rfl, rfl⟩
  | 2, _ => exact ⟨rfl, rfl⟩
  | 3, _ => exact ⟨rfl, rfl⟩
theorem zero_is (n : Int) : lst n = ⟨0, 0, 0, 0⟩ ↔ n % Sm.L = 0 := by
 constructor
 ·intro h
  have := lst_n n
  rw [h] at this
  rw [← this]; rfl
 ·intro h
  unfold lst; rw [h]; rfl
theorem IsZero_any (a : E4) (w : World) (hT : Tb w) (ha : a.ok) :
  Calls Tryz.prog 73 #[a.v] w fun e w' => e = .returned (.bool (decide (a.n % Sm.L = 0))) ∧ Below w.heap.size w w' := by
 have c1 := fun w T => Least_any a w T ha
 simp only [E4.v] at c1 ⊢
 have C1 := Hn c1
 have HT := Hn hT
 clear c1 ha hT
 go_enter Tryz.func73, Tryz.ntmps73
 go_wp2_with fail
 refine (C1.out _ (HT.out.keep (bl_alloc _ _))).mono ?_
 rintro e w1 ⟨r, rfl, hr, hb1⟩
 clear C1
 have hq : ∀ w, (Op.equalIn 10000 41 (.agg #[.int .u64 r.x0, .int .u64 r.x1, .int .u64 r.x2, .int .u64 r.x3]) (.agg #[.int .u64 0, .int .u64 0, .int .u64 0, .int .u64 0])).run Tryz.prog w = .ok (r.same ⟨0, 0, 0, 0⟩) w := fun w => eq4 r ⟨0, 0, 0, 0⟩ w
 have he : r.same ⟨0, 0, 0, 0⟩ = decide (a.n % Sm.L = 0) := by
  rw [Bool.eq_iff_iff, E4.same_iff, hr, zero_is]
  simp
 rw [he] at hq
 clear he
 generalize hB : decide (a.n % Sm.L = 0) = B at hq
 go_wp2_with fail
 refine bodyPost_ret (v := .bool B) (by simp [results, Tryz.results73, go_sem]) rfl ⟨by rw [hB], ?_⟩
 exact bl_trans (bl_alloc w _) hb1
end Go.Proofs.YtghcfcglakbkeaaGreatDoor
