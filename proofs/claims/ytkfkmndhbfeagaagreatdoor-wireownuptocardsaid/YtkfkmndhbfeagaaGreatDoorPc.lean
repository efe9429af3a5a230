import Derived.Test.YtkfkmndhbfeagaaGreatDoorPb
namespace Go.Proofs.YtkfkmndhbfeagaaGreatDoor
open Go.RowKit
set_option linter.unusedVariables false
def Lm (w : World) (P : Option Addr) (n : Nat) (g : Nat → E4) : Prop := ∃ sb so : Nat, (0 < n → P = some ⟨sb, so, none⟩) ∧ (0 < n → Rl w sb so n g)
theorem Lm.keep {w1 w2 : World} {P : Option Addr} {n : Nat} {g : Nat → E4} (h : Lm w1 P n g) (hb : Below w1.heap.size w1 w2) : Lm w2 P n g := by
  obtain ⟨sb, so, h1, h2⟩ := h
  exact ⟨sb, so, h1, fun hl => (h2 hl).keep hb⟩
/-- the cells of a proof over Line -/
def pc (s : Nat → E4) (LV RV : Value) : List Value := [.int .u64 (s 0).x0, .int .u64 (s 0).x1, .int .u64 (s 0).x2, .int .u64 (s 0).x3, .int .u64 (s 1).x0, .int .u64 (s 1).x1, .int .u64 (s 1).x2, .int .u64 (s 1).x3, .int .u64 (s 2).x0, .int .u64 (s 2).x1, .int .u64 (s 2).x2, .int .u64 (s 2).x3, .int .u64 (s 3).x0, .int .u64 (s 3).x1, .int .u64 (s 3).x2, .int .u64 (s 3).x3, .int .u64 (s 4).x0, .int .u64 (s 4).x1, .int .u64 (s 4).x2, .int .u64 (s 4).x3, .int .u64 (s 5).x0, .int .u64 (s 5).x1, .int .u64 (s 5).x2, .int .u64 (s 5).x3, .int .u64 (s 6).x0, .int .u64 (s 6).x1, .int .u64 (s 6).x2, .int .u64 (s 6).x3, LV, RV, .int .u64 (s 7).x0, .int .u64 (s 7).x1, .int .u64 (s 7).x2, .int .u64 (s 7).x3, .int .u64 (s 8).x0, .int .u64 (s 8).x1, .int .u64 (s 8).x2, .int .u64 (s 8).x3]
theorem pc_len (s : Nat → E4) (LV RV : Value) : (pc s LV RV).length = 38 := rfl
/-- the bytes of the rounds; of a proof -/
def rb (k : Nat) (l r : Nat → E4) : List UInt8 := (List.range k).flatMap fun i => eb (l i).n ++ eb (r i).n
theorem rb_succ (k : Nat) (l r : Nat → E4) : rb (k + 1) l r = rb k l r ++ (eb (l k).n ++ eb (r k).n) := by simp [rb, List.range_succ]
theorem rb_len (k : Nat) (l r : Nat → E4) : (rb k l r).length = 64 * k := by
  induction k with
  | zero => rfl
  | succ k ih => rw [rb_succ, List.length_append, List.length_append, ih, eb_len, eb_len]; omega
def pe (k : Nat) (s l r : Nat → E4) : List UInt8 := ef 7 s ++ rb k l r ++ (eb (s 7).n ++ eb (s 8).n)
theorem pe_len (k : Nat) (s l r : Nat → E4) : (pe k s l r).length = 32 * (9 + 2 * k) := by
  unfold pe
  rw [List.length_append, List.length_append, List.length_append, ef_len, rb_len, eb_len, eb_len]; omega
set_option maxRecDepth 100000 in
set_option maxHeartbeats 4000000 in
theorem length_any (k : Nat) (w : World) (hk : k ≤ 1000) : Calls Tryz.prog 25 #[.int .i64 (k : Int)] w fun e w' => e = .returned (.int .i64 ((32 * (9 + 2 * k) : Nat) : Int)) ∧ w' = w := by
  have w1 : IntKind.i64.wrap (2 * (k : Int)) = 2 * (k : Int) := IntWalk.i64_in _ (by omega)
  have w2 : IntKind.i64.wrap (9 + 2 * (k : Int)) = 9 + 2 * (k : Int) := IntWalk.i64_in _ (by omega)
  have w3 : IntKind.i64.wrap (32 * (9 + 2 * (k : Int))) = 32 * (9 + 2 * (k : Int)) := IntWalk.i64_in _ (by omega)
  have ee : Hid ((32 * (9 + 2 * (k : Int))) = ((32 * (9 + 2 * k) : Nat) : Int)) := hidden (by omega)
  clear hk
  go_enter Tryz.func25, Tryz.ntmps25
  go_wp2_with fail
  refine bodyPost_ret (v := .int .i64 (32 * (9 + 2 * (k : Int)))) (by simp [results, Tryz.results25, go_sem]) rfl ⟨by rw [ee.out], rfl⟩
set_option maxRecDepth 100000 in
set_option maxHeartbeats 4000000 in
theorem enc_no (s : Nat → E4) (LP RP : Option Addr) (n m cL cR : Nat) (w : World) (h : n ≠ m ∨ 10 < n) :
    Calls Tryz.prog 6 #[.agg (pc s (.slice LP n cL) (.slice RP m cR)).toArray] w fun e w' => e = .returned (.tuple #[.slice none 0 0, .int .i64 2]) ∧ Below w.heap.size w w' := by
  obtain ⟨P, hP⟩ : ∃ P, pc s (.slice LP n cL) (.slice RP m cR) = P := ⟨_, rfl⟩
  have r0 := range_newM w (pc s (.slice LP n cL) (.slice RP m cR)) 55
  have c28 := r0 28 _ rfl
  have c29 := r0 29 _ rfl
  have B0 := hidden (bl_alloc w (.cells P.toArray 55))
  rw [hP] at c28 c29 ⊢
  clear r0
  simp only [Nat.zero_add] at c28 c29
  generalize hW : w.alloc (.cells P.toArray 55) = W at c28 c29 B0
  clear hP
  by_cases hnm : n = m
  · have h1 : ((n : Int) ≠ (m : Int)) = False := by simp [hnm]
    have h2 : (n : Int) > 10 := by omega
    subst hnm
    clear h h1
    go_enter Tryz.func6, Tryz.ntmps6
    go_wp2_with fail
    refine bodyPost_ret (v := .tuple #[.slice none 0 0, .int .i64 2]) (by simp [results, Tryz.results6, go_sem]) rfl ⟨rfl, B0.out⟩
  · have h1 : ¬ (n : Int) = (m : Int) := by omega
    clear h hnm
    go_enter Tryz.func6, Tryz.ntmps6
    go_wp2_with fail
    refine bodyPost_ret (v := .tuple #[.slice none 0 0, .int .i64 2]) (by simp [results, Tryz.results6, go_sem]) rfl ⟨rfl, B0.out⟩
/-- what EncodeProof keeps -/
structure Es (w0 : World) (G B cap : Nat) (s : Nat → E4) (LP RP : Option Addr) (n cL cR : Nat) (l r : Nat → E4) (bs : List UInt8) (w : World) : Prop where
  bel : Below w0.heap.size w0 w
  tb : Tb w
  box : w.rangeAt B 0 (pc s (.slice LP n cL) (.slice RP n cR))
  ll : Lm w LP n l
  rr : Lm w RP n r
  own : w.ownsRow w0.heap.size 5 1 (.slice (some ⟨G, 0, none⟩) bs.length cap) bs.length (Tr.cb bs)
theorem Lm.kp {G : Nat} {w w' : World} {P : Option Addr} {n : Nat} {g : Nat → E4} (h : Lm w P n g) (k : Tr.Kp G w w') (hne : ∀ a, P = some a → a.block ≠ G) : Lm w' P n g := by
  obtain ⟨sb, so, h1, h2⟩ := h
  exact ⟨sb, so, h1, fun hl => (h2 hl).kp k (hne _ (h1 hl))⟩
theorem range_kp {G : Nat} {w w' : World} {b o : Nat} {cs : List Value} (h : w.rangeAt b o cs) (k : Tr.Kp G w w') (hne : b ≠ G) : w'.rangeAt b o cs := fun j v hv => kp_cell k (h j v hv) hne
theorem Es.step {w0 : World} {G B cap : Nat} {s : Nat → E4} {LP RP : Option Addr} {n cL cR : Nat} {l r : Nat → E4} {bs bs' : List UInt8} {w w' : World} (h : Es w0 G B cap s LP RP n cL cR l r bs w) (k : Tr.Kp G w w') (hG : w0.heap.size ≤ G) (hB : B ≠ G) (hL : ∀ a, LP = some a → a.block ≠ G) (hR : ∀ a, RP = some a → a.block ≠ G) (hT : 5 ≠ G)
    (ho : w'.ownsRow w0.heap.size 5 1 (.slice (some ⟨G, 0, none⟩) bs'.length cap) bs'.length (Tr.cb bs')) : Es w0 G B cap s LP RP n cL cR l r bs' w' :=
  ⟨Tr.below_trans h.bel (k.below hG h.bel.size), h.tb.kp k hT, range_kp h.box k hB, h.ll.kp k hL, h.rr.kp k hR, ho⟩
end Go.Proofs.YtkfkmndhbfeagaaGreatDoor
