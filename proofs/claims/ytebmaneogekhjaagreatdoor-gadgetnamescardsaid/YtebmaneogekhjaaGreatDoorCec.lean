import Derived.Test.YtebmaneogekhjaaGreatDoorCeb
namespace Go.Proofs.YtebmaneogekhjaaGreatDoor
open Go.RowKit
set_option linter.unusedVariables false
set_option linter.unusedSimpArgs false
open Cm (Wr Tm co bf Ls lf ins Eqm)
namespace Ci
set_option maxRecDepth 100000
set_option maxHeartbeats 4000000
theorem an_at {p : Nat → Bool} {n : Nat} (h : an p n = false) : ∀ k, k < n → p k = false := by
 induction n with
 | zero => intro k hk; omega
 | succ n ih =>
  simp only [an, Bool.or_eq_false_iff] at h
  intro k hk
  rcases Nat.lt_or_ge k n with h1 | h1
  ·first | exact ih h.1 k h1 | exact ih h.2 k h1
  ·obtain rfl : k = n := by omega
   first | exact h.2 | exact h.1
theorem nm_at {m Kg n : Nat} {f : Nat → Trm} (h : nm m Kg n f = true) : ∀ k, k < n → hs m Kg (f k).q = true := fun k hk => by
 unfold nm at h
 have h1 : an (fun k => !hs m Kg (f k).q) n = false := by simpa using h
 have := an_at h1 k hk
 simpa using this
theorem nm_of_hs {N : Nat → Sl} {m Kg : Nat} {q : Wr} (hf : ftB N m Kg = true) (h : hs m Kg q = true) : Nm N q := by
 unfold hs at h
 simp only [Bool.and_eq_true, decide_eq_true_eq] at h
 obtain ⟨h1, h2, h3, h4⟩ := h
 refine ⟨by omega, h2, h3, ?_⟩
 rw [(ftB_iff N m Kg).1 hf q.1.toNat (by omega), cn_ct]
 exact h4
theorem ins_lenC (t : Tm) : ∀ X : List Tm, (ins Sm.L X t).length ≤ X.length + 1
 | [] => by unfold ins; split <;> simp
 | x :: X => by
  have := ins_lenC t X
  unfold ins
  split
  ·split <;> simp <;> omega
  ·split
   ·split <;> simp <;> omega
   ·simp; omega
theorem lf_lenC (X : List Tm) : (lf Sm.L X).length ≤ X.length := by
 have g : ∀ (Y Z : List Tm), (Y.foldl (ins Sm.L) Z).length ≤ Z.length + Y.length := by
  intro Y
  induction Y with
  | nil => intro Z; simp
  | cons y Y ih => intro Z; have := ih (ins Sm.L Z y); have := ins_lenC y Z; simp only [List.foldl_cons, List.length_cons]; omega
 have := g X []
 simpa [lf] using this
theorem frozen_keepC {w w' : World} {a : Addr} {q : Bool} (h : w.frozen? a = q) (hl : a.block < w.heap.size) (hb : Below w.heap.size w w') : w'.frozen? a = q := (hb.frozen (p := a) hl).trans h
theorem nms_g (b : Nat) (l r o v : Sl) (k : Nat) : (nms b l r o v k).g = (nms 0 l r o v k).g := by
 unfold nms
 split <;> rfl
theorem nms_n (b : Nat) (l r o v : Sl) (k : Nat) : (nms b l r o v k).n = (nms 0 l r o v k).n := by
 unfold nms
 split <;> rfl
theorem nms_ft (b : Nat) (l r o v : Sl) (m Kg : Nat) : ftB (nms b l r o v) m Kg = ftB (nms 0 l r o v) m Kg := by
 unfold ftB
 congr 1
 funext k
 rw [nms_n]
theorem nms_es (b : Nat) (l r o v : Sl) (f : Nat → Trm) : ∀ i, es (nms b l r o v) f i = es (nms 0 l r o v) f i
 | 0 => rfl
 | i + 1 => by
  unfold es
  rw [nms_es b l r o v f i]
  unfold nw
  rw [nms_g]
theorem nms_at {b : Nat} {l r o v : Sl} {w : World} (h1 : (nms b l r o v 1).at w) (hl : l.at w) (hr : r.at w) (ho : o.at w) (hv : v.at w) : ∀ k, k < 6 → (nms b l r o v k).at w := fun k hk => by
 match k, hk with
 | 0, _ => exact ⟨⟨0, 0, fun h => absurd h (Nat.lt_irrefl 0), fun h => absurd h (Nat.lt_irrefl 0)⟩, fun k hk => absurd hk (Nat.not_lt_zero k)⟩
 | 1, _ => exact h1
 | 2, _ => exact hl
 | 3, _ => exact hr
 | 4, _ => exact ho
 | 5, _ => exact hv
def evE (N : Nat → Sl) (m Kg : Nat) (X : List Tm) : Int := if ftB N m Kg = true then (if nm m Kg X.length (ft X) = true then 0 else 200) else 2
def evS (N : Nat → Sl) (m Kg : Nat) (X : List Tm) : E4 := if ftB N m Kg = true then (if nm m Kg X.length (ft X) = true then es N (ft X) X.length else ⟨0, 0, 0, 0⟩) else ⟨0, 0, 0, 0⟩
theorem Eval_any {base : Nat} {w : World} {s m Kg : Nat} {vv : Value} {vs : List Value} {Q : List (List Tm)} (h : Sy base w s m Kg vv vs Q) (hT : Tb w) (l r o v : Sl) (hl : l.at w) (hr : r.at w) (ho : o.at w) (hv : v.at w) (P : Option Addr) (n c : Nat) (f : Nat → Trm) (hn : n ≤ 2932031007402) (hf : ∀ k, k < n → (f k).a.ok) (hL : Lt w P n f) :
  Calls Tryz.prog 71 #[.pointer (some ⟨s, 0, none⟩), .agg #[l.v, r.v, o.v, v.v], .slice P n c] w fun e w' => e = .returned (.tuple #[.agg #[.int .u64 (evS (nms 0 l r o v) m Kg (lf Sm.L (glL n f))).x0, .int .u64 (evS (nms 0 l r o v) m Kg (lf Sm.L (glL n f))).x1, .int .u64 (evS (nms 0 l r o v) m Kg (lf Sm.L (glL n f))).x2, .int .u64 (evS (nms 0 l r o v) m Kg (lf Sm.L (glL n f))).x3], .int .i64 (evE (nms 0 l r o v) m Kg (lf Sm.L (glL n f)))]) ∧ Below w.heap.size w w' := by
 have BA := bl_alloc2 w (.cells #[.slice l.p l.n l.c, .slice r.p r.n r.c, .slice o.p o.n o.c, .slice v.p v.n v.c] 59) (.cells #[.int .u64 0, .int .u64 0, .int .u64 0, .int .u64 0] 47)
 have C0 := hidden (none_any (h.keep BA))
 have C1 := hidden (fun y => numbers_any l r o v y)
 have C2 := hidden (fun y (hb : Below w.heap.size w y) => Least_lin P n c f y (hT.keep hb) hn hf (hL.keep hb))
 have c0 : ((w.alloc (.cells #[.slice l.p l.n l.c, .slice r.p r.n r.c, .slice o.p o.n o.c, .slice v.p v.n v.c] 59)).alloc (.cells #[.int .u64 0, .int .u64 0, .int .u64 0, .int .u64 0] 47)).cell? ⟨w.heap.size, 0, none⟩ = some (.slice l.p l.n l.c) := by go_simp
 have c1 : ((w.alloc (.cells #[.slice l.p l.n l.c, .slice r.p r.n r.c, .slice o.p o.n o.c, .slice v.p v.n v.c] 59)).alloc (.cells #[.int .u64 0, .int .u64 0, .int .u64 0, .int .u64 0] 47)).cell? ⟨w.heap.size, 1, none⟩ = some (.slice r.p r.n r.c) := by go_simp
 have c2 : ((w.alloc (.cells #[.slice l.p l.n l.c, .slice r.p r.n r.c, .slice o.p o.n o.c, .slice v.p v.n v.c] 59)).alloc (.cells #[.int .u64 0, .int .u64 0, .int .u64 0, .int .u64 0] 47)).cell? ⟨w.heap.size, 2, none⟩ = some (.slice o.p o.n o.c) := by go_simp
 have c3 : ((w.alloc (.cells #[.slice l.p l.n l.c, .slice r.p r.n r.c, .slice o.p o.n o.c, .slice v.p v.n v.c] 59)).alloc (.cells #[.int .u64 0, .int .u64 0, .int .u64 0, .int .u64 0] 47)).cell? ⟨w.heap.size, 3, none⟩ = some (.slice v.p v.n v.c) := by go_simp
 have a0 : ((w.alloc (.cells #[.slice l.p l.n l.c, .slice r.p r.n r.c, .slice o.p o.n o.c, .slice v.p v.n v.c] 59)).alloc (.cells #[.int .u64 0, .int .u64 0, .int .u64 0, .int .u64 0] 47)).cell? ⟨w.heap.size + 1, 0, none⟩ = some (.int .u64 0) := by go_simp
 have f0 : ((w.alloc (.cells #[.slice l.p l.n l.c, .slice r.p r.n r.c, .slice o.p o.n o.c, .slice v.p v.n v.c] 59)).alloc (.cells #[.int .u64 0, .int .u64 0, .int .u64 0, .int .u64 0] 47)).frozen? ⟨w.heap.size + 1, 0, none⟩ = false := by go_simp
 have a1 : ((w.alloc (.cells #[.slice l.p l.n l.c, .slice r.p r.n r.c, .slice o.p o.n o.c, .slice v.p v.n v.c] 59)).alloc (.cells #[.int .u64 0, .int .u64 0, .int .u64 0, .int .u64 0] 47)).cell? ⟨w.heap.size + 1, 1, none⟩ = some (.int .u64 0) := by go_simp
 have f1 : ((w.alloc (.cells #[.slice l.p l.n l.c, .slice r.p r.n r.c, .slice o.p o.n o.c, .slice v.p v.n v.c] 59)).alloc (.cells #[.int .u64 0, .int .u64 0, .int .u64 0, .int .u64 0] 47)).frozen? ⟨w.heap.size + 1, 1, none⟩ = false := by go_simp
 have a2 : ((w.alloc (.cells #[.slice l.p l.n l.c, .slice r.p r.n r.c, .slice o.p o.n o.c, .slice v.p v.n v.c] 59)).alloc (.cells #[.int .u64 0, .int .u64 0, .int .u64 0, .int .u64 0] 47)).cell? ⟨w.heap.size + 1, 2, none⟩ = some (.int .u64 0) := by go_simp
 have f2 : ((w.alloc (.cells #[.slice l.p l.n l.c, .slice r.p r.n r.c, .slice o.p o.n o.c, .slice v.p v.n v.c] 59)).alloc (.cells #[.int .u64 0, .int .u64 0, .int .u64 0, .int .u64 0] 47)).frozen? ⟨w.heap.size + 1, 2, none⟩ = false := by go_simp
 have a3 : ((w.alloc (.cells #[.slice l.p l.n l.c, .slice r.p r.n r.c, .slice o.p o.n o.c, .slice v.p v.n v.c] 59)).alloc (.cells #[.int .u64 0, .int .u64 0, .int .u64 0, .int .u64 0] 47)).cell? ⟨w.heap.size + 1, 3, none⟩ = some (.int .u64 0) := by go_simp
 have f3 : ((w.alloc (.cells #[.slice l.p l.n l.c, .slice r.p r.n r.c, .slice o.p o.n o.c, .slice v.p v.n v.c] 59)).alloc (.cells #[.int .u64 0, .int .u64 0, .int .u64 0, .int .u64 0] 47)).frozen? ⟨w.heap.size + 1, 3, none⟩ = false := by go_simp
 have RL : w.heap.size + 1 < ((w.alloc (.cells #[.slice l.p l.n l.c, .slice r.p r.n r.c, .slice o.p o.n o.c, .slice v.p v.n v.c] 59)).alloc (.cells #[.int .u64 0, .int .u64 0, .int .u64 0, .int .u64 0] 47)).heap.size := by simp only [World.size_alloc]; omega
 have HB := hidden BA
 have HH := hidden h
 have HA := hidden (And.intro hl (And.intro hr (And.intro ho hv)))
 have HT := hidden hT
 have HN := hidden hn
 clear BA hn hf hL h hl hr ho hv hT
 simp only [Sl.v] at C1 ⊢
 go_enter Tryz.func71, Tryz.ntmps71
 go_upto_region 1 with fail
 generalize ((w.alloc (.cells #[.slice l.p l.n l.c, .slice r.p r.n r.c, .slice o.p o.n o.c, .slice v.p v.n v.c] 59)).alloc (.cells #[.int .u64 0, .int .u64 0, .int .u64 0, .int .u64 0] 47)) = w2 at *
 have FF := hidden (And.intro f0 (And.intro f1 (And.intro f2 f3)))
 have AA := hidden (And.intro a0 (And.intro a1 (And.intro a2 a3)))
 clear f0 f1 f2 f3 a0 a1 a2 a3
 go_upto_region 3 with (go_at_call 46; refine C0.out.mono ?_; rintro e w1 ⟨rfl, rfl⟩)
 clear C0
 go_upto_region 4 with (first | (go_at_call 47; refine (C1.out _).mono ?_; rintro e w3 ⟨b, rfl, h1, hb⟩; have O1 := hidden h1; have B3 := hidden (bl_trans HB.out hb); have BB3 := hidden hb; clear hb h1 C1) | (go_at_call 80; refine (C2.out _ B3.out).mono ?_; rintro e w4 ⟨vX, rfl, hq⟩; obtain ⟨PX, cX, rfl, _⟩ := own_shT hq.1; have B4 := hidden (bl_trans B3.out hq.2.1); have BB4 := hidden (bl_trans BB3.out hq.2.1); have O4 := hidden (O1.out.keep hq.2.1); have LX := hidden (own_lts hq.1); clear hq C2))
 have eF := nms_ft b l r o v m Kg
 have eS := nms_es b l r o v
 have eN : Hid (∀ k, k < 6 → (nms b l r o v k).at w4) := hidden (nms_at O4.out (HA.out.1.keep B4.out) (HA.out.2.1.keep B4.out) (HA.out.2.2.1.keep B4.out) (HA.out.2.2.2.keep B4.out))
 have EF := hidden eF
 have ES := hidden eS
 clear eF eS O1 O4 HA
 generalize nms b l r o v = N at *
 have BA := bl_alloc w4 (.cells #[.slice (N 0).p (N 0).n (N 0).c, .slice (N 1).p (N 1).n (N 1).c, .slice (N 2).p (N 2).n (N 2).c, .slice (N 3).p (N 3).n (N 3).c, .slice (N 4).p (N 4).n (N 4).c, .slice (N 5).p (N 5).n (N 5).c] 99)
 have d0 : (w4.alloc (.cells #[.slice (N 0).p (N 0).n (N 0).c, .slice (N 1).p (N 1).n (N 1).c, .slice (N 2).p (N 2).n (N 2).c, .slice (N 3).p (N 3).n (N 3).c, .slice (N 4).p (N 4).n (N 4).c, .slice (N 5).p (N 5).n (N 5).c] 99)).cell? ⟨w4.heap.size, 0, none⟩ = some (.slice (N 0).p (N 0).n (N 0).c) := by go_simp
 have d1 : (w4.alloc (.cells #[.slice (N 0).p (N 0).n (N 0).c, .slice (N 1).p (N 1).n (N 1).c, .slice (N 2).p (N 2).n (N 2).c, .slice (N 3).p (N 3).n (N 3).c, .slice (N 4).p (N 4).n (N 4).c, .slice (N 5).p (N 5).n (N 5).c] 99)).cell? ⟨w4.heap.size, 1, none⟩ = some (.slice (N 1).p (N 1).n (N 1).c) := by go_simp
 have d2 : (w4.alloc (.cells #[.slice (N 0).p (N 0).n (N 0).c, .slice (N 1).p (N 1).n (N 1).c, .slice (N 2).p (N 2).n (N 2).c, .slice (N 3).p (N 3).n (N 3).c, .slice (N 4).p (N 4).n (N 4).c, .slice (N 5).p (N 5).n (N 5).c] 99)).cell? ⟨w4.heap.size, 2, none⟩ = some (.slice (N 2).p (N 2).n (N 2).c) := by go_simp
 have d3 : (w4.alloc (.cells #[.slice (N 0).p (N 0).n (N 0).c, .slice (N 1).p (N 1).n (N 1).c, .slice (N 2).p (N 2).n (N 2).c, .slice (N 3).p (N 3).n (N 3).c, .slice (N 4).p (N 4).n (N 4).c, .slice (N 5).p (N 5).n (N 5).c] 99)).cell? ⟨w4.heap.size, 3, none⟩ = some (.slice (N 3).p (N 3).n (N 3).c) := by go_simp
 have d4 : (w4.alloc (.cells #[.slice (N 0).p (N 0).n (N 0).c, .slice (N 1).p (N 1).n (N 1).c, .slice (N 2).p (N 2).n (N 2).c, .slice (N 3).p (N 3).n (N 3).c, .slice (N 4).p (N 4).n (N 4).c, .slice (N 5).p (N 5).n (N 5).c] 99)).cell? ⟨w4.heap.size, 4, none⟩ = some (.slice (N 4).p (N 4).n (N 4).c) := by go_simp
 have d5 : (w4.alloc (.cells #[.slice (N 0).p (N 0).n (N 0).c, .slice (N 1).p (N 1).n (N 1).c, .slice (N 2).p (N 2).n (N 2).c, .slice (N 3).p (N 3).n (N 3).c, .slice (N 4).p (N 4).n (N 4).c, .slice (N 5).p (N 5).n (N 5).c] 99)).cell? ⟨w4.heap.size, 5, none⟩ = some (.slice (N 5).p (N 5).n (N 5).c) := by go_simp
 have B5 := hidden (bl_trans B4.out BA)
 have BB5 := hidden (bl_trans BB4.out BA)
 have N5 : Hid (∀ k, k < 6 → (N k).at (w4.alloc (.cells #[.slice (N 0).p (N 0).n (N 0).c, .slice (N 1).p (N 1).n (N 1).c, .slice (N 2).p (N 2).n (N 2).c, .slice (N 3).p (N 3).n (N 3).c, .slice (N 4).p (N 4).n (N 4).c, .slice (N 5).p (N 5).n (N 5).c] 99))) := hidden (fun k hk => (eN.out k hk).keep BA)
 have L5 := hidden (LX.out.keep BA)
 have lx := lf_lenC (glL n f)
 rw [show (glL n f).length = n by simp [glL]] at lx
 clear BA B4 BB4 LX eN B3 BB3 c0 c1 c2 c3
 generalize w4.alloc (.cells #[.slice (N 0).p (N 0).n (N 0).c, .slice (N 1).p (N 1).n (N 1).c, .slice (N 2).p (N 2).n (N 2).c, .slice (N 3).p (N 3).n (N 3).c, .slice (N 4).p (N 4).n (N 4).c, .slice (N 5).p (N 5).n (N 5).c] 99) = w5 at *
 generalize w4.heap.size = nb at *
 have C3 := fits_any (HH.out.keep B5.out) N
 have C4 := fun y (hb : Below w5.heap.size w5 y) => names_any (HH.out.keep (bl_trans B5.out hb)) PX (lf Sm.L (glL n f)).length cX (ft (lf Sm.L (glL n f))) (by have := HN.out; omega) (L5.out.keep hb)
 simp only [Sl.v] at C3
 replace C3 := hidden C3
 replace C4 := hidden C4
 by_cases hF : ftB N m Kg = true
 ·rw [hF] at C3
  by_cases hM : nm m Kg (lf Sm.L (glL n f)).length (ft (lf Sm.L (glL n f))) = true
  ·rw [hM] at C4
   have C5 := fun y (hb : Below w5.heap.size w5 y) => nsum_any N PX (lf Sm.L (glL n f)).length cX (ft (lf Sm.L (glL n f))) y (HT.out.keep (bl_trans B5.out hb)) (by have := HN.out; omega) (fun k hk => (N5.out k hk).keep hb) (fun k hk => lst_ok _) (fun k hk => nm_of_hs hF (nm_at hM k hk)) (L5.out.keep hb)
   simp only [Sl.v] at C5
   replace C5 := hidden C5
   have eE : evE (nms 0 l r o v) m Kg (lf Sm.L (glL n f)) = 0 := by unfold evE; rw [← EF.out, if_pos hF, if_pos hM]
   have eS : evS (nms 0 l r o v) m Kg (lf Sm.L (glL n f)) = es N (ft (lf Sm.L (glL n f))) (lf Sm.L (glL n f)).length := by unfold evS; rw [← EF.out, if_pos hF, if_pos hM, ES.out]
   have EE := hidden (And.intro eE eS)
   clear hF hM eE eS EF ES
   go_upto_region 6 with (go_at_call 48; refine C3.out.mono ?_; rintro e w6 ⟨rfl, hb⟩; have B6 := hidden hb; clear hb)
   clear C3
   go_upto_region 8 with (go_at_call 112; refine (C4.out _ B6.out).mono ?_; rintro e w7 ⟨rfl, hb⟩; have B7 := hidden (bl_trans B6.out hb); clear hb)
   clear C4
   have x0 := cell_keep d0 B7.out
   have x1 := cell_keep d1 B7.out
   have x2 := cell_keep d2 B7.out
   have x3 := cell_keep d3 B7.out
   have x4 := cell_keep d4 B7.out
   have x5 := cell_keep d5 B7.out
   clear d0 d1 d2 d3 d4 d5
   generalize es N (ft (lf Sm.L (glL n f))) (lf Sm.L (glL n f)).length = rv at *
   go_wp2_with (go_at_call 50; refine (C5.out _ B7.out).mono ?_; rintro e w8 ⟨rfl, hb⟩; have B8 := bl_trans BB5.out (bl_trans B7.out hb); have g0 := cell_keep AA.out.1 B8; have h0 := frozen_keepC FF.out.1 RL B8; have g1 := cell_keep AA.out.2.1 B8; have h1 := frozen_keepC FF.out.2.1 RL B8; have g2 := cell_keep AA.out.2.2.1 B8; have h2 := frozen_keepC FF.out.2.2.1 RL B8; have g3 := cell_keep AA.out.2.2.2 B8; have h3 := frozen_keepC FF.out.2.2.2 RL B8; have HB8 := hidden B8; clear hb B8)
   have BF := below_tr (bl_trans HB.out HB8.out) (below_grown (base := w.heap.size) (gb_setCells (w.heap.size + 1) [.int .u64 rv.x0, .int .u64 rv.x1, .int .u64 rv.x2, .int .u64 rv.x3] 0 w8) (by have := (bl_trans HB.out HB8.out).size; omega) (fun k hk => by have := Option.some.inj hk; omega))
   refine bodyPost_ret (v := .tuple #[.agg #[.int .u64 rv.x0, .int .u64 rv.x1, .int .u64 rv.x2, .int .u64 rv.x3], .int .i64 0]) (by simp [results, Tryz.results71, go_sem, g0, g1, g2, g3]) rfl ⟨?_, BF⟩
   rw [EE.out.1, EE.out.2]
  ·have hM2 : nm m Kg (lf Sm.L (glL n f)).length (ft (lf Sm.L (glL n f))) = false := by simpa using hM
   rw [hM2] at C4
   have eE : evE (nms 0 l r o v) m Kg (lf Sm.L (glL n f)) = 200 := by unfold evE; rw [← EF.out, if_pos hF, if_neg hM]
   have eS : evS (nms 0 l r o v) m Kg (lf Sm.L (glL n f)) = ⟨0, 0, 0, 0⟩ := by unfold evS; rw [← EF.out, if_pos hF, if_neg hM]
   have EE := hidden (And.intro eE eS)
   clear hF hM hM2 eE eS EF ES
   go_upto_region 6 with (go_at_call 48; refine C3.out.mono ?_; rintro e w6 ⟨rfl, hb⟩; have B6 := hidden hb; clear hb)
   clear C3
   go_wp2_with (go_at_call 112; refine (C4.out _ B6.out).mono ?_; rintro e w7 ⟨rfl, hb⟩; have B8 := bl_trans BB5.out (bl_trans B6.out hb); have g0 := cell_keep AA.out.1 B8; have h0 := frozen_keepC FF.out.1 RL B8; have g1 := cell_keep AA.out.2.1 B8; have h1 := frozen_keepC FF.out.2.1 RL B8; have g2 := cell_keep AA.out.2.2.1 B8; have h2 := frozen_keepC FF.out.2.2.1 RL B8; have g3 := cell_keep AA.out.2.2.2 B8; have h3 := frozen_keepC FF.out.2.2.2 RL B8; have HB8 := hidden B8; clear hb B8)
   have BF := below_tr (bl_trans HB.out HB8.out) (below_grown (base := w.heap.size) (gb_setCells (w.heap.size + 1) [.int .u64 0, .int .u64 0, .int .u64 0, .int .u64 0] 0 w7) (by have := (bl_trans HB.out HB8.out).size; omega) (fun k hk => by have := Option.some.inj hk; omega))
   refine bodyPost_ret (v := .tuple #[.agg #[.int .u64 0, .int .u64 0, .int .u64 0, .int .u64 0], .int .i64 200]) (by simp [results, Tryz.results71, go_sem, g0, g1, g2, g3]) rfl ⟨?_, BF⟩
   rw [EE.out.1, EE.out.2]
 ·have hF2 : ftB N m Kg = false := by simpa using hF
  rw [hF2] at C3
  have eE : evE (nms 0 l r o v) m Kg (lf Sm.L (glL n f)) = 2 := by unfold evE; rw [← EF.out, if_neg hF]
  have eS : evS (nms 0 l r o v) m Kg (lf Sm.L (glL n f)) = ⟨0, 0, 0, 0⟩ := by unfold evS; rw [← EF.out, if_neg hF]
  have EE := hidden (And.intro eE eS)
  clear hF hF2 eE eS EF ES
  go_wp2_with (go_at_call 48; refine C3.out.mono ?_; rintro e w7 ⟨rfl, hb⟩; have B8 := bl_trans BB5.out hb; have g0 := cell_keep AA.out.1 B8; have h0 := frozen_keepC FF.out.1 RL B8; have g1 := cell_keep AA.out.2.1 B8; have h1 := frozen_keepC FF.out.2.1 RL B8; have g2 := cell_keep AA.out.2.2.1 B8; have h2 := frozen_keepC FF.out.2.2.1 RL B8; have g3 := cell_keep AA.out.2.2.2 B8; have h3 := frozen_keepC FF.out.2.2.2 RL B8; have HB8 := hidden B8; clear hb B8)
  have BF := below_tr (bl_trans HB.out HB8.out) (below_grown (base := w.heap.size) (gb_setCells (w.heap.size + 1) [.int .u64 0, .int .u64 0, .int .u64 0, .int .u64 0] 0 w7) (by have := (bl_trans HB.out HB8.out).size; omega) (fun k hk => by have := Option.some.inj hk; omega))
  refine bodyPost_ret (v := .tuple #[.agg #[.int .u64 0, .int .u64 0, .int .u64 0, .int .u64 0], .int .i64 2]) (by simp [results, Tryz.results71, go_sem, g0, g1, g2, g3]) rfl ⟨?_, BF⟩
  rw [EE.out.1, EE.out.2]
end Ci
end Go.Proofs.YtebmaneogekhjaaGreatDoor
