import Derived.Test.YthngomhhafoamaaGreatDoorCet
import Derived.Test.YthngomhhafoamaaGreatDoorJy
set_option linter.unusedVariables false
set_option linter.unusedSimpArgs false
set_option maxRecDepth 100000
set_option maxHeartbeats 16000000
namespace Go.Proofs.YthngomhhafoamaaGreatDoor
open Go.RowKit
open Cm (Wr Tm co bf Ls lf ins Eqm)
namespace Ci
def nilF : Nat → Value := fun _ => .slice none 0 0
theorem fi_start (w : World) (l : Sl) : Fi w l 0 nilF nilF (fun _ => 0) ((((w.alloc (.cells #[.slice l.p l.n l.c] 25)).alloc (.cells #[.slice none 0 0, .slice none 0 0, .slice none 0 0, .slice none 0 0] 30)).alloc (.cells #[.int .i64 0] 3)).alloc (.cells #[.slice none 0 0, .slice none 0 0, .slice none 0 0, .slice none 0 0] 30)) := by
 have e1 : (w.alloc (.cells #[.slice l.p l.n l.c] 25)).heap.size = w.heap.size + 1 := by simp
 have e2 : ((w.alloc (.cells #[.slice l.p l.n l.c] 25)).alloc (.cells #[.slice none 0 0, .slice none 0 0, .slice none 0 0, .slice none 0 0] 30)).heap.size = w.heap.size + 2 := by simp
 have e3 : (((w.alloc (.cells #[.slice l.p l.n l.c] 25)).alloc (.cells #[.slice none 0 0, .slice none 0 0, .slice none 0 0, .slice none 0 0] 30)).alloc (.cells #[.int .i64 0] 3)).heap.size = w.heap.size + 3 := by simp
 have bA := bl_alloc w (.cells #[.slice l.p l.n l.c] 25)
 have bB := bl_alloc (w.alloc (.cells #[.slice l.p l.n l.c] 25)) (.cells #[.slice none 0 0, .slice none 0 0, .slice none 0 0, .slice none 0 0] 30)
 have bC := bl_alloc ((w.alloc (.cells #[.slice l.p l.n l.c] 25)).alloc (.cells #[.slice none 0 0, .slice none 0 0, .slice none 0 0, .slice none 0 0] 30)) (.cells #[.int .i64 0] 3)
 have bD := bl_alloc (((w.alloc (.cells #[.slice l.p l.n l.c] 25)).alloc (.cells #[.slice none 0 0, .slice none 0 0, .slice none 0 0, .slice none 0 0] 30)).alloc (.cells #[.int .i64 0] 3)) (.cells #[.slice none 0 0, .slice none 0 0, .slice none 0 0, .slice none 0 0] 30)
 have rb := range_newM (w.alloc (.cells #[.slice l.p l.n l.c] 25)) [.slice none 0 0, .slice none 0 0, .slice none 0 0, .slice none 0 0] 30
 have tb := there_newM (w.alloc (.cells #[.slice l.p l.n l.c] 25)) [.slice none 0 0, .slice none 0 0, .slice none 0 0, .slice none 0 0] 30
 rw [e1] at rb tb
 have rd := range_newM (((w.alloc (.cells #[.slice l.p l.n l.c] 25)).alloc (.cells #[.slice none 0 0, .slice none 0 0, .slice none 0 0, .slice none 0 0] 30)).alloc (.cells #[.int .i64 0] 3)) [.slice none 0 0, .slice none 0 0, .slice none 0 0, .slice none 0 0] 30
 have td := there_newM (((w.alloc (.cells #[.slice l.p l.n l.c] 25)).alloc (.cells #[.slice none 0 0, .slice none 0 0, .slice none 0 0, .slice none 0 0] 30)).alloc (.cells #[.int .i64 0] 3)) [.slice none 0 0, .slice none 0 0, .slice none 0 0, .slice none 0 0] 30
 rw [e3] at rd td
 have ra := range_newM w [.slice l.p l.n l.c] 25
 have rc := range_newM ((w.alloc (.cells #[.slice l.p l.n l.c] 25)).alloc (.cells #[.slice none 0 0, .slice none 0 0, .slice none 0 0, .slice none 0 0] 30)) [.int .i64 0] 3
 have tc := there_newM ((w.alloc (.cells #[.slice l.p l.n l.c] 25)).alloc (.cells #[.slice none 0 0, .slice none 0 0, .slice none 0 0, .slice none 0 0] 30)) [.int .i64 0] 3
 rw [e2] at rc tc
 refine ⟨bl_trans (bl_trans (bl_trans bA bB) bC) bD, cell_keep (cell_keep (cell_keep (ra 0 _ rfl) bB) bC) bD, range_bl (range_bl rb bC) bD, there_bl (there_bl tb bC) bD, cell_keep (rc 0 _ rfl) bD, ?_, fun i hi => ?_, td, fun i hi => Rw.none _ _, fun i j _ _ _ k hk => (by have h0 : (none : Option Nat) = some k := hk; cases h0), (by simp)⟩
 ·have := (there_bl tc bD 0 (by simp)).2
  exact this
 ·match i, hi with
  | 0, _ => exact rd 0 _ rfl
  | 1, _ => exact rd 1 _ rfl
  | 2, _ => exact rd 2 _ rfl
  | 3, _ => exact rd 3 _ rfl
def Sl.hi (s : Sl) (b0 : Nat) : Prop := ∀ b o, 0 < s.n → s.p = some ⟨b, o, none⟩ → b0 ≤ b
theorem rw_hi {s : Sl} {x : World} {b0 b1 n : Nat} {v : Value} (hr : Rw x b0 v n) (ev : v = s.v) (hle : b1 ≤ b0) : s.hi b1 := by
 intro b o hn e
 obtain ⟨g, ho, _⟩ := hr
 have := (ho.lt b (by rw [ev]; unfold Sl.v; rw [e]; rfl)).1
 omega
theorem at_grown {s : Sl} {x y : World} {r b0 n : Nat} {v : Value} (h : s.at x) (hr : Rw x b0 v n) (ev : v = s.v) (hg : x.grownBy y (some r)) (hlt : r < b0) : s.at y := ⟨by
 obtain ⟨b, o, h1, h2⟩ := h.at'
 refine ⟨b, o, h1, fun hn => ?_⟩
 have e := h1 hn
 have hb : b0 ≤ b := by
  obtain ⟨g, ho, _⟩ := hr
  exact (ho.lt b (by rw [ev]; unfold Sl.v; rw [e]; rfl)).1
 have h4 := h2 hn
 exact ⟨fun k hk => gcell hg (h4.c0 k hk) (by omega), fun k hk => gcell hg (h4.c1 k hk) (by omega), fun k hk => gcell hg (h4.c2 k hk) (by omega), fun k hk => gcell hg (h4.c3 k hk) (by omega)⟩, h.ok⟩
theorem tsGates {w : World} {t m K : Nat} {Q : List (List Tm)} {x : World} (h : Ts w t m K Q x) : Calls Tryz.prog 15 #[.pointer (some ⟨t, 0, none⟩)] x fun e w' => e = .returned (.int .i64 (K : Int)) ∧ w' = x := by
 obtain ⟨base, v, vs, sy, hb, bl, wk⟩ := h
 exact Gates_any sy
theorem tsValues {w : World} {t m K : Nat} {Q : List (List Tm)} {x : World} (h : Ts w t m K Q x) : Calls Tryz.prog 27 #[.pointer (some ⟨t, 0, none⟩)] x fun e w' => e = .returned (.int .i64 (m : Int)) ∧ w' = x := by
 obtain ⟨base, v, vs, sy, hb, bl, wk⟩ := h
 exact Values_any sy
end Ci
end Go.Proofs.YthngomhhafoamaaGreatDoor
namespace Go.Proofs.YthngomhhafoamaaGreatDoor
open Go.RowKit
open Cm (Wr Tm co bf Ls lf ins Eqm)
namespace Ci
theorem Dj.ne {a b : Value} {x y n m c d : Nat} (h : Dj a b) (ha : a = .slice (some ⟨x, 0, none⟩) n c) (hb : b = .slice (some ⟨y, 0, none⟩) m d) : x ≠ y := fun e => h x (by rw [ha]; rfl) (by rw [hb, e]; rfl)
theorem rw_som {x : World} {b n : Nat} {v : Value} (h : Rw x b v n) (hn : 0 < n) : ∃ (gb c : Nat) (g : Nat → E4), v = .slice (some ⟨gb, 0, none⟩) n c ∧ b ≤ gb ∧ R4 x gb 0 n g ∧ (∀ k, k < n → (g k).ok) ∧ x.ownsRow b 35 4 (.slice (some ⟨gb, 0, none⟩) n c) n (s4s n g) := by
 obtain ⟨g, ho, hg⟩ := h
 rcases ho.2 with ⟨h1, h2⟩ | ⟨gb, c, cur, h1, hle, _⟩
 ·omega
 ·have key : ∀ k j u, k < n → ([.int .u64 (g k).x0, .int .u64 (g k).x1, .int .u64 (g k).x2, .int .u64 (g k).x3] : List Value)[j]? = some u → x.cell? ⟨gb, 0 + k * 4 + j, none⟩ = some u := fun k j u hk hu => by
   have hj : j < 4 := by have := (List.getElem?_eq_some_iff.1 hu).1; simpa using this
   have := ho.cells (g := gb) (by rw [h1]; rfl) (k * 4 + j) u (by rw [s4s_get n g k j hk hj]; exact hu)
   rw [Addr.add_mid] at this
   rw [Nat.add_assoc]
   exact this
  exact ⟨gb, c, g, h1, hle, ⟨fun k hk => key k 0 _ hk rfl, fun k hk => key k 1 _ hk rfl, fun k hk => key k 2 _ hk rfl, fun k hk => key k 3 _ hk rfl⟩, hg, by rw [← h1]; exact ho⟩
theorem s4s_set {n i : Nat} {g : Nat → E4} {z : E4} (hi : i < n) : ((((s4s n g).set (i * 4) (.int .u64 z.x0)).set (i * 4 + 1) (.int .u64 z.x1)).set (i * 4 + 2) (.int .u64 z.x2)).set (i * 4 + 3) (.int .u64 z.x3) = s4s n (fun j => if j = i then z else g j) := by
 refine List.ext_getElem? (fun q => ?_)
 by_cases hq : q < n * 4
 ·obtain ⟨k, j, rfl, hj⟩ : ∃ k j, q = k * 4 + j ∧ j < 4 := ⟨q / 4, q % 4, by omega, by omega⟩
  have hk : k < n := by omega
  rw [s4s_get n _ k j hk hj]
  have hl := s4s_len n g
  simp only [List.getElem?_set, List.length_set, hl]
  by_cases e : k = i
  ·subst e
   simp only [if_pos]
   match j, hj with
   | 0, _ => simp; omega
   | 1, _ => simp; omega
   | 2, _ => simp; omega
   | 3, _ => simp; omega
  ·rw [if_neg e, if_neg (by omega), if_neg (by omega), if_neg (by omega), if_neg (by omega), s4s_get n g k j hk hj]
 ·rw [List.getElem?_eq_none (by simp only [List.length_set, s4s_len]; omega), List.getElem?_eq_none (by rw [s4s_len]; omega)]
theorem _root_.Go.World.ownsRow.put4 {x : World} {b gb n c : Nat} {g : Nat → E4} (h : x.ownsRow b 35 4 (.slice (some ⟨gb, 0, none⟩) n c) n (s4s n g)) (g' : Nat → E4) (ok : ∀ k, k < n → (g k).ok) (i : Nat) (hi : i < n) (z : E4) (hz : z.ok) : Rw (x.setCells gb (i * 4) [.int .u64 z.x0, .int .u64 z.x1, .int .u64 z.x2, .int .u64 z.x3]) b (.slice (some ⟨gb, 0, none⟩) n c) n := by
 refine ⟨fun j => if j = i then z else g j, ?_, fun k hk => ?_⟩
 ·rw [← s4s_set hi]
  exact ((((h.stored (i * 4) (.int .u64 z.x0)).1.stored (i * 4 + 1) (.int .u64 z.x1)).1.stored (i * 4 + 2) (.int .u64 z.x2)).1.stored (i * 4 + 3) (.int .u64 z.x3)).1
 ·show (if k = i then z else g k).ok
  by_cases e : k = i
  ·rw [if_pos e]; exact hz
  ·rw [if_neg e]; exact ok k hk
theorem _root_.Go.World.ownsRow.there4 {x : World} {b gb n c : Nat} {g : Nat → E4} (h : x.ownsRow b 35 4 (.slice (some ⟨gb, 0, none⟩) n c) n (s4s n g)) (i : Nat) (hi : i < n) : x.there gb (i * 4) 4 := by
 intro j hj
 rcases h.2 with ⟨h1, h2⟩ | ⟨g', c', cur, h1, hle, hg, hn, hm, hs, ht⟩
 ·cases h1
 ·simp only [Value.slice.injEq, Option.some.injEq, Addr.mk.injEq, and_true, true_and] at h1
  obtain ⟨rfl, rfl⟩ := h1
  refine ⟨?_, frozen_of_row x gb _ cur _ hg⟩
  rw [cell_of_row x gb _ cur _ (0, 0) hg, Array.getElem?_eq_getElem (by omega)]
  rfl
structure Fw (b0 m K : Nat) (a b c d : Sl) (x : World) : Prop where
 ra : x.ownsRow b0 35 4 a.v K (s4s K a.g) ∧ ∀ k, k < K → (a.g k).ok
 rb : x.ownsRow b0 35 4 b.v K (s4s K b.g) ∧ ∀ k, k < K → (b.g k).ok
 rc : x.ownsRow b0 35 4 c.v K (s4s K c.g) ∧ ∀ k, k < K → (c.g k).ok
 rd : x.ownsRow b0 35 4 d.v m (s4s m d.g) ∧ ∀ k, k < m → (d.g k).ok
 ab : Dj a.v b.v
 ac : Dj a.v c.v
 ad : Dj a.v d.v
 bc : Dj b.v c.v
 bd : Dj b.v d.v
 cd : Dj c.v d.v
 na : a.n = K
 nb : b.n = K
 nc : c.n = K
 nd : d.n = m
theorem rw_sl2 {x : World} {b n : Nat} {v : Value} (h : Rw x b v n) : ∃ s : Sl, v = s.v ∧ s.n = n ∧ (x.ownsRow b 35 4 s.v n (s4s n s.g) ∧ ∀ k, k < n → (s.g k).ok) := by
 obtain ⟨g, ho, hg⟩ := h
 rcases ho.2 with ⟨h1, h2⟩ | ⟨gb, c, cur, h1, _⟩
 ·exact ⟨⟨.none, 0, 0, g⟩, h1, h2.symm, by show World.ownsRow x b _ 4 (.slice .none 0 0) n _; rw [← h1]; exact ho, hg⟩
 ·exact ⟨⟨some ⟨gb, 0, .none⟩, n, c, g⟩, h1, rfl, by show World.ownsRow x b _ 4 (.slice (some ⟨gb, 0, .none⟩) n c) n _; rw [← h1]; exact ho, hg⟩
theorem own_low {x y : World} {b n r s : Nat} {e : TypeId} {v : Value} {xs : List Value} (ho : x.ownsRow b e s v n xs) (hg : x.grownBy y (some r)) (hr : r < b) : y.ownsRow b e s v n xs := ho.kept hg (by
  cases hv : v.ownBlock with
  | none => exact .inl rfl
  | some k => exact .inr (fun e => by have := (ho.lt k hv).1; have := Option.some.inj e; omega))
theorem Fi.row {w : World} {l : Sl} {k : Nat} {C R : Nat → Value} {n : Nat → Nat} {x y : World} (h : Fi w l k C R n x) (j : Nat) (hj : j < 4) (hg : x.grownBy y (R j).ownBlock) (hr : Rw y (w.heap.size + 4) (R j) (n j)) : Fi w l k C R n y := by
 obtain ⟨g0, ho0, _⟩ := h.rw j hj
 have hlow : ∀ b, b < w.heap.size + 4 → some b ≠ (R j).ownBlock := fun b hb e => by have := (ho0.lt b e.symm).1; omega
 refine ⟨h.bel.grown hg h.bel.size (fun i hi => by have := (ho0.lt i hi).1; omega), gcellR hg h.lc (hlow _ (by omega)), fun d u hu => gcellR hg (h.rz d u hu) (hlow _ (by omega)), there_gbR h.rt hg (hlow _ (by omega)), gcellR hg h.ac (hlow _ (by omega)), ?_, fun i hi => gcellR hg (h.tc i hi) (hlow _ (by omega)), there_gbR h.tt hg (hlow _ (by omega)), fun i hi => ?_, h.dj, Nat.le_trans h.sz hg.size⟩
 ·have := h.af
  unfold World.frozen? at this ⊢
  rw [hg.block (w.heap.size + 2) (by have := h.sz; omega) (hlow _ (by omega))]
  exact this
 ·by_cases e : i = j
  ·rw [e]; exact hr
  ·exact (h.rw i hi).other (h.dj j i hj hi (fun e2 => e e2.symm)) hg
def pXz20 : String := "outright.go:60"
def fg9o_0 : Oper := oO 41 (Op.fieldAddr 30 (Operand.tmp 9) 2) 0 pXz20 #[]
def fg9o_1 : Oper := oO 42 (Op.load 25 (Operand.tmp 41)) 25 pXz20 #[DD 0]
def fg9o_2 : Oper := oO 43 (Op.move (Operand.tmp 10)) 3 pXz20 #[]
def fg9o_3 : Oper := oO 44 (Op.fieldAddr 30 (Operand.tmp 9) 0) 0 pXz20 #[]
def fg9o_4 : Oper := oO 45 (Op.load 25 (Operand.tmp 44)) 25 pXz20 #[DD 3]
def fg9o_5 : Oper := oO 46 (Op.move (Operand.tmp 10)) 3 pXz20 #[]
def fg9o_6 : Oper := oO 47 (Op.indexAddr 25 (Operand.tmp 45) (Operand.tmp 46)) 0 pXz20 #[DD 4, DD 5]
def fg9o_7 : Oper := oO 48 (Op.load 35 (Operand.tmp 47)) 35 pXz20 #[DD 6]
def fg9o_8 : Oper := oO 49 (Op.fieldAddr 30 (Operand.tmp 9) 1) 0 pXz20 #[]
def fg9o_9 : Oper := oO 50 (Op.load 25 (Operand.tmp 49)) 25 pXz20 #[DD 8]
def fg9o_10 : Oper := oO 51 (Op.move (Operand.tmp 10)) 3 pXz20 #[]
def fg9o_11 : Oper := oO 52 (Op.indexAddr 25 (Operand.tmp 50) (Operand.tmp 51)) 0 pXz20 #[DD 9, DD 10]
def fg9o_12 : Oper := oO 53 (Op.load 35 (Operand.tmp 52)) 35 pXz20 #[DD 11]
def fg9o_13 : Oper := oO 54 (Op.call { callee := Callee.value (Operand.func 10), args := #[Operand.tmp 48, Operand.tmp 53], argTypes := #[35, 35] }) 35 pXz20 #[DD 7, DD 12]
def fg9o_14 : Oper := oO 55 (Op.indexAddr 25 (Operand.tmp 42) (Operand.tmp 43)) 0 pXz20 #[DD 1, DD 2, PH 0, PH 1, PH 2, PH 3, PH 4, PH 5, PH 6, PH 7, PH 8, PH 9, PH 10, PH 11, PH 12, PH 13]
def fg9o_15 : Oper := oN (Op.store 35 (Operand.tmp 55) (Operand.tmp 54)) pXz20 #[DD 14, DD 13, CH 13, PH 0, PH 1, PH 2, PH 3, PH 4, PH 5, PH 6, PH 7, PH 8, PH 9, PH 10, PH 11, PH 12, PH 13]
def fg9o : Array Oper := #[fg9o_0, fg9o_1, fg9o_2, fg9o_3, fg9o_4, fg9o_5, fg9o_6, fg9o_7, fg9o_8, fg9o_9, fg9o_10, fg9o_11, fg9o_12, fg9o_13, fg9o_14, fg9o_15]
theorem fg9 (Q : Exit → Act → World → Prop) (fb ii b0 n0 c0 b1 n1 c1 b2 n2 c2 : Nat) (p q r : E4) (u0 u1 u2 u3 u4 u5 u6 u7 u8 ae ag ah ai aj ak al am an ao ap aq au av aw ax ay az aA aB aC aD aE aF aG aH aI aJ aK aL aM aN aO aP aQ aR aS aT aU aV aW aX aY aZ a4 a5 a6 a7 a8 a9 ba bb be bg bh bi bj bk bl : Value) (W : World)
  (j0 : (0 : Int) ≤ (ii : Int)) (i0 : (ii : Int) < (n0 : Int)) (i1 : (ii : Int) < (n1 : Int)) (i2 : (ii : Int) < (n2 : Int)) (nf : fb ≠ b2) (n02 : b0 ≠ b2) (n12 : b1 ≠ b2) (th : W.there b2 (ii * 4) 4)
  (t0 : W.cell? ⟨fb, 0, none⟩ = some (.slice (some ⟨b0, 0, none⟩) n0 c0)) (t1 : W.cell? ⟨fb, 1, none⟩ = some (.slice (some ⟨b1, 0, none⟩) n1 c1)) (t2 : W.cell? ⟨fb, 2, none⟩ = some (.slice (some ⟨b2, 0, none⟩) n2 c2)) (p0 : W.cell? ⟨b0, ii * 4, none⟩ = some (.int .u64 p.x0)) (p1 : W.cell? ⟨b0, ii * 4 + 1, none⟩ = some (.int .u64 p.x1)) (p2 : W.cell? ⟨b0, ii * 4 + 2, none⟩ = some (.int .u64 p.x2)) (p3 : W.cell? ⟨b0, ii * 4 + 3, none⟩ = some (.int .u64 p.x3)) (q0 : W.cell? ⟨b1, ii * 4, none⟩ = some (.int .u64 q.x0)) (q1 : W.cell? ⟨b1, ii * 4 + 1, none⟩ = some (.int .u64 q.x1)) (q2 : W.cell? ⟨b1, ii * 4 + 2, none⟩ = some (.int .u64 q.x2)) (q3 : W.cell? ⟨b1, ii * 4 + 3, none⟩ = some (.int .u64 q.x3))
  (C13 : Hid (∀ y, Below W.heap.size W y → Calls Tryz.prog 10 #[.agg #[.int .u64 p.x0, .int .u64 p.x1, .int .u64 p.x2, .int .u64 p.x3], .agg #[.int .u64 q.x0, .int .u64 q.x1, .int .u64 q.x2, .int .u64 q.x3]] y fun e w' => e = .returned (.agg #[.int .u64 r.x0, .int .u64 r.x1, .int .u64 r.x2, .int .u64 r.x3]) ∧ Below y.heap.size y w'))
  (HQ : Hid (∀ (wz : World), (∃ wy, Below W.heap.size W wy ∧ wz = wy.setCells b2 (ii * 4) [.int .u64 r.x0, .int .u64 r.x1, .int .u64 r.x2, .int .u64 r.x3]) → Q .normal ⟨#[u0, u1, u2, u3, u4, u5, u6, u7, u8, .pointer (some ⟨fb, 0, none⟩), .int .i64 (ii : Int), ae, ag, ah, ai, aj, ak, al, am, an, ao, ap, aq, au, av, aw, ax, ay, az, aA, aB, aC, aD, aE, aF, aG, aH, aI, aJ, aK, aL, .pointer (some ⟨fb, 2, none⟩), .slice (some ⟨b2, 0, none⟩) n2 c2, .int .i64 (ii : Int), .pointer (some ⟨fb, 0, none⟩), .slice (some ⟨b0, 0, none⟩) n0 c0, .int .i64 (ii : Int), .pointer (some ⟨b0, ii * 4, none⟩), .agg #[.int .u64 p.x0, .int .u64 p.x1, .int .u64 p.x2, .int .u64 p.x3], .pointer (some ⟨fb, 1, none⟩), .slice (some ⟨b1, 0, none⟩) n1 c1, .int .i64 (ii : Int), .pointer (some ⟨b1, ii * 4, none⟩), .agg #[.int .u64 q.x0, .int .u64 q.x1, .int .u64 q.x2, .int .u64 q.x3], .agg #[.int .u64 r.x0, .int .u64 r.x1, .int .u64 r.x2, .int .u64 r.x3], .pointer (some ⟨b2, ii * 4, none⟩), a5, a6, a7, a8, a9, ba, bb, be, bg, bh, bi, bj, bk, bl], []⟩ wz)) : (Code.region 9 fg9o true).wp Tryz.prog Q ⟨#[u0, u1, u2, u3, u4, u5, u6, u7, u8, .pointer (some ⟨fb, 0, none⟩), .int .i64 (ii : Int), ae, ag, ah, ai, aj, ak, al, am, an, ao, ap, aq, au, av, aw, ax, ay, az, aA, aB, aC, aD, aE, aF, aG, aH, aI, aJ, aK, aL, aM, aN, aO, aP, aQ, aR, aS, aT, aU, aV, aW, aX, aY, aZ, a4, a5, a6, a7, a8, a9, ba, bb, be, bg, bh, bi, bj, bk, bl], []⟩ W := by
 have BB := Hn (bl_drew W)
 unfold fg9o
 refine wp_region_noPanic ?_
 refine wp_region_held_drew (S := fun x => W.grownBy x (some b2)) (by kernel_rfl) (gbI (bl_drew W) _) (fun hH0 => ?_)
 refine tj 0 fg9o_0 (.pointer (some ⟨fb, 2, none⟩)) hH0 (fun w0 hSw => ?_) ?_
 ·(unfold fg9o_0 oO; clear hSw; go_simp)
 simp only [fg9o_0, oO, Act.put, sA, sB, sC]
 refine tj 2 fg9o_2 (.int .i64 (ii : Int)) hH0 (fun w0 hSw => ?_) ?_
 ·(unfold fg9o_2 oO; clear hSw; go_simp)
 simp only [fg9o_2, oO, Act.put, sA, sB, sC]
 refine tj 3 fg9o_3 (.pointer (some ⟨fb, 0, none⟩)) hH0 (fun w0 hSw => ?_) ?_
 ·(unfold fg9o_3 oO; clear hSw; go_simp)
 simp only [fg9o_3, oO, Act.put, sA, sB, sC]
 refine tj 5 fg9o_5 (.int .i64 (ii : Int)) hH0 (fun w0 hSw => ?_) ?_
 ·(unfold fg9o_5 oO; clear hSw; go_simp)
 simp only [fg9o_5, oO, Act.put, sA, sB, sC]
 refine tj 8 fg9o_8 (.pointer (some ⟨fb, 1, none⟩)) hH0 (fun w0 hSw => ?_) ?_
 ·(unfold fg9o_8 oO; clear hSw; go_simp)
 simp only [fg9o_8, oO, Act.put, sA, sB, sC]
 refine tj 10 fg9o_10 (.int .i64 (ii : Int)) hH0 (fun w0 hSw => ?_) ?_
 ·(unfold fg9o_10 oO; clear hSw; go_simp)
 simp only [fg9o_10, oO, Act.put, sA, sB, sC]
 refine tj 1 fg9o_1 (.slice (some ⟨b2, 0, none⟩) n2 c2) hH0 (fun w0 hSw => ?_) ?_
 ·(unfold fg9o_1 oO; have hS : W.grownBy w0 (some b2) := hSw; have a0 := hS.cell t2 (fun e => nf (Option.some.inj e)); clear hS hSw; go_simp)
 simp only [fg9o_1, oO, Act.put, sA, sB, sC]
 refine tj 4 fg9o_4 (.slice (some ⟨b0, 0, none⟩) n0 c0) hH0 (fun w0 hSw => ?_) ?_
 ·(unfold fg9o_4 oO; have hS : W.grownBy w0 (some b2) := hSw; have a0 := hS.cell t0 (fun e => nf (Option.some.inj e)); clear hS hSw; go_simp)
 simp only [fg9o_4, oO, Act.put, sA, sB, sC]
 refine tj 9 fg9o_9 (.slice (some ⟨b1, 0, none⟩) n1 c1) hH0 (fun w0 hSw => ?_) ?_
 ·(unfold fg9o_9 oO; have hS : W.grownBy w0 (some b2) := hSw; have a0 := hS.cell t1 (fun e => nf (Option.some.inj e)); clear hS hSw; go_simp)
 simp only [fg9o_9, oO, Act.put, sA, sB, sC]
 refine tj 6 fg9o_6 (.pointer (some ⟨b0, ii * 4, none⟩)) hH0 (fun w0 hSw => ?_) ?_
 ·(unfold fg9o_6 oO; clear hSw; go_simp)
 simp only [fg9o_6, oO, Act.put, sA, sB, sC]
 refine tj 11 fg9o_11 (.pointer (some ⟨b1, ii * 4, none⟩)) hH0 (fun w0 hSw => ?_) ?_
 ·(unfold fg9o_11 oO; clear hSw; go_simp)
 simp only [fg9o_11, oO, Act.put, sA, sB, sC]
 refine tj 7 fg9o_7 (.agg #[.int .u64 p.x0, .int .u64 p.x1, .int .u64 p.x2, .int .u64 p.x3]) hH0 (fun w0 hSw => ?_) ?_
 ·(unfold fg9o_7 oO; have hS : W.grownBy w0 (some b2) := hSw; have a0 := hS.cell p0 (fun e => n02 (Option.some.inj e)); have a1 := hS.cell p1 (fun e => n02 (Option.some.inj e)); have a2 := hS.cell p2 (fun e => n02 (Option.some.inj e)); have a3 := hS.cell p3 (fun e => n02 (Option.some.inj e)); clear hS hSw; go_simp)
 simp only [fg9o_7, oO, Act.put, sA, sB, sC]
 refine tj 12 fg9o_12 (.agg #[.int .u64 q.x0, .int .u64 q.x1, .int .u64 q.x2, .int .u64 q.x3]) hH0 (fun w0 hSw => ?_) ?_
 ·(unfold fg9o_12 oO; have hS : W.grownBy w0 (some b2) := hSw; have a0 := hS.cell q0 (fun e => n12 (Option.some.inj e)); have a1 := hS.cell q1 (fun e => n12 (Option.some.inj e)); have a2 := hS.cell q2 (fun e => n12 (Option.some.inj e)); have a3 := hS.cell q3 (fun e => n12 (Option.some.inj e)); clear hS hSw; go_simp)
 simp only [fg9o_12, oO, Act.put, sA, sB, sC]
 refine ar [13] ?_
 refine ac fg9o_13 (fun K hK => ?_) AllReadyH.nil
 unfold fg9o_13 oO
 have HH := Hn hH0
 clear hH0
 go_simp
 refine (C13.out _ BB.out).mono ?_
 rintro e wn1 ⟨rfl, hb⟩
 replace BB := Hn (bl_trans BB.out hb)
 have SN := Hn (HH.out.trans (gbI hb _))
 clear HH C13 hb
 go_wp2_with fail
 refine hK.out _ _ SN.out (fun hH1 => ?_)
 clear hK K SN
 refine tj 14 fg9o_14 (.pointer (some ⟨b2, ii * 4, none⟩)) hH1 (fun w0 hSw => ?_) ?_
 ·(unfold fg9o_14 oO; clear hSw; go_simp)
 simp only [fg9o_14, oO, Act.put, sA, sB, sC]
 refine ar [15] ?_
 refine ac fg9o_15 (fun K hK => ?_) AllReadyH.nil
 unfold fg9o_15 oN
 have HH := Hn hH1
 clear hH1
 refine wp_storeE 35 _ _ rfl b2 (ii * 4) ([.int .u64 r.x0, .int .u64 r.x1, .int .u64 r.x2, .int .u64 r.x3]) (by rfl) (by rfl) (there_bl th BB.out) i4_s (one4 r) rfl (fun wn2 hw => ?_)
 have SN := Hn (HH.out.trans (gb_setCells b2 [.int .u64 r.x0, .int .u64 r.x1, .int .u64 r.x2, .int .u64 r.x3] (ii * 4) _))
 have FE := Hn ((⟨_, BB.out, hw⟩ : ∃ wy, Below W.heap.size W wy ∧ _ = wy.setCells b2 (ii * 4) [.int .u64 r.x0, .int .u64 r.x1, .int .u64 r.x2, .int .u64 r.x3]))
 rw [← hw] at SN
 clear HH hw
 refine hK.out _ _ SN.out (fun hH2 => ?_)
 clear hK K SN
 have HH := Hn hH2
 have FQ := Hn (HQ.out _ FE.out)
 refine wpAnyH_done (by kernel_rfl) ?_ _
 refine NoPanic.normal ?_
 exact FQ.out
theorem fittedW_any {w9 : World} {t m K : Nat} {Q : List (List Tm)} (l : Sl) (w : World) (hT : Tb w) (hts : Ts w9 t m K Q w) (hm : m ≤ 4096) (hl : l.at w) (hln : l.n ≤ 1048576) :
  Calls Tryz.prog 6 #[.pointer (some ⟨t, 0, none⟩), .slice l.p l.n l.c, .bool true] w fun e w' => ∃ a b c d : Sl, e = .returned (.agg #[a.v, b.v, c.v, d.v]) ∧ Fw (w.heap.size + 4) m K a b c d w' ∧ Below w.heap.size w w' := by
 have F0 := Hn (fi_start w l)
 have CN := Hn (fun (k' : Nat) (C R : Nat → Value) (n : Nat → Nat) (x : World) (hk : k' ≤ 1000000) (h : Fi w l k' C R n x) => fi_next hT hl hk hln h)
 have HTS := Hn hts
 have HKM := Hn (And.intro hts.wk.k hm)
 have CG := Hn (fun y (hb : Below w.heap.size w y) => tsGates (hts.keep hb))
 have CV := Hn (fun y (hb : Below w.heap.size w y) => tsValues (hts.keep hb))
 have HTB := Hn hT
 clear hT hts hm hl hln
 go_enter Tryz.func6, Tryz.ntmps6
 go_upto_region 4 with fail
 generalize ((((w.alloc (.cells #[.slice l.p l.n l.c] 25)).alloc (.cells #[.slice none 0 0, .slice none 0 0, .slice none 0 0, .slice none 0 0] 30)).alloc (.cells #[.int .i64 0] 3)).alloc (.cells #[.slice none 0 0, .slice none 0 0, .slice none 0 0, .slice none 0 0] 30)) = w4 at *
 rw [show w.heap.size + 1 + 1 + 1 = w.heap.size + 3 from rfl, show w.heap.size + 1 + 1 = w.heap.size + 2 from rfl]
 go_upto_region 5 with fail
 go_loopw [10] (fun iv x => ∃ (i : Nat) (R : Nat → Value) (n : Nat → Nat), i ≤ K ∧ iv = .int .i64 (i : Int) ∧ Hid (Fi w l (3 * i) R R n x) ∧ Hid (n 0 = i ∧ n 1 = i ∧ n 2 = i ∧ n 3 = 0)) (fun i _ => K - (intOf i).toNat)
 case atStart => exact ⟨0, nilF, fun _ => 0, by omega, rfl, F0, Hn ⟨rfl, rfl, rfl, rfl⟩⟩
 case round =>
  clear F0
  obtain ⟨i, R, n, hi, rfl, hF, hN⟩ := hrel
  have CG1 := Hn (CG.out _ hF.out.bel)
  by_cases hin : i < K
  ·have i1 : (i : Int) < (K : Int) := by omega
   have w9' : IntKind.i64.wrap ((i : Int) + 1) = (i : Int) + 1 := IntWalk.i64_in _ (by have := HKM.out; omega)
   go_upto_region 7 with (go_at_call 15; refine CG1.out.mono ?_; rintro e wx ⟨rfl, hwx⟩; have hw2 := hwx.symm; clear hwx; subst hw2)
   refine ff7 _ w l (3 * i) R n _ _ _ _ _ _ _ _ _ _ _ _ _ _ _ _ _ _ _ _ _ _ _ _ _ _ _ _ _ _ _ _ _ _ _ _ _ _ _ _ _ _ _ _ _ _ _ _ _ _ _ _ _ _ _ _ _ _ _ _ _ _ _ _ _ _ _ _ wr ⟨hF, CN, Hn (by have := HKM.out; omega), Hn (by have := HKM.out; have := hN.out; omega), Hn (by have := HKM.out; have := hN.out; omega), Hn (by have := HKM.out; have := hN.out; omega)⟩ (Hn ?_)
   intro wz r1 r2 r3 t1 t2 t3 v1 v2 v3 hf
   have NF : Hid (Fi w l (3 * (i + 1)) (upd (upd (upd R 0 v1) 1 v2) 2 v3) (upd (upd (upd R 0 v1) 1 v2) 2 v3) (upd (upd (upd n 0 (n 0 + 1)) 1 (n 1 + 1)) 2 (n 2 + 1)) wz) := Hn hf
   have NN : Hid (upd (upd (upd n 0 (n 0 + 1)) 1 (n 1 + 1)) 2 (n 2 + 1) 0 = i + 1 ∧ upd (upd (upd n 0 (n 0 + 1)) 1 (n 1 + 1)) 2 (n 2 + 1) 1 = i + 1 ∧ upd (upd (upd n 0 (n 0 + 1)) 1 (n 1 + 1)) 2 (n 2 + 1) 2 = i + 1 ∧ upd (upd (upd n 0 (n 0 + 1)) 1 (n 1 + 1)) 2 (n 2 + 1) 3 = 0) := Hn (by
    obtain ⟨a0, a1, a2, a3⟩ := hN.out
    exact ⟨congrArg (· + 1) a0, congrArg (· + 1) a1, congrArg (· + 1) a2, a3⟩)
   clear hf hF hN CG1
   go_upto_region 9 with fail
   obtain ⟨b0, c0, g0, e0, l0, r0, o0, h0⟩ := rw_som (NF.out.rw 0 (by omega)) (by have := NN.out.1; omega)
   obtain ⟨b1, c1, g1, e1, l1, r1, o1, h1⟩ := rw_som (NF.out.rw 1 (by omega)) (by have := NN.out.2.1; omega)
   obtain ⟨b2, c2, g2, e2, l2, r2, o2, h2⟩ := rw_som (NF.out.rw 2 (by omega)) (by have := NN.out.2.2.1; omega)
   have d02 := (NF.out.dj 0 2 (by omega) (by omega) (by omega)).ne e0 e2
   have d12 := (NF.out.dj 1 2 (by omega) (by omega) (by omega)).ne e1 e2
   have t0 := NF.out.tc 0 (by omega)
   have t1 := NF.out.tc 1 (by omega)
   have t2 := NF.out.tc 2 (by omega)
   rw [e0] at t0
   rw [e1] at t1
   rw [e2] at t2
   have m0 := NN.out.1
   have m1 := NN.out.2.1
   have m2 := NN.out.2.2.1
   have C13 : Hid (∀ y, Below wz.heap.size wz y → _) := Hn (fun y hb => fix (R := lst ((g0 i).n * (g1 i).n)) (Mul_any (g0 i) (g1 i) y (HTB.out.keep (bl_trans NF.out.bel hb)) (o0 i (by omega)) (o1 i (by omega))) rfl)
   simp only [E4.v] at C13
   have p0 := r0.c0 i (by omega)
   have p1 := r0.c1 i (by omega)
   have p2 := r0.c2 i (by omega)
   have p3 := r0.c3 i (by omega)
   have q0 := r1.c0 i (by omega)
   have q1 := r1.c1 i (by omega)
   have q2 := r1.c2 i (by omega)
   have q3 := r1.c3 i (by omega)
   rw [Nat.zero_add] at p0 p1 p2 p3 q0 q1 q2 q3
   refine fg9 _ (w.heap.size + 3) i b0 _ c0 b1 _ c1 b2 _ c2 (g0 i) (g1 i) (lst ((g0 i).n * (g1 i).n)) _ _ _ _ _ _ _ _ _ _ _ _ _ _ _ _ _ _ _ _ _ _ _ _ _ _ _ _ _ _ _ _ _ _ _ _ _ _ _ _ _ _ _ _ _ _ _ _ _ _ _ _ _ _ _ _ _ _ _ _ _ _ _ _ _ _ _ _ wz (by omega) (by omega) (by omega) (by omega) (by omega) d02 d12 (h2.there4 i (by omega)) t0 t1 t2 p0 p1 p2 p3 q0 q1 q2 q3 C13 (Hn ?_)
   intro wy hz
   have NF2 : Hid (Fi w l (3 * (i + 1)) (upd (upd (upd R 0 v1) 1 v2) 2 v3) (upd (upd (upd R 0 v1) 1 v2) 2 v3) (upd (upd (upd n 0 (n 0 + 1)) 1 (n 1 + 1)) 2 (n 2 + 1)) wy) := Hn (by
    obtain ⟨wq, hy, rfl⟩ := hz
    exact (NF.out.keep hy).row 2 (by omega) (by rw [e2]; exact gb_setCells b2 _ (i * 4) wq) (by
     rw [e2]
     exact (own_keepT h2 hy).put4 g2 o2 i (by omega) _ (lst_ok _)))
   clear hz C13 p0 p1 p2 p3 q0 q1 q2 q3 t0 t1 t2 m0 m1 m2 d02 d12 e0 e1 e2 l0 l1 l2 r0 r1 r2 o0 o1 o2 h0 h1 h2 NF
   go_wp2_with fail
   go_roundw
   case rel => exact ⟨_, _, _, _, _, _, _, _, _, _, _, _, _, _, _, _, _, _, _, _, _, _, _, _, _, _, _, _, _, _, _, _, _, _, _, _, _, _, _, _, _, _, _, _, ⟨i + 1, _, _, by omega, by go_num, NF2, NN⟩, rfl⟩
   case measure => simp [intOf]; omega
  ·obtain rfl : i = K := by omega
   have lq : ¬ (i : Int) < (i : Int) := by omega
   go_upto_region 10 with (go_at_call 15; refine CG1.out.mono ?_; rintro e wx ⟨rfl, hwx⟩; have hw2 := hwx.symm; clear hwx; subst hw2)
   clear CG1 lq
   go_upto_region 11 with fail
   go_loopw [11] (fun iv x => ∃ (j : Nat) (R : Nat → Value) (n : Nat → Nat), j ≤ m ∧ iv = .int .i64 (j : Int) ∧ Hid (Fi w l (3 * i + j) R R n x) ∧ Hid (n 0 = i ∧ n 1 = i ∧ n 2 = i ∧ n 3 = j)) (fun j _ => m - (intOf j).toNat)
   case atStart => exact ⟨0, R, n, by omega, rfl, hF, hN⟩
   case round =>
    clear hF hN
    obtain ⟨j, R, n, hj, rfl, hF, hN⟩ := hrel
    have CV1 := Hn (CV.out _ hF.out.bel)
    by_cases hjn : j < m
    ·have i1 : (j : Int) < (m : Int) := by omega
     have w9' : IntKind.i64.wrap ((j : Int) + 1) = (j : Int) + 1 := IntWalk.i64_in _ (by have := HKM.out; omega)
     go_upto_region 13 with (go_at_call 27; refine CV1.out.mono ?_; rintro e wx ⟨rfl, hwx⟩; have hw2 := hwx.symm; clear hwx; subst hw2)
     refine ff13 _ w l (3 * i + j) R n _ _ _ _ _ _ _ _ _ _ _ _ _ _ _ _ _ _ _ _ _ _ _ _ _ _ _ _ _ _ _ _ _ _ _ _ _ _ _ _ _ _ _ _ _ _ _ _ _ _ _ _ _ _ _ _ _ _ _ _ _ _ _ _ _ _ _ _ wr ⟨hF, CN, Hn (by have := HKM.out; omega), Hn (by have := HKM.out; have := hN.out; omega)⟩ (Hn ?_)
     intro wz r1 t1 v1 hf
     have NF : Hid (Fi w l (3 * i + (j + 1)) (upd R 3 v1) (upd R 3 v1) (upd n 3 (n 3 + 1)) wz) := Hn hf
     have NN : Hid (upd n 3 (n 3 + 1) 0 = i ∧ upd n 3 (n 3 + 1) 1 = i ∧ upd n 3 (n 3 + 1) 2 = i ∧ upd n 3 (n 3 + 1) 3 = j + 1) := Hn (by
      obtain ⟨a0, a1, a2, a3⟩ := hN.out
      exact ⟨a0, a1, a2, congrArg (· + 1) a3⟩)
     clear hf hF hN CV1
     go_wp2_with fail
     go_roundw
     case rel => exact ⟨_, _, _, _, _, _, _, _, _, _, _, _, _, _, ⟨j + 1, _, _, by omega, by go_num, NF, NN⟩, rfl⟩
     case measure => simp [intOf]; omega
    ·obtain rfl : j = m := by omega
     have lq : ¬ (j : Int) < (j : Int) := by omega
     obtain ⟨a, ea, na, aa⟩ := rw_sl2 (hF.out.rw 0 (by omega))
     obtain ⟨b, eb, nb, ab⟩ := rw_sl2 (hF.out.rw 1 (by omega))
     obtain ⟨c, ec, nc, ac⟩ := rw_sl2 (hF.out.rw 2 (by omega))
     obtain ⟨d, ed, nd, ad⟩ := rw_sl2 (hF.out.rw 3 (by omega))
     have c0 := hF.out.tc 0 (by omega)
     have c1 := hF.out.tc 1 (by omega)
     have c2 := hF.out.tc 2 (by omega)
     have c3 := hF.out.tc 3 (by omega)
     rw [ea] at c0
     rw [eb] at c1
     rw [ec] at c2
     rw [ed] at c3
     simp only [Sl.v] at c0 c1 c2 c3
     have z0 := hF.out.rz 0 _ rfl
     have z1 := hF.out.rz 1 _ rfl
     have z2 := hF.out.rz 2 _ rfl
     have z3 := hF.out.rz 3 _ rfl
     simp only [Nat.zero_add] at z0 z1 z2 z3
     have f0 := (hF.out.rt 0 (by omega)).2
     have f1 := (hF.out.rt 1 (by omega)).2
     have f2 := (hF.out.rt 2 (by omega)).2
     have f3 := (hF.out.rt 3 (by omega)).2
     simp only [Nat.zero_add] at f0 f1 f2 f3
     have GS := gb_setCells (w.heap.size + 1) [.slice a.p a.n a.c, .slice b.p b.n b.c, .slice c.p c.n c.c, .slice d.p d.n d.c] 0 wr
     have FW : Hid (Fw (w.heap.size + 4) (n 3) (n 0) a b c d (wr.setCells (w.heap.size + 1) 0 [.slice a.p a.n a.c, .slice b.p b.n b.c, .slice c.p c.n c.c, .slice d.p d.n d.c])) := Hn (by
      have e1 := hN.out.1.trans hN.out.2.1.symm
      have e2 := hN.out.1.trans hN.out.2.2.1.symm
      refine ⟨⟨own_low aa.1 GS (by omega), aa.2⟩, ⟨e1 ▸ own_low ab.1 GS (by omega), e1 ▸ ab.2⟩, ⟨e2 ▸ own_low ac.1 GS (by omega), e2 ▸ ac.2⟩, ⟨own_low ad.1 GS (by omega), ad.2⟩, ea ▸ eb ▸ hF.out.dj 0 1 (by omega) (by omega) (by omega), ea ▸ ec ▸ hF.out.dj 0 2 (by omega) (by omega) (by omega), ea ▸ ed ▸ hF.out.dj 0 3 (by omega) (by omega) (by omega), eb ▸ ec ▸ hF.out.dj 1 2 (by omega) (by omega) (by omega), eb ▸ ed ▸ hF.out.dj 1 3 (by omega) (by omega) (by omega), ec ▸ ed ▸ hF.out.dj 2 3 (by omega) (by omega) (by omega), na, nb.trans e1.symm, nc.trans e2.symm, nd⟩)
     rw [hN.out.1, hN.out.2.2.2] at FW
     have BG := Hn (hF.out.bel.grown GS hF.out.bel.size (fun i hi => by have := Option.some.inj hi; omega))
     clear GS hF hN ea eb ec ed na nb nc nd aa ab ac ad
     go_wp2_with (go_at_call 27; refine CV1.out.mono ?_; rintro e wx ⟨rfl, hwx⟩; have hw2 := hwx.symm; clear hwx; subst hw2)
     exact bodyPost_ret (v := .agg #[.slice a.p a.n a.c, .slice b.p b.n b.c, .slice c.p c.n c.c, .slice d.p d.n d.c]) (by simp [results, Tryz.results6, go_sem, z0, z1, z2, z3]) rfl ⟨a, b, c, d, rfl, FW.out, BG.out⟩
end Ci
end Go.Proofs.YthngomhhafoamaaGreatDoor
namespace Go.Proofs.YthngomhhafoamaaGreatDoor
open Go.RowKit
open Cm (Wr Tm co bf Ls lf ins Eqm)
open Tr (By cb vn vn_len)
namespace Ci
theorem enB_pos (m K : Nat) (Q : List (List Tm)) : 1 ≤ (enB m K Q).length := by
 have := (vn_len m).1
 unfold enB
 rw [List.length_append, List.length_append, List.length_append]
 omega
section
variable {w : World} {t m K : Nat} {Q : List (List Tm)} {x : World}
def mulOk (m K : Nat) (Q : List (List Tm)) (a b : Lf) : Prop := nm m K (lf Sm.L (glL a.n a.f)).length (ft (lf Sm.L (glL a.n a.f))) = true ∧ nm m K (lf Sm.L (glL b.n b.f)).length (ft (lf Sm.L (glL b.n b.f))) = true ∧ Q.length ≤ 4094 ∧ K < 1024
end
def Sl.upd (a : Sl) (k : Nat) (z : E4) : Sl := ⟨a.p, a.n, a.c, fun j => if j = k then z else a.g j⟩
section
variable {b0 m K : Nat} {a b c d : Sl} {x y : World}
theorem own_at {n : Nat} {s : Sl} (h : x.ownsRow b0 35 4 s.v n (s4s n s.g) ∧ ∀ k, k < n → (s.g k).ok) (hn : s.n = n) : s.at x := by
 obtain ⟨ho, hg⟩ := h
 obtain ⟨P, n', cc, g⟩ := s
 obtain rfl : n' = n := hn
 rcases ho.2 with ⟨h1, h2⟩ | ⟨gb, c', cur, h1, hle, _⟩
 ·subst h2
  exact ⟨⟨0, 0, fun h => absurd h (Nat.lt_irrefl 0), fun h => absurd h (Nat.lt_irrefl 0)⟩, hg⟩
 ·have hp : P = some ⟨gb, 0, none⟩ := by
   have h1' : Value.slice P n' cc = .slice (some ⟨gb, 0, none⟩) n' c' := h1
   simp only [Value.slice.injEq] at h1'
   exact h1'.1
  have key : ∀ k j u, k < n' → ([.int .u64 (g k).x0, .int .u64 (g k).x1, .int .u64 (g k).x2, .int .u64 (g k).x3] : List Value)[j]? = some u → x.cell? ⟨gb, 0 + k * 4 + j, none⟩ = some u := fun k j u hk hu => by
   have hj : j < 4 := by have := (List.getElem?_eq_some_iff.1 hu).1; simpa using this
   have := ho.cells (g := gb) (by rw [h1]; rfl) (k * 4 + j) u (by rw [s4s_get n' g k j hk hj]; exact hu)
   rw [Addr.add_mid] at this
   rw [Nat.add_assoc]
   exact this
  exact ⟨⟨gb, 0, fun _ => hp, fun _ => ⟨fun k hk => key k 0 _ hk rfl, fun k hk => key k 1 _ hk rfl, fun k hk => key k 2 _ hk rfl, fun k hk => key k 3 _ hk rfl⟩⟩, hg⟩
theorem Fw.at (h : Fw b0 m K a b c d x) : a.at x ∧ b.at x ∧ c.at x ∧ d.at x := ⟨own_at h.ra h.na, own_at h.rb h.nb, own_at h.rc h.nc, own_at h.rd h.nd⟩
theorem Fw.keep (h : Fw b0 m K a b c d x) (hb : Below x.heap.size x y) : Fw b0 m K a b c d y := ⟨⟨own_keepT h.ra.1 hb, h.ra.2⟩, ⟨own_keepT h.rb.1 hb, h.rb.2⟩, ⟨own_keepT h.rc.1 hb, h.rc.2⟩, ⟨own_keepT h.rd.1 hb, h.rd.2⟩, h.ab, h.ac, h.ad, h.bc, h.bd, h.cd, h.na, h.nb, h.nc, h.nd⟩
theorem own_set {n k gb : Nat} {s : Sl} {z : E4} (h : x.ownsRow b0 35 4 s.v n (s4s n s.g) ∧ ∀ k, k < n → (s.g k).ok) (hn : s.n = n) (hp : s.p = some ⟨gb, 0, none⟩) (hk : k < n) (hz : z.ok) : (x.setCells gb (k * 4) [.int .u64 z.x0, .int .u64 z.x1, .int .u64 z.x2, .int .u64 z.x3]).ownsRow b0 35 4 (s.upd k z).v n (s4s n (s.upd k z).g) ∧ ∀ j, j < n → ((s.upd k z).g j).ok := by
 obtain ⟨ho, hg⟩ := h
 obtain ⟨P, n', cc, g⟩ := s
 obtain rfl : n' = n := hn
 obtain rfl : P = some ⟨gb, 0, none⟩ := hp
 refine ⟨?_, fun j hj => ?_⟩
 ·show World.ownsRow _ b0 _ 4 (.slice (some ⟨gb, 0, none⟩) n' cc) n' (s4s n' (fun j => if j = k then z else g j))
  rw [← s4s_set hk]
  have ho' : x.ownsRow b0 35 4 (.slice (some ⟨gb, 0, none⟩) n' cc) n' (s4s n' g) := ho
  exact ((((ho'.stored (k * 4) (.int .u64 z.x0)).1.stored (k * 4 + 1) (.int .u64 z.x1)).1.stored (k * 4 + 2) (.int .u64 z.x2)).1.stored (k * 4 + 3) (.int .u64 z.x3)).1
 ·show (if j = k then z else g j).ok
  by_cases e : j = k
  ·rw [if_pos e]; exact hz
  ·rw [if_neg e]; exact hg j hj
theorem own_oth {n gb : Nat} {s u : Sl} {k : Nat} {cs : List Value} (h : x.ownsRow b0 35 4 s.v n (s4s n s.g) ∧ ∀ k, k < n → (s.g k).ok) (hp : u.p = some ⟨gb, 0, none⟩) (hd : Dj u.v s.v) : (x.setCells gb k cs).ownsRow b0 35 4 s.v n (s4s n s.g) ∧ ∀ k, k < n → (s.g k).ok := by
 refine ⟨h.1.kept (gb_setCells gb cs k x) ?_, h.2⟩
 cases hv : s.v.ownBlock with
 | none => exact .inl rfl
 | some q => exact .inr (fun e => hd q (by show Value.ownBlock (.slice u.p u.n u.c) = _; rw [hp]; exact (by rw [← hv] at e; exact congrArg some (Option.some.inj (e.symm.trans hv).symm).symm ▸ rfl)) hv)
end
end Ci
end Go.Proofs.YthngomhhafoamaaGreatDoor
