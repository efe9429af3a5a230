import Derived.Test.YtclihahohhhhiaaDoorJt
namespace Go.Proofs.YtclihahohhhhiaaDoor
open Go.RowKit
set_option linter.unusedVariables false
set_option linter.unusedSimpArgs false
open Cm (Wr Tm co bf Ls lf ins Eqm)
open Tr (By cb vn vn_len)
namespace Ci
set_option maxRecDepth 100000
set_option maxHeartbeats 8000000
structure Lg (w6 : World) (m K fb la ra oa : Nat) (l r o v : Sl) (x : World) : Prop where
 bel : Below w6.heap.size w6 x
 fw : Fw (w6.heap.size + 4) m (K + 1) l r o v x
 fc : x.rangeAt fb 0 [.slice l.p l.n l.c, .slice r.p r.n r.c, .slice o.p o.n o.c, .slice v.p v.n v.c]
 lp : l.p = some ⟨la, 0, none⟩
 rp : r.p = some ⟨ra, 0, none⟩
 op : o.p = some ⟨oa, 0, none⟩
 l0 : w6.heap.size ≤ la ∧ la < fb
 r0 : w6.heap.size ≤ ra ∧ ra < fb
 o0 : w6.heap.size ≤ oa ∧ oa < fb
 ne : la ≠ ra ∧ la ≠ oa ∧ ra ≠ oa
 vb : ∀ g, v.v.ownBlock = some g → g < fb
 sz : fb < x.heap.size
structure Bg (fb b : Nat) (z : E4) (x : World) : Prop where
 lo : fb < b
 ra : x.rangeAt b 0 [.int .u64 z.x0, .int .u64 z.x1, .int .u64 z.x2, .int .u64 z.x3]
 th : x.there b 0 4
 hi : b < x.heap.size
section
variable {w6 : World} {m K fb la ra oa b : Nat} {l r o v : Sl} {z : E4} {x y : World}
theorem Bg.keep (h : Bg fb b z x) (hb : Below x.heap.size x y) : Bg fb b z y := ⟨h.lo, range_bl h.ra hb, there_bl h.th hb, Nat.lt_of_lt_of_le h.hi hb.size⟩
theorem Bg.new (z : E4) (x : World) (h : fb < x.heap.size) : Bg fb x.heap.size z (x.alloc (.cells #[.int .u64 z.x0, .int .u64 z.x1, .int .u64 z.x2, .int .u64 z.x3] 41)) := ⟨h, range_newM x [.int .u64 z.x0, .int .u64 z.x1, .int .u64 z.x2, .int .u64 z.x3] 41, there_newM x [.int .u64 z.x0, .int .u64 z.x1, .int .u64 z.x2, .int .u64 z.x3] 41, by simp⟩
theorem Bg.oth (h : Bg fb b z x) {g k : Nat} {cs : List Value} (hg : g ≠ b) : Bg fb b z (x.setCells g k cs) := by
 have gb := gb_setCells g cs k x
 exact ⟨h.lo, fun j u hu => gb.cell (h.ra j u hu) (fun e => by have := Option.some.inj e; simp only at this; omega), there_gbN h.th gb (by omega), Nat.lt_of_lt_of_le h.hi gb.size⟩
theorem Bg.set (h : Bg fb b z x) (z' : E4) : Bg fb b z' (x.setCells b 0 [.int .u64 z'.x0, .int .u64 z'.x1, .int .u64 z'.x2, .int .u64 z'.x3]) := ⟨h.lo, World.rangeAt_setCells_same x b 0 _ h.th, there_set h.th _ 0 _, Nat.lt_of_lt_of_le h.hi (gb_setCells b [.int .u64 z'.x0, .int .u64 z'.x1, .int .u64 z'.x2, .int .u64 z'.x3] 0 x).size⟩
theorem Lg.keep (h : Lg w6 m K fb la ra oa l r o v x) (hb : Below x.heap.size x y) : Lg w6 m K fb la ra oa l r o v y := ⟨bl_trans h.bel hb, h.fw.keep hb, range_bl h.fc hb, h.lp, h.rp, h.op, h.l0, h.r0, h.o0, h.ne, h.vb, Nat.lt_of_lt_of_le h.sz hb.size⟩
theorem own_far {n b0 : Nat} {s : Sl} {cs : List Value} (h : x.ownsRow b0 41 4 s.v n (s4s n s.g) ∧ ∀ k, k < n → (s.g k).ok) (hd : s.v.ownBlock ≠ some b) : (x.setCells b 0 cs).ownsRow b0 41 4 s.v n (s4s n s.g) ∧ ∀ k, k < n → (s.g k).ok := ⟨h.1.kept (gb_setCells b cs 0 x) (.inr hd), h.2⟩
theorem own_blk {n b0 : Nat} {s : Sl} {xs : List Value} (h : x.ownsRow b0 41 4 s.v n xs) : ∀ g, s.v.ownBlock = some g → b0 ≤ g ∧ g < x.heap.size := fun g hg => by
 rcases h.2 with ⟨h1, _⟩ | ⟨q, c, cur, h1, hle, hc, _⟩
 ·rw [h1] at hg; cases hg
 ·rw [h1] at hg
  obtain rfl : q = g := Option.some.inj hg
  exact ⟨hle, (Array.getElem?_eq_some_iff.1 hc).1⟩
theorem own_som {n b0 : Nat} {s : Sl} {xs : List Value} (h : x.ownsRow b0 41 4 s.v n xs) (hn : 0 < n) : ∃ g, s.p = some ⟨g, 0, none⟩ ∧ b0 ≤ g ∧ g < x.heap.size := by
 rcases h.2 with ⟨_, h1⟩ | ⟨q, c, cur, h1, hle, hc, _⟩
 ·omega
 ·have h1' : Value.slice s.p s.n s.c = .slice (some ⟨q, 0, none⟩) n c := h1
  simp only [Value.slice.injEq] at h1'
  exact ⟨q, h1'.1, hle, (Array.getElem?_eq_some_iff.1 hc).1⟩
theorem Sl.own {s : Sl} {g : Nat} (h : s.p = some ⟨g, 0, none⟩) : s.v.ownBlock = some g := by
 show Value.ownBlock (.slice s.p s.n s.c) = _
 rw [h]
 rfl
theorem Lg.box (h : Lg w6 m K fb la ra oa l r o v x) (hb : fb < b) {cs : List Value} : Lg w6 m K fb la ra oa l r o v (x.setCells b 0 cs) := by
 have hg := gb_setCells b cs 0 x
 have hl := h.l0
 have hr := h.r0
 have ho := h.o0
 exact ⟨h.bel.grown hg h.bel.size (fun j hj => by have := Option.some.inj hj; omega), ⟨own_far h.fw.ra (by rw [Sl.own h.lp]; intro e; have := Option.some.inj e; omega), own_far h.fw.rb (by rw [Sl.own h.rp]; intro e; have := Option.some.inj e; omega), own_far h.fw.rc (by rw [Sl.own h.op]; intro e; have := Option.some.inj e; omega), own_far h.fw.rd (fun e => by have := h.vb b e; omega), h.fw.ab, h.fw.ac, h.fw.ad, h.fw.bc, h.fw.bd, h.fw.cd, h.fw.na, h.fw.nb, h.fw.nc, h.fw.nd⟩, fun j u hu => hg.cell (h.fc j u hu) (fun e => by have := Option.some.inj e; simp only at this; omega), h.lp, h.rp, h.op, h.l0, h.r0, h.o0, h.ne, h.vb, Nat.lt_of_lt_of_le h.sz hg.size⟩
theorem Lg.make (h : Fw (w6.heap.size + 4) m (K + 1) l r o v x) (hb : Below w6.heap.size w6 x) : ∃ la ra oa, Lg w6 m K x.heap.size la ra oa l r o v (x.alloc (.cells #[.slice l.p l.n l.c, .slice r.p r.n r.c, .slice o.p o.n o.c, .slice v.p v.n v.c] 37)) := by
 obtain ⟨la, lp, l0, l1⟩ := own_som h.ra.1 (by omega)
 obtain ⟨ra, rp, r0, r1⟩ := own_som h.rb.1 (by omega)
 obtain ⟨oa, op, o0, o1⟩ := own_som h.rc.1 (by omega)
 have ba := bl_alloc x (.cells #[.slice l.p l.n l.c, .slice r.p r.n r.c, .slice o.p o.n o.c, .slice v.p v.n v.c] 37)
 exact ⟨la, ra, oa, bl_trans hb ba, h.keep ba, range_newM x _ 37, lp, rp, op, by omega, by omega, by omega, ⟨fun e => h.ab la (Sl.own lp) (by rw [Sl.own rp, e]), fun e => h.ac la (Sl.own lp) (by rw [Sl.own op, e]), fun e => h.bc ra (Sl.own rp) (by rw [Sl.own op, e])⟩, fun g hg => (own_blk h.rd.1 g hg).2, by simp⟩
theorem Lg.setL (h : Lg w6 m K fb la ra oa l r o v x) (hz : z.ok) : Lg w6 m K fb la ra oa (l.upd K z) r o v (x.setCells la (K * 4) [.int .u64 z.x0, .int .u64 z.x1, .int .u64 z.x2, .int .u64 z.x3]) := by
 have hg := gb_setCells la [.int .u64 z.x0, .int .u64 z.x1, .int .u64 z.x2, .int .u64 z.x3] (K * 4) x
 have hl := h.l0
 exact ⟨h.bel.grown hg h.bel.size (fun j hj => by have := Option.some.inj hj; omega), ⟨own_set h.fw.ra h.fw.na h.lp (by omega) hz, own_oth h.fw.rb h.lp h.fw.ab, own_oth h.fw.rc h.lp h.fw.ac, own_oth h.fw.rd h.lp h.fw.ad, h.fw.ab, h.fw.ac, h.fw.ad, h.fw.bc, h.fw.bd, h.fw.cd, h.fw.na, h.fw.nb, h.fw.nc, h.fw.nd⟩, fun j u hu => hg.cell (h.fc j u hu) (fun e => by have := Option.some.inj e; simp only at this; omega), h.lp, h.rp, h.op, h.l0, h.r0, h.o0, h.ne, h.vb, Nat.lt_of_lt_of_le h.sz hg.size⟩
theorem Lg.setR (h : Lg w6 m K fb la ra oa l r o v x) (hz : z.ok) : Lg w6 m K fb la ra oa l (r.upd K z) o v (x.setCells ra (K * 4) [.int .u64 z.x0, .int .u64 z.x1, .int .u64 z.x2, .int .u64 z.x3]) := by
 have hg := gb_setCells ra [.int .u64 z.x0, .int .u64 z.x1, .int .u64 z.x2, .int .u64 z.x3] (K * 4) x
 have hl := h.r0
 exact ⟨h.bel.grown hg h.bel.size (fun j hj => by have := Option.some.inj hj; omega), ⟨own_oth h.fw.ra h.rp h.fw.ab.symm, own_set h.fw.rb h.fw.nb h.rp (by omega) hz, own_oth h.fw.rc h.rp h.fw.bc, own_oth h.fw.rd h.rp h.fw.bd, h.fw.ab, h.fw.ac, h.fw.ad, h.fw.bc, h.fw.bd, h.fw.cd, h.fw.na, h.fw.nb, h.fw.nc, h.fw.nd⟩, fun j u hu => hg.cell (h.fc j u hu) (fun e => by have := Option.some.inj e; simp only at this; omega), h.lp, h.rp, h.op, h.l0, h.r0, h.o0, h.ne, h.vb, Nat.lt_of_lt_of_le h.sz hg.size⟩
theorem Lg.setO (h : Lg w6 m K fb la ra oa l r o v x) (hz : z.ok) : Lg w6 m K fb la ra oa l r (o.upd K z) v (x.setCells oa (K * 4) [.int .u64 z.x0, .int .u64 z.x1, .int .u64 z.x2, .int .u64 z.x3]) := by
 have hg := gb_setCells oa [.int .u64 z.x0, .int .u64 z.x1, .int .u64 z.x2, .int .u64 z.x3] (K * 4) x
 have hl := h.o0
 exact ⟨h.bel.grown hg h.bel.size (fun j hj => by have := Option.some.inj hj; omega), ⟨own_oth h.fw.ra h.op h.fw.ac.symm, own_oth h.fw.rb h.op h.fw.bc.symm, own_set h.fw.rc h.fw.nc h.op (by omega) hz, own_oth h.fw.rd h.op h.fw.cd, h.fw.ab, h.fw.ac, h.fw.ad, h.fw.bc, h.fw.bd, h.fw.cd, h.fw.na, h.fw.nb, h.fw.nc, h.fw.nd⟩, fun j u hu => hg.cell (h.fc j u hu) (fun e => by have := Option.some.inj e; simp only at this; omega), h.lp, h.rp, h.op, h.l0, h.r0, h.o0, h.ne, h.vb, Nat.lt_of_lt_of_le h.sz hg.size⟩
theorem w5_lie (w5 : World) (q : Int) : let w6 := (((w5.alloc (.cells #[.int .i64 2, .int .i64 q] 32)).alloc (.cells #[.int .i64 3, .int .i64 q] 32)).alloc (.cells #[.int .i64 4, .int .i64 q] 32)); w6.cell? ⟨w5.heap.size, 1, none⟩ = some (.int .i64 q) ∧ w6.cell? ⟨w5.heap.size + 1, 1, none⟩ = some (.int .i64 q) ∧ w6.cell? ⟨w5.heap.size + 1 + 1, 0, none⟩ = some (.int .i64 4) ∧ w6.cell? ⟨w5.heap.size + 1 + 1, 1, none⟩ = some (.int .i64 q) ∧ w6.heap.size = w5.heap.size + 3 := by
 refine ⟨?_, ?_, ?_, ?_, ?_⟩ <;> go_simp
theorem Lg.lat (h : Lg w6 m K fb la ra oa l r o v x) : l.at x ∧ r.at x ∧ o.at x ∧ v.at x := h.fw.at
theorem Lg.ln (h : Lg w6 m K fb la ra oa l r o v x) : l.n = K + 1 ∧ r.n = K + 1 ∧ o.n = K + 1 ∧ v.n = m := ⟨h.fw.na, h.fw.nb, h.fw.nc, h.fw.nd⟩
end
section
variable {N N' : Nat → Sl} {m K n fb la ra oa : Nat} {X : List Tm} {f : Nat → Trm} {l r o v l' r' o' : Sl} {w6 x : World}
def Ag (K : Nat) (s s' : Sl) : Prop := ∀ j, j ≠ K → s'.g j = s.g j
theorem Ag.rfl {s : Sl} : Ag K s s := fun _ _ => Eq.refl _
theorem Ag.upd {s s' : Sl} (h : Ag K s s') (z : E4) : Ag K s (s'.upd K z) := fun j hj => by
 show (if j = K then z else s'.g j) = _
 rw [if_neg hj]
 exact h j hj
theorem upd_K {s : Sl} {z : E4} : (s.upd K z).g K = z := by
 show (if K = K then z else s.g K) = z
 rw [if_pos (Eq.refl K)]
theorem nw_old (hl : Ag K l l') (hr : Ag K r r') (ho : Ag K o o') : ∀ q : Wr, hs m K q = true → (nw (nms 0 l' r' o' v) q).n = (nw (nms 0 l r o v) q).n := by
 rintro ⟨kd, ix⟩ h
 unfold hs at h
 simp only [Bool.and_eq_true, decide_eq_true_eq] at h
 obtain ⟨h1, h2, h3, h4⟩ := h
 rcases (show kd = 1 ∨ kd = 2 ∨ kd = 3 ∨ kd = 4 ∨ kd = 5 by omega) with h | h | h | h | h <;> subst h
 ·exact Eq.refl _
 ·have h5 : ix < (K : Int) := h4
  show (l'.g ix.toNat).n = (l.g ix.toNat).n
  rw [hl _ (by omega)]
 ·have h5 : ix < (K : Int) := h4
  show (r'.g ix.toNat).n = (r.g ix.toNat).n
  rw [hr _ (by omega)]
 ·have h5 : ix < (K : Int) := h4
  show (o'.g ix.toNat).n = (o.g ix.toNat).n
  rw [ho _ (by omega)]
 ·exact Eq.refl _
theorem vl_q (h : nm m K (lf Sm.L (glL n f)).length (ft (lf Sm.L (glL n f))) = true) (hl : Ag K l l') (hr : Ag K r r') (ho : Ag K o o') (kd : Int) : vl (nms 0 l' r' o' v) (mulA K n f kd) % Sm.L = ((nw (nms 0 l' r' o' v) (kd, (K : Int))).n - vl (nms 0 l r o v) (glL n f)) % Sm.L := by
 rw [vl_mulA, Int.sub_emod, vl_old h (nw_old hl hr ho), ← Int.sub_emod]
theorem nw_2 : nw (nms 0 l r o v) (2, (K : Int)) = l.g K := by show l.g ((K : Int).toNat) = _; rw [Int.toNat_natCast]
theorem nw_3 : nw (nms 0 l r o v) (3, (K : Int)) = r.g K := by show r.g ((K : Int).toNat) = _; rw [Int.toNat_natCast]
theorem nw_4 : nw (nms 0 l r o v) (4, (K : Int)) = o.g K := by show o.g ((K : Int).toNat) = _; rw [Int.toNat_natCast]
theorem nw_5 : nw (nms 0 l r o v) (5, (K : Int)) = v.g K := by show v.g ((K : Int).toNat) = _; rw [Int.toNat_natCast]
theorem zb1 (c : Int) : ((lst c).n - c) % Sm.L = 0 := by rw [lst_n, Int.sub_emod, emod_emod_L, Int.sub_self, Int.zero_emod]
theorem zb2 (c : Int) : ((lst ((lst c).n + 1)).n - c) % Sm.L = 1 := by
 have e : (lst c).n + 1 - c = ((lst c).n - c) + 1 := by omega
 rw [lst_n, Int.sub_emod, emod_emod_L, ← Int.sub_emod, e, Int.add_emod, zb1]
 decide
theorem zb3 (c : Int) : ((lst ((lst c).n - 1)).n - c) % Sm.L = Sm.L - 1 := by
 have e : (lst c).n - 1 - c = ((lst c).n - c) - 1 := by omega
 rw [lst_n, Int.sub_emod, emod_emod_L, ← Int.sub_emod, e, Int.sub_emod, zb1]
 decide
theorem isz_C {p : E4} {y : World} (hT : Tb y) (hp : p.ok) {b : Bool} (h : decide (p.n % Sm.L = 0) = b) : Calls Tryd.prog 14 #[.agg #[.int .u64 p.x0, .int .u64 p.x1, .int .u64 p.x2, .int .u64 p.x3]] y fun e w' => e = .returned (.bool b) ∧ Below y.heap.size y w' := by
 have := IsZero_any p y hT hp
 rw [h] at this
 exact this
theorem Lg.tl (h : Lg w6 m K fb la ra oa l r o v x) : x.there la (K * 4) 4 := by
 have h1 := h.fw.ra.1
 have e : l.v = .slice (some ⟨la, 0, none⟩) (K + 1) l.c := by show Value.slice l.p l.n l.c = _; rw [h.lp, h.fw.na]
 rw [e] at h1
 exact h1.there4 K (by omega)
theorem Lg.tr (h : Lg w6 m K fb la ra oa l r o v x) : x.there ra (K * 4) 4 := by
 have h1 := h.fw.rb.1
 have e : r.v = .slice (some ⟨ra, 0, none⟩) (K + 1) r.c := by show Value.slice r.p r.n r.c = _; rw [h.rp, h.fw.nb]
 rw [e] at h1
 exact h1.there4 K (by omega)
theorem Lg.to (h : Lg w6 m K fb la ra oa l r o v x) : x.there oa (K * 4) 4 := by
 have h1 := h.fw.rc.1
 have e : o.v = .slice (some ⟨oa, 0, none⟩) (K + 1) o.c := by show Value.slice o.p o.n o.c = _; rw [h.op, h.fw.nc]
 rw [e] at h1
 exact h1.there4 K (by omega)
theorem Lg.c0 (h : Lg w6 m K fb la ra oa l r o v x) : x.cell? ⟨fb, 0, none⟩ = some (.slice (some ⟨la, 0, none⟩) l.n l.c) := by rw [← h.lp]; exact h.fc 0 _ (Eq.refl _)
theorem Lg.c1 (h : Lg w6 m K fb la ra oa l r o v x) : x.cell? ⟨fb, 1, none⟩ = some (.slice (some ⟨ra, 0, none⟩) r.n r.c) := by rw [← h.rp]; exact h.fc 1 _ (Eq.refl _)
theorem Lg.c2 (h : Lg w6 m K fb la ra oa l r o v x) : x.cell? ⟨fb, 2, none⟩ = some (.slice (some ⟨oa, 0, none⟩) o.n o.c) := by rw [← h.op]; exact h.fc 2 _ (Eq.refl _)
theorem own_cell {b0 g j : Nat} {s : Sl} (h : x.ownsRow b0 41 4 s.v n (s4s n s.g)) (hp : s.p = some ⟨g, 0, none⟩) (hj : j < n) : ∀ i u, ([.int .u64 (s.g j).x0, .int .u64 (s.g j).x1, .int .u64 (s.g j).x2, .int .u64 (s.g j).x3] : List Value)[i]? = some u → x.cell? ⟨g, j * 4 + i, none⟩ = some u := fun i u hu => by
 have hi : i < 4 := by have := (List.getElem?_eq_some_iff.1 hu).1; simpa using this
 have := h.cells (g := g) (Sl.own hp) (j * 4 + i) u (by rw [s4s_get n s.g j i hj hi]; exact hu)
 rw [Addr.add_mid] at this
 rwa [Nat.zero_add] at this
theorem ent_at {Q : List (List Tm)} (h : Wk m K Q) {j : Nat} (hj : j < m) : Q[j]? = some (enX (j : Int)) := by
 obtain ⟨R, hR⟩ := h.pf
 rw [hR, List.getElem?_append_left (by rw [enl_len]; exact hj)]
 exact enl_get j m hj
theorem ent_vl {j : Nat} : (lst (vl (nms 0 l r o v) (enX (j : Int)))).n % Sm.L = (lst ((l.g j).n - (v.g j).n)).n % Sm.L := by
 rw [lst_n, lst_n, emod_emod_L, emod_emod_L, vl_ent, nw_2, nw_5]
end
set_option maxHeartbeats 32000000 in
theorem gates_any (i : Int) (S : Option Addr) (ns cs : Nat) (sg : Nat → Stp) (a b : Lf) (k : Sl) (w : World) (hT : Tb w) (i0 : -9223372036854775808 ≤ i) (i1 : i ≤ 9223372036854775807) (hns : ns ≤ 1048576) (hS : Scl w S ns sg) (ha : a.at w) (hb : b.at w) (hk : k.at w) (hkn : k.n ≤ 1048576) :
  Calls Tryd.prog 3 #[.int .i64 i, .slice S ns cs, .slice a.p a.n a.c, .slice b.p b.n b.c, .slice k.p k.n k.c] w fun e w' => e = .returned (.bool true) ∧ Below w.heap.size w w' := by
 have HT := hidden hT
 have HA := hidden (And.intro ha hb)
 have HK := hidden (And.intro hk hkn)
 have LV : Hid (∀ y, Below w.heap.size w y → _) := hidden (fun y hb => live_any y (hT.keep hb))
 have MK : Hid (∀ y, Below w.heap.size w y → _) := hidden (fun y hb => makes_tell i S ns cs sg y (hT.keep hb) i0 i1 hns (hS.keep hb))
 clear hT hk hkn hS i0 i1 hns ha hb
 go_enter Tryd.func3, Tryd.ntmps3
 go_upto_region 6 with (first | (have _t := LV; go_at_call 4; refine (LV.out _ (Below.refl _ _)).mono ?_; rintro e w2 ⟨rfl, hb⟩; have B2 := hidden hb; clear hb LV) | (have _t := MK; go_at_call 5; refine (MK.out _ B2.out).mono ?_; rintro e w3 ⟨t, m, K, Q, rfl, hts⟩; have TS := hidden hts.1; have VM := hidden hts.2; clear hts MK))
 have B3 := hidden (bl_trans B2.out TS.out.bl)
 have CE := hidden (tsBy TS.out (HT.out.keep B3.out) VM.out)
 go_upto_region 7 with (go_at_call 6; refine CE.out.mono ?_; rintro e w4 ⟨p0, c0, rfl, hby, hb4⟩; have BY := hidden hby; have B4 := hidden hb4; clear hby hb4 CE)
 have T4 := hidden (TS.out.keep B4.out)
 have BW4 := hidden (bl_trans B3.out B4.out)
 clear TS B3 B4
 by_cases ok : mulOk m K Q a b
 ·have OK := hidden ok
  clear ok BY
  have CM := hidden (tsMulOk (HT.out.keep B2.out) T4.out a b (HA.out.1.keep BW4.out) (HA.out.2.keep BW4.out) OK.out)
  simp only [tup] at CM
  go_upto_region 10 with (go_at_call 7; refine CM.out.mono ?_; rintro e w5 ⟨rfl, ht5⟩; have T5 := hidden ht5; clear ht5 CM)
  have W5 := hidden (w5_lie w5 (K : Int))
  have T6 : Hid (Ts w2 t m (K + 1) (Q ++ [mulA K a.n a.f 2, mulA K b.n b.f 3]) (((w5.alloc (.cells #[.int .i64 2, .int .i64 (K : Int)] 32)).alloc (.cells #[.int .i64 3, .int .i64 (K : Int)] 32)).alloc (.cells #[.int .i64 4, .int .i64 (K : Int)] 32))) := hidden (T5.out.keep (bl_alloc3 w5 _ _ _))
  clear T5 T4 BW4
  generalize (((w5.alloc (.cells #[.int .i64 2, .int .i64 (K : Int)] 32)).alloc (.cells #[.int .i64 3, .int .i64 (K : Int)] 32)).alloc (.cells #[.int .i64 4, .int .i64 (K : Int)] 32)) = w6 at *
  obtain ⟨Q2, hQ2⟩ : ∃ Q2, Q2 = Q ++ [mulA K a.n a.f 2, mulA K b.n b.f 3] := ⟨_, rfl⟩
  have EQ := hidden hQ2
  rw [← hQ2] at T6
  clear hQ2
  have BW6 := hidden (bl_trans B2.out T6.out.bl)
  have CF := fittedW_any k w6 (HT.out.keep BW6.out) T6.out (by have := VM.out; omega) (HK.out.1.keep BW6.out) HK.out.2
  simp only [Sl.v] at CF
  replace CF := hidden CF
  go_upto_region 11 with (go_at_call 8; refine CF.out.mono ?_; rintro e w7 ⟨l, r, o, v, rfl, hfw, hb7⟩; have FW := hidden hfw; have B7 := hidden hb7; clear hfw hb7 CF)
  obtain ⟨la, ra, oa, hlg⟩ := Lg.make FW.out B7.out
  have LG := hidden hlg
  clear hlg FW B7
  generalize (w7.alloc (.cells #[.slice l.p l.n l.c, .slice r.p r.n r.c, .slice o.p o.n o.c, .slice v.p v.n v.c] 37)) = w8 at *
  generalize w7.heap.size = fb at *
  have CX := tsEvalR (T6.out.keep LG.out.bel) (HT.out.keep (bl_trans BW6.out LG.out.bel)) LG.out.lat LG.out.ln (e0 := a.c) (by have := HA.out.1.n; omega) HA.out.1.ok (HA.out.1.lt.keep (bl_trans BW6.out LG.out.bel)) (nm_up OK.out.1)
  obtain ⟨n, hn⟩ : ∃ n, lst (vl (nms 0 l r o v) (glL a.n a.f)) = n := ⟨_, rfl⟩
  rw [hn] at CX
  replace CX := hidden CX
  have En := hidden hn
  clear hn
  have ac0 : w8.cell? ⟨fb, 0, none⟩ = some (.slice l.p l.n l.c) := LG.out.fc 0 _ rfl
  have ac1 : w8.cell? ⟨fb, 1, none⟩ = some (.slice r.p r.n r.c) := LG.out.fc 1 _ rfl
  have ac2 : w8.cell? ⟨fb, 2, none⟩ = some (.slice o.p o.n o.c) := LG.out.fc 2 _ rfl
  have ac3 : w8.cell? ⟨fb, 3, none⟩ = some (.slice v.p v.n v.c) := LG.out.fc 3 _ rfl
  go_upto_region 12 with (go_at_call 9; refine CX.out.mono ?_; rintro e w9 ⟨rfl, hbb⟩; have BB := hidden hbb; clear hbb CX)
  clear ac0 ac1 ac2 ac3
  have X18 : Hid (Bg fb w9.heap.size n (w9.alloc (.cells #[.int .u64 n.x0, .int .u64 n.x1, .int .u64 n.x2, .int .u64 n.x3] 41))) := hidden (Bg.new n w9 (by have := BB.out.size; have := LG.out.sz; omega))
  have bb := bl_trans BB.out (bl_alloc w9 (.cells #[.int .u64 n.x0, .int .u64 n.x1, .int .u64 n.x2, .int .u64 n.x3] 41))
  replace LG := hidden (LG.out.keep bb)
  clear bb BB
  generalize (w9.alloc (.cells #[.int .u64 n.x0, .int .u64 n.x1, .int .u64 n.x2, .int .u64 n.x3] 41)) = w10 at *
  generalize w9.heap.size = b18 at *
  have CX := tsEvalR (T6.out.keep LG.out.bel) (HT.out.keep (bl_trans BW6.out LG.out.bel)) LG.out.lat LG.out.ln (e0 := b.c) (by have := HA.out.2.n; omega) HA.out.2.ok (HA.out.2.lt.keep (bl_trans BW6.out LG.out.bel)) (nm_up OK.out.2.1)
  obtain ⟨q, hq⟩ : ∃ q, lst (vl (nms 0 l r o v) (glL b.n b.f)) = q := ⟨_, rfl⟩
  rw [hq] at CX
  replace CX := hidden CX
  have Eq := hidden hq
  clear hq
  have ac0 : w10.cell? ⟨fb, 0, none⟩ = some (.slice l.p l.n l.c) := LG.out.fc 0 _ rfl
  have ac1 : w10.cell? ⟨fb, 1, none⟩ = some (.slice r.p r.n r.c) := LG.out.fc 1 _ rfl
  have ac2 : w10.cell? ⟨fb, 2, none⟩ = some (.slice o.p o.n o.c) := LG.out.fc 2 _ rfl
  have ac3 : w10.cell? ⟨fb, 3, none⟩ = some (.slice v.p v.n v.c) := LG.out.fc 3 _ rfl
  go_upto_region 13 with (go_at_call 9; refine CX.out.mono ?_; rintro e w11 ⟨rfl, hbb⟩; have BB := hidden hbb; clear hbb CX)
  clear ac0 ac1 ac2 ac3
  have X20 : Hid (Bg fb w11.heap.size q (w11.alloc (.cells #[.int .u64 q.x0, .int .u64 q.x1, .int .u64 q.x2, .int .u64 q.x3] 41))) := hidden (Bg.new q w11 (by have := BB.out.size; have := LG.out.sz; omega))
  have bb := bl_trans BB.out (bl_alloc w11 (.cells #[.int .u64 q.x0, .int .u64 q.x1, .int .u64 q.x2, .int .u64 q.x3] 41))
  replace LG := hidden (LG.out.keep bb)
  replace X18 := hidden (X18.out.keep bb)
  clear bb BB
  generalize (w11.alloc (.cells #[.int .u64 q.x0, .int .u64 q.x1, .int .u64 q.x2, .int .u64 q.x3] 41)) = w12 at *
  generalize w11.heap.size = b20 at *
  have WL := hidden (And.intro (cell_keep W5.out.1 LG.out.bel) (And.intro (cell_keep W5.out.2.1 LG.out.bel) (And.intro (cell_keep W5.out.2.2.1 LG.out.bel) (cell_keep W5.out.2.2.2.1 LG.out.bel))))
  refine lg13 _ t fb (w5.heap.size + 1 + 1) K l r o v (lst (nw (nms 0 l r o v) (4, (K : Int))).n) _ _ _ _ _ _ _ _ _ _ _ _ _ _ _ _ _ _ _ _ _ _ _ _ _ _ _ _ _ _ _ _ _ _ _ _ _ _ _ _ _ _ _ _ _ _ _ _ _ _ _ _ _ _ _ _ _ _ _ _ _ _ _ _ _ _ _ _ _ _ _ _ _ _ _ _ _ _ _ _ _ _ _ _ _ _ _ _ _ _ _ _ _ _ _ _ _ _ _ _ _ _ _ _ _ _ _ _ _ _ _ _ _ _ _ _ _ _ _ _ _ _ _ _ _ _ _ _ _ _ _ _ _ _ _ _ _ _ _ _ _ _ _ _ _ _ _ _ _ _ _ _ _ _ _ _ _ _ _ _ _ _ _ _ _ _ _ _ _ _ _ _ _ _ _ _ _ _ _ _ _ _ _ _ _ _ _ _ _ _ _ _ _ _ _ _ _ _ _ _ _ _ _ _ _ _ _ _ _ _ _ _ _ _ _ _ _ _ _ _ _ _ _ _ _ _ _ _ _ _ _ _ _ _ _ _ _ _ _ _ _ _ _ _ _ _ _ _ _ _ _ _ _ _ _ _ _ _ _ _ _ _ _ _ _ _ _ w12 ⟨LG.out.fc 0 _ rfl, LG.out.fc 1 _ rfl, LG.out.fc 2 _ rfl, LG.out.fc 3 _ rfl, WL.out.2.2.1, WL.out.2.2.2, hidden (fun y _ => tsOf (4, (K : Int)) y), hidden (fun p1 c1 y hb hL => tsEvalO (T6.out.keep (LG.out.keep hb).bel) (HT.out.keep (bl_trans BW6.out (LG.out.keep hb).bel)) (LG.out.keep hb).lat LG.out.ln hL)⟩ (hidden ?_)
  intro w13 p1 c1 b22 hb13 hge hra
  have X22 : Hid (∃ z, Bg fb b22 z w13) := hidden ⟨_, ⟨by have := LG.out.sz; omega, hra.1, hra.2, World.block_lt_of_cell? w13 ⟨b22, 0, none⟩ (hra.1 0 _ rfl)⟩⟩
  have HI22 : Hid (b18 < b22 ∧ b20 < b22) := hidden (by have := X18.out.hi; have := X20.out.hi; omega)
  replace LG := hidden (LG.out.keep hb13)
  replace X18 := hidden (X18.out.keep hb13)
  replace X20 := hidden (X20.out.keep hb13)
  clear hra hge hb13 WL
  have c1 : w13.cell? ⟨w5.heap.size, 1, none⟩ = some (.int .i64 (K : Int)) := cell_keep W5.out.1 LG.out.bel
  have c2 : w13.cell? ⟨w5.heap.size + 1, 1, none⟩ = some (.int .i64 (K : Int)) := cell_keep W5.out.2.1 LG.out.bel
  have c4 : w13.cell? ⟨w5.heap.size + 1 + 1, 1, none⟩ = some (.int .i64 (K : Int)) := cell_keep W5.out.2.2.2.1 LG.out.bel
  go_upto_region 17 with fail
  clear c1 c2 c4
  obtain ⟨z22, x22⟩ := X22.out
  replace X22 := hidden x22
  clear x22
  have on : n.ok := En.out ▸ lst_ok _
  have oq : q.ok := Eq.out ▸ lst_ok _
  have ON := hidden (And.intro on oq)
  clear on oq
  have C13 : Hid (∀ y, Below w13.heap.size w13 y → _) := hidden (fun y hb => fix (R := lst (n.n * q.n)) (Mul_any n q y (HT.out.keep (bl_trans BW6.out (LG.out.keep hb).bel)) ON.out.1 ON.out.2) rfl)
  simp only [E4.v] at C13
  have SZ := hidden (And.intro LG.out.l0 (And.intro LG.out.r0 (And.intro LG.out.o0 (And.intro LG.out.ne (And.intro X18.out.lo (And.intro X20.out.lo (And.intro X22.out.lo LG.out.ln)))))))
  refine lg17 _ fb b18 b20 K la l.n l.c ra r.n r.c oa o.n o.c n q (lst (n.n * q.n)) _ _ _ _ _ _ _ _ _ _ _ _ _ _ _ _ _ _ _ _ _ _ _ _ _ _ _ _ _ _ _ _ _ _ _ _ _ _ _ _ _ _ _ _ _ _ _ _ _ _ _ _ _ _ _ _ _ _ _ _ _ _ _ _ _ _ _ _ _ _ _ _ _ _ _ _ _ _ _ _ _ _ _ _ _ _ _ _ _ _ _ _ _ _ _ _ _ _ _ _ _ _ _ _ _ _ _ _ _ _ _ _ _ _ _ _ _ _ _ _ _ _ _ _ _ _ _ _ _ _ _ _ _ _ _ _ _ _ _ _ _ _ _ _ _ _ _ _ _ _ _ _ _ _ _ _ _ _ _ _ _ _ _ _ _ _ _ _ _ _ _ _ _ _ _ _ _ _ _ _ _ _ _ _ _ _ _ _ _ _ _ _ _ _ _ _ _ _ _ _ _ _ _ _ _ _ _ _ _ _ _ _ _ _ _ _ _ _ _ _ _ _ _ _ _ _ _ _ _ _ _ _ _ _ _ _ _ _ _ _ _ _ _ _ _ _ _ _ _ _ _ _ _ _ _ _ _ _ _ _ _ _ _ _ _ _ w13 (by omega) (by have := SZ.out; omega) (by have := SZ.out; omega) (by have := SZ.out; omega) (by have := SZ.out; exact ⟨by omega, by omega, by omega⟩) (by have := SZ.out; exact ⟨by omega, by omega, by omega⟩) (by have := SZ.out; exact ⟨by omega, by omega, by omega⟩) (by have := SZ.out; omega) (by have := SZ.out; omega) (by have := SZ.out; omega) LG.out.tl LG.out.tr LG.out.to LG.out.c0 LG.out.c1 LG.out.c2 (X18.out.ra 0 _ rfl) (X18.out.ra 1 _ rfl) (X18.out.ra 2 _ rfl) (X18.out.ra 3 _ rfl) (X20.out.ra 0 _ rfl) (X20.out.ra 1 _ rfl) (X20.out.ra 2 _ rfl) (X20.out.ra 3 _ rfl) C13 (hidden ?_)
  intro w14 h14
  have NX : Hid (Lg w6 m K fb la ra oa (l.upd K n) (r.upd K q) (o.upd K (lst (n.n * q.n))) v w14 ∧ Bg fb b18 n w14 ∧ Bg fb b20 q w14 ∧ Bg fb b22 z22 w14) := hidden (by
   have := SZ.out
   obtain ⟨wv, ⟨wx, ⟨wy, hy, rfl⟩, rfl⟩, rfl⟩ := h14
   exact ⟨(((LG.out.keep hy).setL ON.out.1).setR ON.out.2).setO (lst_ok _), (((X18.out.keep hy).oth (by omega)).oth (by omega)).oth (by omega), (((X20.out.keep hy).oth (by omega)).oth (by omega)).oth (by omega), (((X22.out.keep hy).oth (by omega)).oth (by omega)).oth (by omega)⟩)
  clear h14 C13 LG X18 X20 X22
  have AG1 : Hid (Ag K l (l.upd K n) ∧ Ag K r (r.upd K q) ∧ Ag K o (o.upd K (lst (n.n * q.n)))) := hidden ⟨Ag.rfl.upd _, Ag.rfl.upd _, Ag.rfl.upd _⟩
  have VK1 : Hid ((l.upd K n).g K = n ∧ (r.upd K q).g K = q ∧ (o.upd K (lst (n.n * q.n))).g K = lst (n.n * q.n)) := hidden ⟨upd_K, upd_K, upd_K⟩
  generalize l.upd K n = l1 at *
  generalize r.upd K q = r1 at *
  generalize o.upd K (lst (n.n * q.n)) = o1 at *
  have LG := hidden NX.out.1
  have X18 := hidden NX.out.2.1
  have X20 := hidden NX.out.2.2.1
  have X22 := hidden NX.out.2.2.2
  clear NX
  have QL : Hid (Q2.length = Q.length + 2 ∧ Q2.length ≤ 4096) := hidden ⟨by rw [EQ.out]; simp, T6.out.wk.q⟩
  have wq1 : IntKind.i64.wrap ((Q2.length : Int) - 2) = ((Q.length : Nat) : Int) := by
   have := QL.out
   rw [IntWalk.i64_in _ (by omega)]
   omega
  have wq2 : IntKind.i64.wrap ((Q2.length : Int) - 1) = ((Q.length + 1 : Nat) : Int) := by
   have := QL.out
   rw [IntWalk.i64_in _ (by omega)]
   omega
  have G1 : Hid (Q2[Q.length]? = some (mulA K a.n a.f 2)) := hidden (by rw [EQ.out, List.getElem?_append_right (Nat.le_refl _), Nat.sub_self]; rfl)
  have G2 : Hid (Q2[Q.length + 1]? = some (mulA K b.n b.f 3)) := hidden (by rw [EQ.out, List.getElem?_append_right (by omega), Nat.add_sub_cancel_left]; rfl)
  have VA : Hid (∀ l' r' o' : Sl, Ag K l l' → Ag K r r' → Ag K o o' → vl (nms 0 l' r' o' v) (mulA K a.n a.f 2) % Sm.L = ((l'.g K).n - vl (nms 0 l r o v) (glL a.n a.f)) % Sm.L) := hidden (fun l' r' o' h1 h2 h3 => by rw [vl_q OK.out.1 h1 h2 h3 2, nw_2])
  have VB : Hid (∀ l' r' o' : Sl, Ag K l l' → Ag K r r' → Ag K o o' → vl (nms 0 l' r' o' v) (mulA K b.n b.f 3) % Sm.L = ((r'.g K).n - vl (nms 0 l r o v) (glL b.n b.f)) % Sm.L) := hidden (fun l' r' o' h1 h2 h3 => by rw [vl_q OK.out.2.1 h1 h2 h3 3, nw_3])
  generalize mulA K a.n a.f 2 = X1 at *
  generalize mulA K b.n b.f 3 = X2 at *
  have CR := hidden (tsReqs (T6.out.keep LG.out.bel))
  go_upto_region 19 with (go_at_call 12; refine CR.out.mono ?_; rintro e wx ⟨rfl, hwx⟩; have hw2 := hwx.symm; clear hwx CR; subst hw2)
  have CQ := hidden (tsReq (T6.out.keep LG.out.bel) Q.length X1 G1.out)
  go_upto_region 20 with (go_at_call 13; refine CQ.out.mono ?_; rintro e w15 ⟨P1, d1, rfl, ⟨hlx, hpb⟩, hbb⟩; have LX1 := hidden hlx; have BB := hidden hbb; have PB1 := hidden (hpb.mono (lo' := b22 + 1) (by have := X22.out.hi; omega) (Nat.le_refl _)); clear hlx hbb hpb CQ)
  replace LG := hidden (LG.out.keep BB.out)
  replace X18 := hidden (X18.out.keep BB.out)
  replace X20 := hidden (X20.out.keep BB.out)
  replace X22 := hidden (X22.out.keep BB.out)
  clear BB wq1
  replace CQ := hidden (tsReq (T6.out.keep LG.out.bel) (Q.length + 1) X2 G2.out)
  go_upto_region 21 with (go_at_call 13; refine CQ.out.mono ?_; rintro e w16 ⟨P2, d2, rfl, ⟨hlx, hpb⟩, hbb⟩; have LX2 := hidden hlx; have BB := hidden hbb; have PB2 := hidden (hpb.mono (lo' := b22 + 1) (by have := X22.out.hi; omega) (Nat.le_refl _)); clear hlx hbb hpb CQ)
  replace LG := hidden (LG.out.keep BB.out)
  replace X18 := hidden (X18.out.keep BB.out)
  replace X20 := hidden (X20.out.keep BB.out)
  replace X22 := hidden (X22.out.keep BB.out)
  replace LX1 := hidden (LX1.out.keep BB.out)
  replace PB1 := hidden (PB1.out.mono (hi' := w16.heap.size) (Nat.le_refl _) BB.out.size)
  clear BB wq2
  have CX := tsEvalQ (T6.out.keep LG.out.bel) (HT.out.keep (bl_trans BW6.out LG.out.bel)) LG.out.lat LG.out.ln (List.mem_of_getElem? G1.out) (e0 := d1) LX1.out
  obtain ⟨y1, hy1⟩ : ∃ y1, lst (vl (nms 0 l1 r1 o1 v) X1) = y1 := ⟨_, rfl⟩
  rw [hy1] at CX
  replace CX := hidden CX
  have Ey1 := hidden hy1
  clear hy1
  have ac0 : w16.cell? ⟨fb, 0, none⟩ = some (.slice l1.p l1.n l1.c) := LG.out.fc 0 _ rfl
  have ac1 : w16.cell? ⟨fb, 1, none⟩ = some (.slice r1.p r1.n r1.c) := LG.out.fc 1 _ rfl
  have ac2 : w16.cell? ⟨fb, 2, none⟩ = some (.slice o1.p o1.n o1.c) := LG.out.fc 2 _ rfl
  have ac3 : w16.cell? ⟨fb, 3, none⟩ = some (.slice v.p v.n v.c) := LG.out.fc 3 _ rfl
  go_upto_region 22 with (go_at_call 9; refine CX.out.mono ?_; rintro e w17 ⟨rfl, hbb⟩; have BB := hidden hbb; clear hbb CX)
  clear ac0 ac1 ac2 ac3
  have X30 : Hid (Bg fb w17.heap.size y1 (w17.alloc (.cells #[.int .u64 y1.x0, .int .u64 y1.x1, .int .u64 y1.x2, .int .u64 y1.x3] 41))) := hidden (Bg.new y1 w17 (by have := BB.out.size; have := LG.out.sz; omega))
  have HI30 : Hid (b18 < w17.heap.size ∧ b20 < w17.heap.size ∧ b22 < w17.heap.size) := hidden (by have := BB.out.size; exact ⟨by have := X18.out.hi; omega, by have := X20.out.hi; omega, by have := X22.out.hi; omega⟩)
  replace PB1 := hidden (PB1.out.mono (hi' := w17.heap.size) (Nat.le_refl _) BB.out.size)
  replace PB2 := hidden (PB2.out.mono (hi' := w17.heap.size) (Nat.le_refl _) BB.out.size)
  have bb := bl_trans BB.out (bl_alloc w17 (.cells #[.int .u64 y1.x0, .int .u64 y1.x1, .int .u64 y1.x2, .int .u64 y1.x3] 41))
  replace LG := hidden (LG.out.keep bb)
  replace X18 := hidden (X18.out.keep bb)
  replace X20 := hidden (X20.out.keep bb)
  replace X22 := hidden (X22.out.keep bb)
  replace LX1 := hidden (LX1.out.keep bb)
  replace LX2 := hidden (LX2.out.keep bb)
  clear bb BB
  generalize (w17.alloc (.cells #[.int .u64 y1.x0, .int .u64 y1.x1, .int .u64 y1.x2, .int .u64 y1.x3] 41)) = w18 at *
  generalize w17.heap.size = b30 at *
  have CX := tsEvalQ (T6.out.keep LG.out.bel) (HT.out.keep (bl_trans BW6.out LG.out.bel)) LG.out.lat LG.out.ln (List.mem_of_getElem? G2.out) (e0 := d2) LX2.out
  obtain ⟨y2, hy2⟩ : ∃ y2, lst (vl (nms 0 l1 r1 o1 v) X2) = y2 := ⟨_, rfl⟩
  rw [hy2] at CX
  replace CX := hidden CX
  have Ey2 := hidden hy2
  clear hy2
  have ac0 : w18.cell? ⟨fb, 0, none⟩ = some (.slice l1.p l1.n l1.c) := LG.out.fc 0 _ rfl
  have ac1 : w18.cell? ⟨fb, 1, none⟩ = some (.slice r1.p r1.n r1.c) := LG.out.fc 1 _ rfl
  have ac2 : w18.cell? ⟨fb, 2, none⟩ = some (.slice o1.p o1.n o1.c) := LG.out.fc 2 _ rfl
  have ac3 : w18.cell? ⟨fb, 3, none⟩ = some (.slice v.p v.n v.c) := LG.out.fc 3 _ rfl
  go_upto_region 23 with (go_at_call 9; refine CX.out.mono ?_; rintro e w19 ⟨rfl, hbb⟩; have BB := hidden hbb; clear hbb CX)
  clear ac0 ac1 ac2 ac3
  have X32 : Hid (Bg fb w19.heap.size y2 (w19.alloc (.cells #[.int .u64 y2.x0, .int .u64 y2.x1, .int .u64 y2.x2, .int .u64 y2.x3] 41))) := hidden (Bg.new y2 w19 (by have := BB.out.size; have := LG.out.sz; omega))
  have HI32 : Hid (b18 < w19.heap.size ∧ b20 < w19.heap.size ∧ b22 < w19.heap.size ∧ b30 < w19.heap.size) := hidden (by have := BB.out.size; exact ⟨by have := X18.out.hi; omega, by have := X20.out.hi; omega, by have := X22.out.hi; omega, by have := X30.out.hi; omega⟩)
  have bb := bl_trans BB.out (bl_alloc w19 (.cells #[.int .u64 y2.x0, .int .u64 y2.x1, .int .u64 y2.x2, .int .u64 y2.x3] 41))
  replace LG := hidden (LG.out.keep bb)
  replace X18 := hidden (X18.out.keep bb)
  replace X20 := hidden (X20.out.keep bb)
  replace X22 := hidden (X22.out.keep bb)
  replace X30 := hidden (X30.out.keep bb)
  replace LX1 := hidden (LX1.out.keep bb)
  replace LX2 := hidden (LX2.out.keep bb)
  clear bb BB
  generalize (w19.alloc (.cells #[.int .u64 y2.x0, .int .u64 y2.x1, .int .u64 y2.x2, .int .u64 y2.x3] 41)) = w20 at *
  generalize w19.heap.size = b32 at *
  have WL := hidden (And.intro (cell_keep W5.out.2.2.1 LG.out.bel) (cell_keep W5.out.2.2.2.1 LG.out.bel))
  have OBL : Hid (w5.heap.size + 1 + 1 < fb) := hidden (by have := W5.out.2.2.2.2; have := LG.out.l0; omega)
  have SB : Hid ((la < fb ∧ ra < fb ∧ oa < fb ∧ la ≠ ra) ∧ fb < b18 ∧ fb < b20 ∧ fb < b22 ∧ b18 < b22 ∧ b20 < b22 ∧ b22 < b30 ∧ b30 < b32) := hidden (by
   have := LG.out.l0; have := LG.out.r0; have := LG.out.o0; have := LG.out.ne
   have := X18.out.lo; have := X20.out.lo; have := X22.out.lo; have := HI22.out; have := HI30.out; have := HI32.out
   omega)
  clear HI22 HI30 HI32 SZ
  refine lg23 _ t fb (w5.heap.size + 1 + 1) b22 K l1 r1 o1 v (lst (nw (nms 0 l1 r1 o1 v) (4, (K : Int))).n) _ _ _ _ _ _ _ _ _ _ _ _ _ _ _ _ _ _ _ _ _ _ _ _ _ _ _ _ _ _ _ _ _ _ _ _ _ _ _ _ _ _ _ _ _ _ _ _ _ _ _ _ _ _ _ _ _ _ _ _ _ _ _ _ _ _ _ _ _ _ _ _ _ _ _ _ _ _ _ _ _ _ _ _ _ _ _ _ _ _ _ _ _ _ _ _ _ _ _ _ _ _ _ _ _ _ _ _ _ _ _ _ _ _ _ _ _ _ _ _ _ _ _ _ _ _ _ _ _ _ _ _ _ _ _ _ _ _ _ _ _ _ _ _ _ _ _ _ _ _ _ _ _ _ _ _ _ _ _ _ _ _ _ _ _ _ _ _ _ _ _ _ _ _ _ _ _ _ _ _ _ _ _ _ _ _ _ _ _ _ _ _ _ _ _ _ _ _ _ _ _ _ _ _ _ _ _ _ _ _ _ _ _ _ _ _ _ _ _ _ _ _ _ _ _ _ _ _ _ _ _ _ _ _ _ _ _ _ _ _ _ _ _ _ _ _ _ _ _ _ _ _ _ _ _ _ _ _ _ _ _ _ _ _ _ _ w20 (by have := X22.out.lo; omega) (by have := X22.out.lo; have := OBL.out; omega) X22.out.th (LG.out.fc 0 _ rfl) (LG.out.fc 1 _ rfl) (LG.out.fc 2 _ rfl) (LG.out.fc 3 _ rfl) WL.out.1 WL.out.2 (hidden (fun y _ => tsOf (4, (K : Int)) y)) (hidden (fun p1 c1 y hb hL => tsEvalO (T6.out.keep (LG.out.keep hb).bel) (HT.out.keep (bl_trans BW6.out (LG.out.keep hb).bel)) (LG.out.keep hb).lat LG.out.ln hL)) (hidden ?_)
  intro w21 p2 c2 h21
  rw [nw_4, VK1.out.2.2] at h21
  rw [nw_4, VK1.out.2.2]
  have NX : Hid (Lg w6 m K fb la ra oa l1 r1 o1 v w21 ∧ Bg fb b18 n w21 ∧ Bg fb b20 q w21 ∧ Bg fb b22 (lst (lst (n.n * q.n)).n) w21 ∧ Bg fb b30 y1 w21 ∧ Bg fb b32 y2 w21 ∧ Lt w21 P1 X1.length (ft X1) ∧ Lt w21 P2 X2.length (ft X2)) := hidden (by
   obtain ⟨wy, hy, rfl⟩ := h21
   have := SB.out
   exact ⟨(LG.out.keep hy).box (by omega), (X18.out.keep hy).oth (by omega), (X20.out.keep hy).oth (by omega), (X22.out.keep hy).set _, (X30.out.keep hy).oth (by omega), (X32.out.keep hy).oth (by omega), Lt.far (LX1.out.keep hy) PB1.out (by omega), Lt.far (LX2.out.keep hy) PB2.out (by omega)⟩)
  clear h21 LG X18 X20 X22 X30 X32 LX1 LX2 WL
  have LG := hidden NX.out.1
  have X18 := hidden NX.out.2.1
  have X20 := hidden NX.out.2.2.1
  have X22 := hidden NX.out.2.2.2.1
  have X30 := hidden NX.out.2.2.2.2.1
  have X32 := hidden NX.out.2.2.2.2.2.1
  have LX1 := hidden NX.out.2.2.2.2.2.2.1
  have LX2 := hidden NX.out.2.2.2.2.2.2.2
  clear NX
  have Z1 : Hid (y1.ok ∧ decide (y1.n % Sm.L = 0) = true) := hidden ⟨Ey1.out ▸ lst_ok _, decide_eq_true (by rw [← Ey1.out, lst_n, emod_emod_L, VA.out _ _ _ AG1.out.1 AG1.out.2.1 AG1.out.2.2, VK1.out.1, ← En.out, zb1])⟩
  have Z2 : Hid (y2.ok ∧ decide (y2.n % Sm.L = 0) = true) := hidden ⟨Ey2.out ▸ lst_ok _, decide_eq_true (by rw [← Ey2.out, lst_n, emod_emod_L, VB.out _ _ _ AG1.out.1 AG1.out.2.1 AG1.out.2.2, VK1.out.2.1, ← Eq.out, zb1])⟩
  have C13 : Hid (∀ y, Below w21.heap.size w21 y → _) := hidden (fun y hb => fix (R := lst (n.n * q.n)) (Mul_any n q y (HT.out.keep (bl_trans BW6.out (LG.out.keep hb).bel)) ON.out.1 ON.out.2) rfl)
  simp only [E4.v] at C13
  go_upto_region 24 with fail
  refine lg24 _ b30 b32 b22 b18 b20 y1 y2 (lst (lst (n.n * q.n)).n) n q (lst (n.n * q.n)) _ _ _ _ _ _ _ _ _ _ _ _ _ _ _ _ _ _ _ _ _ _ _ _ _ _ _ _ _ _ _ _ _ _ _ _ _ _ _ _ _ _ _ _ _ _ _ _ _ _ _ _ _ _ _ _ _ _ _ _ _ _ _ _ _ _ _ _ _ _ _ _ _ _ _ _ _ _ _ _ _ _ _ _ _ _ _ _ _ _ _ _ _ _ _ _ _ _ _ _ _ _ _ _ _ _ _ _ _ _ _ _ _ _ _ _ _ _ _ _ _ _ _ _ _ _ _ _ _ _ _ _ _ _ _ _ _ _ _ _ _ _ _ _ _ _ _ _ _ _ _ _ _ _ _ _ _ _ _ _ _ _ _ _ _ _ _ _ _ _ _ _ _ _ _ _ _ _ _ _ _ _ _ _ _ _ _ _ _ _ _ _ _ _ _ _ _ _ _ _ _ _ _ _ _ _ _ _ _ _ _ _ _ _ _ _ _ _ _ _ _ _ _ _ _ _ _ _ _ _ _ _ _ _ _ _ _ _ _ _ _ _ _ _ _ _ _ _ _ _ _ _ _ _ _ _ _ _ _ _ _ _ _ _ _ w21 (X30.out.ra 0 _ rfl) (X30.out.ra 1 _ rfl) (X30.out.ra 2 _ rfl) (X30.out.ra 3 _ rfl) (X32.out.ra 0 _ rfl) (X32.out.ra 1 _ rfl) (X32.out.ra 2 _ rfl) (X32.out.ra 3 _ rfl) (X22.out.ra 0 _ rfl) (X22.out.ra 1 _ rfl) (X22.out.ra 2 _ rfl) (X22.out.ra 3 _ rfl) (X18.out.ra 0 _ rfl) (X18.out.ra 1 _ rfl) (X18.out.ra 2 _ rfl) (X18.out.ra 3 _ rfl) (X20.out.ra 0 _ rfl) (X20.out.ra 1 _ rfl) (X20.out.ra 2 _ rfl) (X20.out.ra 3 _ rfl) (hidden (fun y hb => isz_C (HT.out.keep (bl_trans BW6.out (LG.out.keep hb).bel)) Z1.out.1 Z1.out.2)) (hidden (fun y hb => isz_C (HT.out.keep (bl_trans BW6.out (LG.out.keep hb).bel)) Z2.out.1 Z2.out.2)) C13 (hidden (fun y hb => same_C2 (HT.out.keep (bl_trans BW6.out (LG.out.keep hb).bel)) (lst_ok _) (lst_ok _) (by rw [lst_n, emod_emod_L]))) (hidden ?_)
  intro w22 hb22
  replace LG := hidden (LG.out.keep hb22)
  replace X18 := hidden (X18.out.keep hb22)
  replace X20 := hidden (X20.out.keep hb22)
  replace X22 := hidden (X22.out.keep hb22)
  replace X30 := hidden (X30.out.keep hb22)
  replace X32 := hidden (X32.out.keep hb22)
  replace LX1 := hidden (LX1.out.keep hb22)
  replace LX2 := hidden (LX2.out.keep hb22)
  clear hb22 C13 Z1 Z2
  go_upto_region 26 with fail
  have C4 : Hid (∀ y, Below w22.heap.size w22 y → _) := hidden (fun y hb => fix (R := lst 1) (Int_any 1 y (by unfold Sm.Wd; omega)) rfl)
  have C5 : Hid (∀ y, Below w22.heap.size w22 y → _) := hidden (fun y hb => fix (R := lst (n.n + 1)) (Add_any n (lst 1) y (HT.out.keep (bl_trans BW6.out (LG.out.keep hb).bel)) ON.out.1 (lst_ok _)) (by rw [lst1_n]))
  simp only [E4.v] at C4 C5
  refine lg26 _ fb b18 K la l1.n l1.c n (lst 1) (lst (n.n + 1)) _ _ _ _ _ _ _ _ _ _ _ _ _ _ _ _ _ _ _ _ _ _ _ _ _ _ _ _ _ _ _ _ _ _ _ _ _ _ _ _ _ _ _ _ _ _ _ _ _ _ _ _ _ _ _ _ _ _ _ _ _ _ _ _ _ _ _ _ _ _ _ _ _ _ _ _ _ _ _ _ _ _ _ _ _ _ _ _ _ _ _ _ _ _ _ _ _ _ _ _ _ _ _ _ _ _ _ _ _ _ _ _ _ _ _ _ _ _ _ _ _ _ _ _ _ _ _ _ _ _ _ _ _ _ _ _ _ _ _ _ _ _ _ _ _ _ _ _ _ _ _ _ _ _ _ _ _ _ _ _ _ _ _ _ _ _ _ _ _ _ _ _ _ _ _ _ _ _ _ _ _ _ _ _ _ _ _ _ _ _ _ _ _ _ _ _ _ _ _ _ _ _ _ _ _ _ _ _ _ _ _ _ _ _ _ _ _ _ _ _ _ _ _ _ _ _ _ _ _ _ _ _ _ _ _ _ _ _ _ _ _ _ _ _ _ _ _ _ _ _ _ _ _ _ _ _ _ _ _ _ _ _ _ _ _ _ _ w22 (by omega) (by have := LG.out.ln; omega) (by have := SB.out; omega) (by have := SB.out; omega) LG.out.tl LG.out.c0 (X18.out.ra 0 _ rfl) (X18.out.ra 1 _ rfl) (X18.out.ra 2 _ rfl) (X18.out.ra 3 _ rfl) C4 C5 (hidden ?_)
  intro w23 hz
  have NX : Hid (Lg w6 m K fb la ra oa (l1.upd K (lst (n.n + 1))) r1 o1 v w23 ∧ Bg fb b18 n w23 ∧ Bg fb b20 q w23 ∧ Bg fb b22 (lst (lst (n.n * q.n)).n) w23 ∧ Bg fb b30 y1 w23 ∧ Bg fb b32 y2 w23 ∧ Lt w23 P1 X1.length (ft X1) ∧ Lt w23 P2 X2.length (ft X2)) := hidden (by
   obtain ⟨wy, hy, rfl⟩ := hz
   have := SB.out
   exact ⟨(LG.out.keep hy).setL (lst_ok _), (X18.out.keep hy).oth (by omega), (X20.out.keep hy).oth (by omega), (X22.out.keep hy).oth (by omega), (X30.out.keep hy).oth (by omega), (X32.out.keep hy).oth (by omega), Lt.far (LX1.out.keep hy) PB1.out (by omega), Lt.far (LX2.out.keep hy) PB2.out (by omega)⟩)
  clear hz C4 C5 LG X18 X20 X22 X30 X32 LX1 LX2
  have AG2 : Hid (Ag K l (l1.upd K (lst (n.n + 1)))) := hidden (AG1.out.1.upd _)
  have VK2 : Hid ((l1.upd K (lst (n.n + 1))).g K = lst (n.n + 1)) := hidden upd_K
  generalize l1.upd K (lst (n.n + 1)) = l2 at *
  have LG := hidden NX.out.1
  have X18 := hidden NX.out.2.1
  have X20 := hidden NX.out.2.2.1
  have X22 := hidden NX.out.2.2.2.1
  have X30 := hidden NX.out.2.2.2.2.1
  have X32 := hidden NX.out.2.2.2.2.2.1
  have LX1 := hidden NX.out.2.2.2.2.2.2.1
  have LX2 := hidden NX.out.2.2.2.2.2.2.2
  clear NX
  go_upto_region 27 with fail
  have CX := tsEvalQ (T6.out.keep LG.out.bel) (HT.out.keep (bl_trans BW6.out LG.out.bel)) LG.out.lat LG.out.ln (List.mem_of_getElem? G1.out) (e0 := d1) LX1.out
  obtain ⟨y3, hy3⟩ : ∃ y3, lst (vl (nms 0 l2 r1 o1 v) X1) = y3 := ⟨_, rfl⟩
  rw [hy3] at CX
  replace CX := hidden CX
  have Ey3 := hidden hy3
  clear hy3
  have ac0 : w23.cell? ⟨fb, 0, none⟩ = some (.slice l2.p l2.n l2.c) := LG.out.fc 0 _ rfl
  have ac1 : w23.cell? ⟨fb, 1, none⟩ = some (.slice r1.p r1.n r1.c) := LG.out.fc 1 _ rfl
  have ac2 : w23.cell? ⟨fb, 2, none⟩ = some (.slice o1.p o1.n o1.c) := LG.out.fc 2 _ rfl
  have ac3 : w23.cell? ⟨fb, 3, none⟩ = some (.slice v.p v.n v.c) := LG.out.fc 3 _ rfl
  go_upto_region 28 with (go_at_call 9; refine CX.out.mono ?_; rintro e w24 ⟨rfl, hbb⟩; have BB := hidden hbb; have q0 : w24.cell? ⟨b30, 0, none⟩ = some (.int .u64 y1.x0) := (X30.out.keep hbb).ra 0 _ rfl; have q1 : w24.cell? ⟨b30, 1, none⟩ = some (.int .u64 y1.x1) := (X30.out.keep hbb).ra 1 _ rfl; have q2 : w24.cell? ⟨b30, 2, none⟩ = some (.int .u64 y1.x2) := (X30.out.keep hbb).ra 2 _ rfl; have q3 : w24.cell? ⟨b30, 3, none⟩ = some (.int .u64 y1.x3) := (X30.out.keep hbb).ra 3 _ rfl; have g0 := ((X30.out.keep hbb).th 0 (by omega)).2; have g1 := ((X30.out.keep hbb).th 1 (by omega)).2; have g2 := ((X30.out.keep hbb).th 2 (by omega)).2; have g3 := ((X30.out.keep hbb).th 3 (by omega)).2; simp only [Nat.zero_add] at g0 g1 g2 g3; clear hbb CX)
  clear ac0 ac1 ac2 ac3 q0 q1 q2 q3 g0 g1 g2 g3
  have NX : Hid (Lg w6 m K fb la ra oa l2 r1 o1 v ((((w24.setCell ⟨b30, 0, none⟩ (.int .u64 y3.x0)).setCell ⟨b30, 1, none⟩ (.int .u64 y3.x1)).setCell ⟨b30, 2, none⟩ (.int .u64 y3.x2)).setCell ⟨b30, 3, none⟩ (.int .u64 y3.x3)) ∧ Bg fb b18 n ((((w24.setCell ⟨b30, 0, none⟩ (.int .u64 y3.x0)).setCell ⟨b30, 1, none⟩ (.int .u64 y3.x1)).setCell ⟨b30, 2, none⟩ (.int .u64 y3.x2)).setCell ⟨b30, 3, none⟩ (.int .u64 y3.x3)) ∧ Bg fb b20 q ((((w24.setCell ⟨b30, 0, none⟩ (.int .u64 y3.x0)).setCell ⟨b30, 1, none⟩ (.int .u64 y3.x1)).setCell ⟨b30, 2, none⟩ (.int .u64 y3.x2)).setCell ⟨b30, 3, none⟩ (.int .u64 y3.x3)) ∧ Bg fb b22 (lst (lst (n.n * q.n)).n) ((((w24.setCell ⟨b30, 0, none⟩ (.int .u64 y3.x0)).setCell ⟨b30, 1, none⟩ (.int .u64 y3.x1)).setCell ⟨b30, 2, none⟩ (.int .u64 y3.x2)).setCell ⟨b30, 3, none⟩ (.int .u64 y3.x3)) ∧ Bg fb b30 y3 ((((w24.setCell ⟨b30, 0, none⟩ (.int .u64 y3.x0)).setCell ⟨b30, 1, none⟩ (.int .u64 y3.x1)).setCell ⟨b30, 2, none⟩ (.int .u64 y3.x2)).setCell ⟨b30, 3, none⟩ (.int .u64 y3.x3)) ∧ Bg fb b32 y2 ((((w24.setCell ⟨b30, 0, none⟩ (.int .u64 y3.x0)).setCell ⟨b30, 1, none⟩ (.int .u64 y3.x1)).setCell ⟨b30, 2, none⟩ (.int .u64 y3.x2)).setCell ⟨b30, 3, none⟩ (.int .u64 y3.x3)) ∧ Lt ((((w24.setCell ⟨b30, 0, none⟩ (.int .u64 y3.x0)).setCell ⟨b30, 1, none⟩ (.int .u64 y3.x1)).setCell ⟨b30, 2, none⟩ (.int .u64 y3.x2)).setCell ⟨b30, 3, none⟩ (.int .u64 y3.x3)) P1 X1.length (ft X1) ∧ Lt ((((w24.setCell ⟨b30, 0, none⟩ (.int .u64 y3.x0)).setCell ⟨b30, 1, none⟩ (.int .u64 y3.x1)).setCell ⟨b30, 2, none⟩ (.int .u64 y3.x2)).setCell ⟨b30, 3, none⟩ (.int .u64 y3.x3)) P2 X2.length (ft X2)) := hidden (by
   have := SB.out
   have hy := BB.out
   exact ⟨(LG.out.keep hy).box (cs := [.int .u64 y3.x0, .int .u64 y3.x1, .int .u64 y3.x2, .int .u64 y3.x3]) (by omega), (X18.out.keep hy).oth (cs := [.int .u64 y3.x0, .int .u64 y3.x1, .int .u64 y3.x2, .int .u64 y3.x3]) (by omega), (X20.out.keep hy).oth (cs := [.int .u64 y3.x0, .int .u64 y3.x1, .int .u64 y3.x2, .int .u64 y3.x3]) (by omega), (X22.out.keep hy).oth (cs := [.int .u64 y3.x0, .int .u64 y3.x1, .int .u64 y3.x2, .int .u64 y3.x3]) (by omega), (X30.out.keep hy).set y3, (X32.out.keep hy).oth (cs := [.int .u64 y3.x0, .int .u64 y3.x1, .int .u64 y3.x2, .int .u64 y3.x3]) (by omega), Lt.far (cs := [.int .u64 y3.x0, .int .u64 y3.x1, .int .u64 y3.x2, .int .u64 y3.x3]) (LX1.out.keep hy) PB1.out (by omega), Lt.far (cs := [.int .u64 y3.x0, .int .u64 y3.x1, .int .u64 y3.x2, .int .u64 y3.x3]) (LX2.out.keep hy) PB2.out (by omega)⟩)
  clear BB LG X18 X20 X22 X30 X32 LX1 LX2
  generalize ((((w24.setCell ⟨b30, 0, none⟩ (.int .u64 y3.x0)).setCell ⟨b30, 1, none⟩ (.int .u64 y3.x1)).setCell ⟨b30, 2, none⟩ (.int .u64 y3.x2)).setCell ⟨b30, 3, none⟩ (.int .u64 y3.x3)) = w25 at *
  have LG := hidden NX.out.1
  have X18 := hidden NX.out.2.1
  have X20 := hidden NX.out.2.2.1
  have X22 := hidden NX.out.2.2.2.1
  have X30 := hidden NX.out.2.2.2.2.1
  have X32 := hidden NX.out.2.2.2.2.2.1
  have LX1 := hidden NX.out.2.2.2.2.2.2.1
  have LX2 := hidden NX.out.2.2.2.2.2.2.2
  clear NX
  have C4 : Hid (∀ y, Below w25.heap.size w25 y → _) := hidden (fun y hb => fix (R := lst 1) (Int_any 1 y (by unfold Sm.Wd; omega)) rfl)
  have C5 : Hid (∀ y, Below w25.heap.size w25 y → _) := hidden (fun y hb => fix (R := lst (q.n - 1)) (Sub_any q (lst 1) y (HT.out.keep (bl_trans BW6.out (LG.out.keep hb).bel)) ON.out.2 (lst_ok _)) (by rw [lst1_n]))
  simp only [E4.v] at C4 C5
  refine lg28 _ fb b20 K ra r1.n r1.c q (lst 1) (lst (q.n - 1)) _ _ _ _ _ _ _ _ _ _ _ _ _ _ _ _ _ _ _ _ _ _ _ _ _ _ _ _ _ _ _ _ _ _ _ _ _ _ _ _ _ _ _ _ _ _ _ _ _ _ _ _ _ _ _ _ _ _ _ _ _ _ _ _ _ _ _ _ _ _ _ _ _ _ _ _ _ _ _ _ _ _ _ _ _ _ _ _ _ _ _ _ _ _ _ _ _ _ _ _ _ _ _ _ _ _ _ _ _ _ _ _ _ _ _ _ _ _ _ _ _ _ _ _ _ _ _ _ _ _ _ _ _ _ _ _ _ _ _ _ _ _ _ _ _ _ _ _ _ _ _ _ _ _ _ _ _ _ _ _ _ _ _ _ _ _ _ _ _ _ _ _ _ _ _ _ _ _ _ _ _ _ _ _ _ _ _ _ _ _ _ _ _ _ _ _ _ _ _ _ _ _ _ _ _ _ _ _ _ _ _ _ _ _ _ _ _ _ _ _ _ _ _ _ _ _ _ _ _ _ _ _ _ _ _ _ _ _ _ _ _ _ _ _ _ _ _ _ _ _ _ _ _ _ _ _ _ _ _ _ _ _ _ _ _ _ _ w25 (by omega) (by have := LG.out.ln; omega) (by have := SB.out; omega) (by have := SB.out; omega) LG.out.tr LG.out.c1 (X20.out.ra 0 _ rfl) (X20.out.ra 1 _ rfl) (X20.out.ra 2 _ rfl) (X20.out.ra 3 _ rfl) C4 C5 (hidden ?_)
  intro w26 hz
  have NX : Hid (Lg w6 m K fb la ra oa l2 (r1.upd K (lst (q.n - 1))) o1 v w26 ∧ Bg fb b18 n w26 ∧ Bg fb b20 q w26 ∧ Bg fb b22 (lst (lst (n.n * q.n)).n) w26 ∧ Bg fb b30 y3 w26 ∧ Bg fb b32 y2 w26 ∧ Lt w26 P1 X1.length (ft X1) ∧ Lt w26 P2 X2.length (ft X2)) := hidden (by
   obtain ⟨wy, hy, rfl⟩ := hz
   have := SB.out
   exact ⟨(LG.out.keep hy).setR (lst_ok _), (X18.out.keep hy).oth (by omega), (X20.out.keep hy).oth (by omega), (X22.out.keep hy).oth (by omega), (X30.out.keep hy).oth (by omega), (X32.out.keep hy).oth (by omega), Lt.far (LX1.out.keep hy) PB1.out (by omega), Lt.far (LX2.out.keep hy) PB2.out (by omega)⟩)
  clear hz C4 C5 LG X18 X20 X22 X30 X32 LX1 LX2
  have AG3 : Hid (Ag K r (r1.upd K (lst (q.n - 1)))) := hidden (AG1.out.2.1.upd _)
  have VK3 : Hid ((r1.upd K (lst (q.n - 1))).g K = lst (q.n - 1)) := hidden upd_K
  generalize r1.upd K (lst (q.n - 1)) = r2 at *
  have LG := hidden NX.out.1
  have X18 := hidden NX.out.2.1
  have X20 := hidden NX.out.2.2.1
  have X22 := hidden NX.out.2.2.2.1
  have X30 := hidden NX.out.2.2.2.2.1
  have X32 := hidden NX.out.2.2.2.2.2.1
  have LX1 := hidden NX.out.2.2.2.2.2.2.1
  have LX2 := hidden NX.out.2.2.2.2.2.2.2
  clear NX
  go_upto_region 29 with fail
  have CX := tsEvalQ (T6.out.keep LG.out.bel) (HT.out.keep (bl_trans BW6.out LG.out.bel)) LG.out.lat LG.out.ln (List.mem_of_getElem? G2.out) (e0 := d2) LX2.out
  obtain ⟨y4, hy4⟩ : ∃ y4, lst (vl (nms 0 l2 r2 o1 v) X2) = y4 := ⟨_, rfl⟩
  rw [hy4] at CX
  replace CX := hidden CX
  have Ey4 := hidden hy4
  clear hy4
  have ac0 : w26.cell? ⟨fb, 0, none⟩ = some (.slice l2.p l2.n l2.c) := LG.out.fc 0 _ rfl
  have ac1 : w26.cell? ⟨fb, 1, none⟩ = some (.slice r2.p r2.n r2.c) := LG.out.fc 1 _ rfl
  have ac2 : w26.cell? ⟨fb, 2, none⟩ = some (.slice o1.p o1.n o1.c) := LG.out.fc 2 _ rfl
  have ac3 : w26.cell? ⟨fb, 3, none⟩ = some (.slice v.p v.n v.c) := LG.out.fc 3 _ rfl
  go_upto_region 30 with (go_at_call 9; refine CX.out.mono ?_; rintro e w27 ⟨rfl, hbb⟩; have BB := hidden hbb; have q0 : w27.cell? ⟨b32, 0, none⟩ = some (.int .u64 y2.x0) := (X32.out.keep hbb).ra 0 _ rfl; have q1 : w27.cell? ⟨b32, 1, none⟩ = some (.int .u64 y2.x1) := (X32.out.keep hbb).ra 1 _ rfl; have q2 : w27.cell? ⟨b32, 2, none⟩ = some (.int .u64 y2.x2) := (X32.out.keep hbb).ra 2 _ rfl; have q3 : w27.cell? ⟨b32, 3, none⟩ = some (.int .u64 y2.x3) := (X32.out.keep hbb).ra 3 _ rfl; have g0 := ((X32.out.keep hbb).th 0 (by omega)).2; have g1 := ((X32.out.keep hbb).th 1 (by omega)).2; have g2 := ((X32.out.keep hbb).th 2 (by omega)).2; have g3 := ((X32.out.keep hbb).th 3 (by omega)).2; simp only [Nat.zero_add] at g0 g1 g2 g3; clear hbb CX)
  clear ac0 ac1 ac2 ac3 q0 q1 q2 q3 g0 g1 g2 g3
  have NX : Hid (Lg w6 m K fb la ra oa l2 r2 o1 v ((((w27.setCell ⟨b32, 0, none⟩ (.int .u64 y4.x0)).setCell ⟨b32, 1, none⟩ (.int .u64 y4.x1)).setCell ⟨b32, 2, none⟩ (.int .u64 y4.x2)).setCell ⟨b32, 3, none⟩ (.int .u64 y4.x3)) ∧ Bg fb b18 n ((((w27.setCell ⟨b32, 0, none⟩ (.int .u64 y4.x0)).setCell ⟨b32, 1, none⟩ (.int .u64 y4.x1)).setCell ⟨b32, 2, none⟩ (.int .u64 y4.x2)).setCell ⟨b32, 3, none⟩ (.int .u64 y4.x3)) ∧ Bg fb b20 q ((((w27.setCell ⟨b32, 0, none⟩ (.int .u64 y4.x0)).setCell ⟨b32, 1, none⟩ (.int .u64 y4.x1)).setCell ⟨b32, 2, none⟩ (.int .u64 y4.x2)).setCell ⟨b32, 3, none⟩ (.int .u64 y4.x3)) ∧ Bg fb b22 (lst (lst (n.n * q.n)).n) ((((w27.setCell ⟨b32, 0, none⟩ (.int .u64 y4.x0)).setCell ⟨b32, 1, none⟩ (.int .u64 y4.x1)).setCell ⟨b32, 2, none⟩ (.int .u64 y4.x2)).setCell ⟨b32, 3, none⟩ (.int .u64 y4.x3)) ∧ Bg fb b30 y3 ((((w27.setCell ⟨b32, 0, none⟩ (.int .u64 y4.x0)).setCell ⟨b32, 1, none⟩ (.int .u64 y4.x1)).setCell ⟨b32, 2, none⟩ (.int .u64 y4.x2)).setCell ⟨b32, 3, none⟩ (.int .u64 y4.x3)) ∧ Bg fb b32 y4 ((((w27.setCell ⟨b32, 0, none⟩ (.int .u64 y4.x0)).setCell ⟨b32, 1, none⟩ (.int .u64 y4.x1)).setCell ⟨b32, 2, none⟩ (.int .u64 y4.x2)).setCell ⟨b32, 3, none⟩ (.int .u64 y4.x3)) ∧ Lt ((((w27.setCell ⟨b32, 0, none⟩ (.int .u64 y4.x0)).setCell ⟨b32, 1, none⟩ (.int .u64 y4.x1)).setCell ⟨b32, 2, none⟩ (.int .u64 y4.x2)).setCell ⟨b32, 3, none⟩ (.int .u64 y4.x3)) P1 X1.length (ft X1) ∧ Lt ((((w27.setCell ⟨b32, 0, none⟩ (.int .u64 y4.x0)).setCell ⟨b32, 1, none⟩ (.int .u64 y4.x1)).setCell ⟨b32, 2, none⟩ (.int .u64 y4.x2)).setCell ⟨b32, 3, none⟩ (.int .u64 y4.x3)) P2 X2.length (ft X2)) := hidden (by
   have := SB.out
   have hy := BB.out
   exact ⟨(LG.out.keep hy).box (cs := [.int .u64 y4.x0, .int .u64 y4.x1, .int .u64 y4.x2, .int .u64 y4.x3]) (by omega), (X18.out.keep hy).oth (cs := [.int .u64 y4.x0, .int .u64 y4.x1, .int .u64 y4.x2, .int .u64 y4.x3]) (by omega), (X20.out.keep hy).oth (cs := [.int .u64 y4.x0, .int .u64 y4.x1, .int .u64 y4.x2, .int .u64 y4.x3]) (by omega), (X22.out.keep hy).oth (cs := [.int .u64 y4.x0, .int .u64 y4.x1, .int .u64 y4.x2, .int .u64 y4.x3]) (by omega), (X30.out.keep hy).oth (cs := [.int .u64 y4.x0, .int .u64 y4.x1, .int .u64 y4.x2, .int .u64 y4.x3]) (by omega), (X32.out.keep hy).set y4, Lt.far (cs := [.int .u64 y4.x0, .int .u64 y4.x1, .int .u64 y4.x2, .int .u64 y4.x3]) (LX1.out.keep hy) PB1.out (by omega), Lt.far (cs := [.int .u64 y4.x0, .int .u64 y4.x1, .int .u64 y4.x2, .int .u64 y4.x3]) (LX2.out.keep hy) PB2.out (by omega)⟩)
  clear BB LG X18 X20 X22 X30 X32 LX1 LX2
  generalize ((((w27.setCell ⟨b32, 0, none⟩ (.int .u64 y4.x0)).setCell ⟨b32, 1, none⟩ (.int .u64 y4.x1)).setCell ⟨b32, 2, none⟩ (.int .u64 y4.x2)).setCell ⟨b32, 3, none⟩ (.int .u64 y4.x3)) = w28 at *
  have LG := hidden NX.out.1
  have X18 := hidden NX.out.2.1
  have X20 := hidden NX.out.2.2.1
  have X22 := hidden NX.out.2.2.2.1
  have X30 := hidden NX.out.2.2.2.2.1
  have X32 := hidden NX.out.2.2.2.2.2.1
  have LX1 := hidden NX.out.2.2.2.2.2.2.1
  have LX2 := hidden NX.out.2.2.2.2.2.2.2
  clear NX
  have Z3 : Hid (y3.ok ∧ decide (y3.n % Sm.L = 0) = false) := hidden ⟨Ey3.out ▸ lst_ok _, decide_eq_false (by rw [← Ey3.out, lst_n, emod_emod_L, VA.out _ _ _ AG2.out AG1.out.2.1 AG1.out.2.2, VK2.out, ← En.out, zb2]; decide)⟩
  have Z4 : Hid (y4.ok ∧ decide (y4.n % Sm.L = 0) = false) := hidden ⟨Ey4.out ▸ lst_ok _, decide_eq_false (by rw [← Ey4.out, lst_n, emod_emod_L, VB.out _ _ _ AG2.out AG3.out AG1.out.2.2, VK3.out, ← Eq.out, zb3]; decide)⟩
  have CZ3 := hidden (isz_C (HT.out.keep (bl_trans BW6.out LG.out.bel)) Z3.out.1 Z3.out.2)
  have CZ4 : Hid (∀ y, Below w28.heap.size w28 y → _) := hidden (fun y hb => isz_C (HT.out.keep (bl_trans BW6.out (LG.out.keep hb).bel)) Z4.out.1 Z4.out.2)
  have q0 : w28.cell? ⟨b30, 0, none⟩ = some (.int .u64 y3.x0) := X30.out.ra 0 _ rfl
  have q1 : w28.cell? ⟨b30, 1, none⟩ = some (.int .u64 y3.x1) := X30.out.ra 1 _ rfl
  have q2 : w28.cell? ⟨b30, 2, none⟩ = some (.int .u64 y3.x2) := X30.out.ra 2 _ rfl
  have q3 : w28.cell? ⟨b30, 3, none⟩ = some (.int .u64 y3.x3) := X30.out.ra 3 _ rfl
  clear Z3 Z4 VA VB LX1 LX2 PB1 PB2 G1 G2 Ey1 Ey2 Ey3 Ey4 VK1 VK2 VK3 En Eq
  go_upto_region 32 with (first | (have _t := CZ3; go_at_call 14; refine CZ3.out.mono ?_; rintro e w29 ⟨rfl, hbb⟩; have c0 : w29.cell? ⟨b32, 0, none⟩ = some (.int .u64 y4.x0) := (X32.out.keep hbb).ra 0 _ rfl; have c1 : w29.cell? ⟨b32, 1, none⟩ = some (.int .u64 y4.x1) := (X32.out.keep hbb).ra 1 _ rfl; have c2 : w29.cell? ⟨b32, 2, none⟩ = some (.int .u64 y4.x2) := (X32.out.keep hbb).ra 2 _ rfl; have c3 : w29.cell? ⟨b32, 3, none⟩ = some (.int .u64 y4.x3) := (X32.out.keep hbb).ra 3 _ rfl; have B29 := hidden hbb; replace LG := hidden (LG.out.keep hbb); clear hbb CZ3) | (have _t := CZ4; go_at_call 14; refine (CZ4.out _ B29.out).mono ?_; rintro e w30 ⟨rfl, hbb⟩; replace LG := hidden (LG.out.keep hbb); clear hbb CZ4))
  clear q0 q1 q2 q3 c0 c1 c2 c3 B29 X18 X20 X22 X30 X32
  clear AG1 AG2 AG3 ON SB OBL QL EQ OK W5
  generalize enB m K Q = bs at *
  go_upto_region 33 with fail
  go_loopw [34] (fun jv x => ∃ (j : Nat), j ≤ m ∧ jv = .int .i64 (j : Int) ∧ Hid (Lg w6 m K fb la ra oa l2 r2 o1 v x)) (fun jv _ => m - (intOf jv).toNat)
  case atStart => exact ⟨0, by omega, rfl, LG⟩
  case round =>
   clear LG
   obtain ⟨j, hj, rfl, LG⟩ := hrel
   have CV := hidden (tsValues (T6.out.keep LG.out.bel))
   by_cases hin : j < m
   ·have j1 : (j : Int) < (m : Int) := by omega
    have w9' : IntKind.i64.wrap ((j : Int) + 1) = (j : Int) + 1 := IntWalk.i64_in _ (by have := VM.out; omega)
    have HX := hidden (ent_at T6.out.wk hin)
    have MX := hidden (List.mem_of_getElem? HX.out)
    have VE := hidden (ent_vl (l := l2) (r := r2) (o := o1) (v := v) (j := j))
    have JK : Hid (j < K + 1) := hidden (by have := T6.out.wk.mle; omega)
    obtain ⟨X, hX⟩ : ∃ X, enX (j : Int) = X := ⟨_, rfl⟩
    rw [hX] at HX MX VE
    clear hX
    have CQ := hidden (tsReq (T6.out.keep LG.out.bel) j X HX.out)
    go_upto_region 36 with (first | (have _t := CV; go_at_call 19; refine CV.out.mono ?_; rintro e wx ⟨rfl, hwx⟩; have hw2 := hwx.symm; clear hwx CV; subst hw2) | (have _t := CQ; go_at_call 13; refine CQ.out.mono ?_; rintro e w31 ⟨PX, cX, rfl, ⟨hlx, _⟩, hbb⟩; have LX := hidden hlx; replace LG := hidden (LG.out.keep hbb); clear hlx hbb CQ))
    have CE := tsEvalQ (T6.out.keep LG.out.bel) (HT.out.keep (bl_trans BW6.out LG.out.bel)) LG.out.lat LG.out.ln MX.out (e0 := cX) LX.out
    obtain ⟨z, hz⟩ : ∃ z, lst (vl (nms 0 l2 r2 o1 v) X) = z := ⟨_, rfl⟩
    rw [hz] at CE VE
    have ZO : Hid z.ok := hidden (hz ▸ lst_ok _)
    clear hz
    replace CE := hidden CE
    have ac0 : w31.cell? ⟨fb, 0, none⟩ = some (.slice l2.p l2.n l2.c) := LG.out.fc 0 _ rfl
    have ac1 : w31.cell? ⟨fb, 1, none⟩ = some (.slice r2.p r2.n r2.c) := LG.out.fc 1 _ rfl
    have ac2 : w31.cell? ⟨fb, 2, none⟩ = some (.slice o1.p o1.n o1.c) := LG.out.fc 2 _ rfl
    have ac3 : w31.cell? ⟨fb, 3, none⟩ = some (.slice v.p v.n v.c) := LG.out.fc 3 _ rfl
    go_upto_region 37 with (go_at_call 9; refine CE.out.mono ?_; rintro e w32 ⟨rfl, hbb⟩; have BB := hidden hbb; clear hbb CE)
    clear ac0 ac1 ac2 ac3 LX HX MX
    have X37 : Hid (Bg fb w32.heap.size z (w32.alloc (.cells #[.int .u64 z.x0, .int .u64 z.x1, .int .u64 z.x2, .int .u64 z.x3] 41))) := hidden (Bg.new z w32 (by have := BB.out.size; have := LG.out.sz; omega))
    replace LG := hidden (LG.out.keep (bl_trans BB.out (bl_alloc w32 (.cells #[.int .u64 z.x0, .int .u64 z.x1, .int .u64 z.x2, .int .u64 z.x3] 41))))
    clear BB
    generalize (w32.alloc (.cells #[.int .u64 z.x0, .int .u64 z.x1, .int .u64 z.x2, .int .u64 z.x3] 41)) = w33 at *
    generalize w32.heap.size = b37 at *
    obtain ⟨vb, hvp, _, _⟩ := own_som LG.out.fw.rd.1 (by omega)
    have f3 : w33.cell? ⟨fb, 3, none⟩ = some (.slice (some ⟨vb, 0, none⟩) v.n v.c) := by rw [← hvp]; exact LG.out.fc 3 _ rfl
    have OP := own_cell LG.out.fw.ra.1 LG.out.lp JK.out
    have OV := own_cell LG.out.fw.rd.1 hvp hin
    have GO : Hid ((l2.g j).ok ∧ (v.g j).ok) := hidden ⟨LG.out.fw.ra.2 j JK.out, LG.out.fw.rd.2 j hin⟩
    have C18 : Hid (∀ y, Below w33.heap.size w33 y → _) := hidden (fun y hb => fix (R := lst ((l2.g j).n - (v.g j).n)) (Sub_any (l2.g j) (v.g j) y (HT.out.keep (bl_trans BW6.out (LG.out.keep hb).bel)) GO.out.1 GO.out.2) rfl)
    simp only [E4.v] at C18
    refine lg37 _ fb b37 j la l2.n l2.c vb 0 v.n v.c z (l2.g j) (v.g j) (lst ((l2.g j).n - (v.g j).n)) _ _ _ _ _ _ _ _ _ _ _ _ _ _ _ _ _ _ _ _ _ _ _ _ _ _ _ _ _ _ _ _ _ _ _ _ _ _ _ _ _ _ _ _ _ _ _ _ _ _ _ _ _ _ _ _ _ _ _ _ _ _ _ _ _ _ _ _ _ _ _ _ _ _ _ _ _ _ _ _ _ _ _ _ _ _ _ _ _ _ _ _ _ _ _ _ _ _ _ _ _ _ _ _ _ _ _ _ _ _ _ _ _ _ _ _ _ _ _ _ _ _ _ _ _ _ _ _ _ _ _ _ _ _ _ _ _ _ _ _ _ _ _ _ _ _ _ _ _ _ _ _ _ _ _ _ _ _ _ _ _ _ _ _ _ _ _ _ _ _ _ _ _ _ _ _ _ _ _ _ _ _ _ _ _ _ _ _ _ _ _ _ _ _ _ _ _ _ _ _ _ _ _ _ _ _ _ _ _ _ _ _ _ _ _ _ _ _ _ _ _ _ _ _ _ _ _ _ _ _ _ _ _ _ _ _ _ _ _ _ _ _ _ _ _ _ _ _ _ _ _ _ _ _ _ _ _ _ _ _ _ _ _ _ _ w33 (by omega) (by have := LG.out.ln; have := JK.out; omega) (by have := LG.out.ln; omega) LG.out.c0 f3 (X37.out.ra 0 _ rfl) (X37.out.ra 1 _ rfl) (X37.out.ra 2 _ rfl) (X37.out.ra 3 _ rfl) (OP 0 _ rfl) (OP 1 _ rfl) (OP 2 _ rfl) (OP 3 _ rfl) (by rw [Nat.zero_add]; exact OV 0 _ rfl) (by rw [Nat.zero_add]; exact OV 1 _ rfl) (by rw [Nat.zero_add]; exact OV 2 _ rfl) (by rw [Nat.zero_add]; exact OV 3 _ rfl) C18 (hidden (fun y hb => same_C2 (HT.out.keep (bl_trans BW6.out (LG.out.keep hb).bel)) ZO.out (lst_ok _) VE.out)) (hidden ?_)
    intro w34 hb34
    replace LG := hidden (LG.out.keep hb34)
    clear hb34 C18 OP OV f3 X37 ZO VE GO
    go_wp2_with fail
    go_roundw
    case rel => exact ⟨j + 1, by omega, by go_num, LG⟩
    case measure => simp [intOf]; omega
   ·obtain rfl : j = m := by omega
    have lq : ¬ (j : Int) < (j : Int) := by omega
    have BZ := hidden (bl_trans BW6.out LG.out.bel)
    go_wp2_with (go_at_call 19; refine CV.out.mono ?_; rintro e wx ⟨rfl, hwx⟩; have hw2 := hwx.symm; clear hwx CV; subst hw2)
    exact bodyPost_ret (v := .bool true) (by simp [results, Tryd.results3, go_sem]) rfl ⟨rfl, BZ.out⟩
 ·obtain ⟨r, hr, cm⟩ := tsMulNo (HT.out.keep B2.out) T4.out a b (HA.out.1.keep BW4.out) (HA.out.2.keep BW4.out) ok
  have CM := hidden cm
  simp only [tup] at CM
  clear cm ok
  have EN : Hid (∀ y, Below w4.heap.size w4 y → _) := hidden (fun y hb => tsBy (T4.out.keep hb) (HT.out.keep (bl_trans BW4.out hb)) VM.out)
  have BYK : Hid (∀ y, Below w4.heap.size w4 y → By y p0 c0 (enB m K Q)) := hidden (fun y hb => BY.out.keep hb)
  generalize enB m K Q = bs at *
  rcases hr with rfl | rfl
  ·go_upto_region 9 with (go_at_call 7; refine CM.out.mono ?_; rintro e w5 ⟨rfl, hb5⟩; have B5 := hidden hb5; clear hb5 CM)
   have B6 : Hid (Below w4.heap.size w4 (((w5.alloc (.cells #[.int .i64 0, .int .i64 0] 32)).alloc (.cells #[.int .i64 0, .int .i64 0] 32)).alloc (.cells #[.int .i64 0, .int .i64 0] 32))) := hidden (bl_trans B5.out (bl_alloc3 w5 _ _ _))
   generalize (((w5.alloc (.cells #[.int .i64 0, .int .i64 0] 32)).alloc (.cells #[.int .i64 0, .int .i64 0] 32)).alloc (.cells #[.int .i64 0, .int .i64 0] 32)) = w6 at *
   refine lg9a _ t c0 p0 bs _ _ _ _ _ _ _ _ _ _ _ _ _ _ _ _ _ _ _ _ _ _ _ _ _ _ _ _ _ _ _ _ _ _ _ _ _ _ _ _ _ _ _ _ _ _ _ _ _ _ _ _ _ _ _ _ _ _ _ _ _ _ _ _ _ _ _ _ _ _ _ _ _ _ _ _ _ _ _ _ _ _ _ _ _ _ _ _ _ _ _ _ _ _ _ _ _ _ _ _ _ _ _ _ _ _ _ _ _ _ _ _ _ _ _ _ _ _ _ _ _ _ _ _ _ _ _ _ _ _ _ _ _ _ _ _ _ _ _ _ _ _ _ _ _ _ _ _ _ _ _ _ _ _ _ _ _ _ _ _ _ _ _ _ _ _ _ _ _ _ _ _ _ _ _ _ _ _ _ _ _ _ _ _ _ _ _ _ _ _ _ _ _ _ _ _ _ _ _ _ _ _ _ _ _ _ _ _ _ _ _ _ _ _ _ _ _ _ _ _ _ _ _ _ _ _ _ _ _ _ _ _ _ _ _ _ _ _ _ _ _ _ _ _ _ _ _ _ _ _ _ _ _ _ _ _ _ _ _ _ _ _ _ _ _ _ _ w6 (BYK.out _ B6.out) (hidden (fun y hb => EN.out y (bl_trans B6.out hb))) (hidden ?_)
   intro wz p1 c1 hz
   have BZ := hidden (bl_trans BW4.out (bl_trans B6.out hz))
   clear hz
   go_wp2_with fail
   exact bodyPost_ret (v := .bool true) (by simp [results, Tryd.results3, go_sem]) rfl ⟨rfl, BZ.out⟩
  ·go_upto_region 9 with (go_at_call 7; refine CM.out.mono ?_; rintro e w5 ⟨rfl, hb5⟩; have B5 := hidden hb5; clear hb5 CM)
   have B6 : Hid (Below w4.heap.size w4 (((w5.alloc (.cells #[.int .i64 0, .int .i64 0] 32)).alloc (.cells #[.int .i64 0, .int .i64 0] 32)).alloc (.cells #[.int .i64 0, .int .i64 0] 32))) := hidden (bl_trans B5.out (bl_alloc3 w5 _ _ _))
   generalize (((w5.alloc (.cells #[.int .i64 0, .int .i64 0] 32)).alloc (.cells #[.int .i64 0, .int .i64 0] 32)).alloc (.cells #[.int .i64 0, .int .i64 0] 32)) = w6 at *
   refine lg9b _ t c0 p0 bs _ _ _ _ _ _ _ _ _ _ _ _ _ _ _ _ _ _ _ _ _ _ _ _ _ _ _ _ _ _ _ _ _ _ _ _ _ _ _ _ _ _ _ _ _ _ _ _ _ _ _ _ _ _ _ _ _ _ _ _ _ _ _ _ _ _ _ _ _ _ _ _ _ _ _ _ _ _ _ _ _ _ _ _ _ _ _ _ _ _ _ _ _ _ _ _ _ _ _ _ _ _ _ _ _ _ _ _ _ _ _ _ _ _ _ _ _ _ _ _ _ _ _ _ _ _ _ _ _ _ _ _ _ _ _ _ _ _ _ _ _ _ _ _ _ _ _ _ _ _ _ _ _ _ _ _ _ _ _ _ _ _ _ _ _ _ _ _ _ _ _ _ _ _ _ _ _ _ _ _ _ _ _ _ _ _ _ _ _ _ _ _ _ _ _ _ _ _ _ _ _ _ _ _ _ _ _ _ _ _ _ _ _ _ _ _ _ _ _ _ _ _ _ _ _ _ _ _ _ _ _ _ _ _ _ _ _ _ _ _ _ _ _ _ _ _ _ _ _ _ _ _ _ _ _ _ _ _ _ _ _ _ _ _ _ _ _ w6 (BYK.out _ B6.out) (hidden (fun y hb => EN.out y (bl_trans B6.out hb))) (hidden ?_)
   intro wz p1 c1 hz
   have BZ := hidden (bl_trans BW4.out (bl_trans B6.out hz))
   clear hz
   go_wp2_with fail
   exact bodyPost_ret (v := .bool true) (by simp [results, Tryd.results3, go_sem]) rfl ⟨rfl, BZ.out⟩
end Ci
end Go.Proofs.YtclihahohhhhiaaDoor
