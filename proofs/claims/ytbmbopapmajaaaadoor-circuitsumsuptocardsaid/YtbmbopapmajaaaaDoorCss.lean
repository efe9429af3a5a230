import Derived.Test.YtbmbopapmajaaaaDoorCsp
import Derived.Test.YtbmbopapmajaaaaDoorCso
import Derived.Test.YtbmbopapmajaaaaDoorCsq
namespace Go.Proofs.YtbmbopapmajaaaaDoor
open Go.RowKit
set_option linter.unusedVariables false
set_option linter.unusedSimpArgs false
open Cm (Wr Tm co bf Ls lf ins Eqm)
namespace Ci
open Xo
set_option maxRecDepth 100000
set_option maxHeartbeats 4000000

theorem Rt.ltx {w : World} {g n : Nat} {f : Nat → Trm} (h : Rt w g 0 (n + 2) (ex n f)) : Lt w (some ⟨g, 0, none⟩) n f := ⟨g, 0, fun _ => rfl, fun _ => (h.less (Nat.le_add_right n 2)).congr (fun k hk => ex_lt f hk)⟩
theorem own_rtx {w : World} {base n g c : Nat} {t : TypeId} {f : Nat → Trm} (h : w.ownsRow base t 6 (.slice (some ⟨g, 0, none⟩) n c) n (tvs n f)) : Rt w g 0 n f := own_rt h
/-- what lies ahead of the sums -/
structure Bs (w y : World) (n m : Nat) (f g : Nat → Trm) (k : E4) (qk qi : Int) (gx cx gy cy kb wb : Nat) : Prop where
  bel : Below w.heap.size w y
  k0 : y.cell? ⟨kb, 0, none⟩ = some (.int .u64 k.x0)
  k1 : y.cell? ⟨kb, 1, none⟩ = some (.int .u64 k.x1)
  k2 : y.cell? ⟨kb, 2, none⟩ = some (.int .u64 k.x2)
  k3 : y.cell? ⟨kb, 3, none⟩ = some (.int .u64 k.x3)
  q0 : y.cell? ⟨wb, 0, none⟩ = some (.int .i64 qk)
  q1 : y.cell? ⟨wb, 1, none⟩ = some (.int .i64 qi)
  cx : n + 2 ≤ cx
  cy : m + 2 ≤ cy
  X : Rt y gx 0 (n + 2) (ex n f)
  Y : Rt y gy 0 (m + 2) (ex m g)
theorem Bs.keep {w y y' : World} {n m : Nat} {f g : Nat → Trm} {k : E4} {qk qi : Int} {gx cx gy cy kb wb : Nat} (h : Bs w y n m f g k qk qi gx cx gy cy kb wb) (hb : Below y.heap.size y y') : Bs w y' n m f g k qk qi gx cx gy cy kb wb :=
  ⟨bl_trans h.bel hb, cell_keep h.k0 hb, cell_keep h.k1 hb, cell_keep h.k2 hb, cell_keep h.k3 hb, cell_keep h.q0 hb, cell_keep h.q1 hb, h.cx, h.cy, h.X.keep hb, h.Y.keep hb⟩
theorem cP0 (q : Wr) (y : World) : Calls Tryd.prog 6 #[.agg #[.int .i64 q.1, .int .i64 q.2]] y fun e w' => Lz 49 y [(q, 1)] e w' := (Of_any q y).mono fun e w' h => lq_z h
theorem cP1 (k : E4) (y : World) (hT : Tb y) (hk : k.ok) : Calls Tryd.prog 7 #[.agg #[.int .u64 k.x0, .int .u64 k.x1, .int .u64 k.x2, .int .u64 k.x3]] y fun e w' => Lz 49 y (lf Sm.L [((1, 0), k.n)]) e w' := (Const_any k y hT hk).mono fun e w' h => lq_z (by rw [const_is] at h; exact h)
section
variable {w y : World} {n m : Nat} {f g : Nat → Trm} {k : E4} {qk qi : Int} {gx cx gy cy kb wb : Nat}
theorem cP2 (hT : Tb y) (hN : n ≤ 1048576 ∧ m ≤ 1048576) (hf : ∀ k, k < n → (f k).a.ok) (hg : ∀ k, k < m → (g k).a.ok) (h : Bs w y n m f g k qk qi gx cx gy cy kb wb) : Calls Tryd.prog 8 #[.slice (some ⟨gx, 0, none⟩) n cx, .slice (some ⟨gy, 0, none⟩) m cy] y fun e w' => Lz 49 y (lf Sm.L (glL n f ++ glL m g)) e w' :=
  (Add_lin (some ⟨gx, 0, none⟩) (some ⟨gy, 0, none⟩) n cx m cy f g y hT (by omega) hf hg (Rt.ltx h.X) (Rt.ltx h.Y)).mono fun e w' h => lq_z h
theorem cP3 (hT : Tb y) (hN : n ≤ 1048576 ∧ m ≤ 1048576) (hf : ∀ k, k < n → (f k).a.ok) (hg : ∀ k, k < m → (g k).a.ok) (h : Bs w y n m f g k qk qi gx cx gy cy kb wb) : Calls Tryd.prog 9 #[.slice (some ⟨gx, 0, none⟩) n cx, .slice (some ⟨gy, 0, none⟩) m cy] y fun e w' => Lz 49 y (lf Sm.L (glL n f ++ lf Sm.L (sc (-1) (glL m g)))) e w' :=
  (Sub_lin (some ⟨gx, 0, none⟩) (some ⟨gy, 0, none⟩) n cx m cy f g y hT (by omega) hf hg (Rt.ltx h.X) (Rt.ltx h.Y)).mono fun e w' h => lq_z (by rw [sub_is] at h; exact h)
theorem cP4 (hT : Tb y) (hN : n ≤ 1048576 ∧ m ≤ 1048576) (hf : ∀ k, k < n → (f k).a.ok) (hk : k.ok) (h : Bs w y n m f g k qk qi gx cx gy cy kb wb) : Calls Tryd.prog 10 #[.slice (some ⟨gx, 0, none⟩) n cx, .agg #[.int .u64 k.x0, .int .u64 k.x1, .int .u64 k.x2, .int .u64 k.x3]] y fun e w' => Lz 49 y (lf Sm.L (sc k.n (glL n f))) e w' :=
  (Times_any (some ⟨gx, 0, none⟩) n cx f k y hT (by omega) hk hf (Rt.ltx h.X)).mono fun e w' h => lq_z (by rw [glM_sc] at h; exact h)
theorem cP5 (hT : Tb y) (hN : n ≤ 1048576 ∧ m ≤ 1048576) (hf : ∀ k, k < n → (f k).a.ok) (h : Bs w y n m f g k qk qi gx cx gy cy kb wb) : Calls Tryd.prog 11 #[.slice (some ⟨gx, 0, none⟩) n cx] y fun e w' => Lz 49 y (lf Sm.L (glL n f)) e w' :=
  (Least_lin (some ⟨gx, 0, none⟩) n cx f y hT (by omega) hf (Rt.ltx h.X)).mono fun e w' h => lq_z h
theorem cP6 (hT : Tb y) (hN : n ≤ 1048576 ∧ m ≤ 1048576) (hg : ∀ k, k < m → (g k).a.ok) (h : Bs w y n m f g k qk qi gx cx gy cy kb wb) : Calls Tryd.prog 11 #[.slice (some ⟨gy, 0, none⟩) m cy] y fun e w' => Lz 49 y (lf Sm.L (glL m g)) e w' :=
  (Least_lin (some ⟨gy, 0, none⟩) m cy g y hT (by omega) hg (Rt.ltx h.Y)).mono fun e w' h => lq_z h
end
theorem cR0 (q : Wr) (y : World) : Calls Tryd.prog 12 #[.agg #[.int .i64 q.1, .int .i64 q.2]] y fun e w' => Lz 52 y [(q, 1)] e w' := (dOf_any q y).mono fun e w' h => dl_z h
theorem cR1 (kn : Int) (y : World) : Calls Tryd.prog 14 #[.agg #[.int .u64 (lst kn).x0, .int .u64 (lst kn).x1, .int .u64 (lst kn).x2, .int .u64 (lst kn).x3]] y fun e w' => Lz 52 y (lf Sm.L [((1, 0), kn)]) e w' := (dConst_any kn y).mono fun e w' h => dl_z h
theorem cR2 {P Q : Option Addr} {c d : Nat} {A Y : List Tm} {y : World} (hn : A.length + Y.length ≤ 2932031007400) (h1 : Lt y P A.length (ft A)) (h2 : Lt y Q Y.length (ft Y)) : Calls Tryd.prog 16 #[.slice P A.length c, .slice Q Y.length d] y fun e w' => Lz 52 y (lf Sm.L (A ++ Y)) e w' := (dAdd_any P Q c d A Y y hn h1 h2).mono fun e w' h => dl_z h
theorem cR3 {P Q : Option Addr} {c d : Nat} {A Y : List Tm} {y : World} (hn : A.length + Y.length ≤ 2932031007400) (h1 : Lt y P A.length (ft A)) (h2 : Lt y Q Y.length (ft Y)) : Calls Tryd.prog 17 #[.slice P A.length c, .slice Q Y.length d] y fun e w' => Lz 52 y (lf Sm.L (A ++ lf Sm.L (sc (-1) Y))) e w' := (dSub_any P Q c d A Y y hn h1 h2).mono fun e w' h => dl_z h
theorem cR4 {P : Option Addr} {c : Nat} {A : List Tm} {kn : Int} {y : World} (hn : A.length ≤ 2932031007400) (h1 : Lt y P A.length (ft A)) : Calls Tryd.prog 18 #[.slice P A.length c, .agg #[.int .u64 (lst kn).x0, .int .u64 (lst kn).x1, .int .u64 (lst kn).x2, .int .u64 (lst kn).x3]] y fun e w' => Lz 52 y (lf Sm.L (sc kn A)) e w' := (dTimes_any P c A kn y hn h1).mono fun e w' h => dl_z h
theorem cR5 {P : Option Addr} {c : Nat} {A : List Tm} {y : World} (hn : A.length ≤ 2932031007400) (h1 : Lt y P A.length (ft A)) : Calls Tryd.prog 19 #[.slice P A.length c] y fun e w' => Lz 52 y (lf Sm.L A) e w' := (dLeast_any P c A y hn h1).mono fun e w' h => dl_z h
def za (Zs : List Z3) (i : Nat) : Z3 := Zs.getD i ([], none, 0)
theorem za_at {Zs : List Z3} {i : Nat} (h : i < Zs.length) : Zs[i]? = some (za Zs i) := by
  unfold za
  rw [List.getD_eq_getElem?_getD, List.getElem?_eq_getElem h]
  rfl
theorem za_v {Zs : List Z3} {i : Nat} (h : i < Zs.length) : (Zs.map zv)[i]? = some (zv (za Zs i)) := by rw [List.getElem?_map, za_at h]; rfl
theorem za_eq {Zs Ys : List Z3} (e : Zs.map Prod.fst = Ys.map Prod.fst) (i : Nat) : (za Zs i).1 = (za Ys i).1 := by
  have h : ∀ Us : List Z3, (za Us i).1 = (Us.map Prod.fst).getD i [] := fun Us => by
    unfold za
    rw [List.getD_eq_getElem?_getD, List.getD_eq_getElem?_getD, List.getElem?_map]
    cases Us[i]? <;> rfl
  rw [h, h, e]
theorem za_all {Zs : List Z3} {b : Nat} (h : ∀ z ∈ Zs, z.1.length ≤ b) (i : Nat) : (za Zs i).1.length ≤ b := by
  unfold za
  rw [List.getD_eq_getElem?_getD]
  cases hz : Zs[i]? with
  | none => exact Nat.zero_le _
  | some z => exact h z (List.mem_of_getElem? hz)
theorem row_cell {w : World} {base B c : Nat} {T : TypeId} {Zs : List Z3} {N : Nat} (h : w.ownsRow base T 1 (.slice (some ⟨B, 0, none⟩) N c) N (Zs.map zv)) {i : Nat} (hi : i < Zs.length) : w.cell? ⟨B, i, none⟩ = some (.slice (za Zs i).2.1 (za Zs i).1.length (za Zs i).2.2) := by
  have := h.cells (g := B) rfl i _ (za_v hi)
  rw [Addr.add_mid, Nat.zero_add] at this
  exact this
theorem Ac.lt {T : TypeId} {w0 w : World} {Zs : List Z3} (h : Ac T w0 Zs w) {i : Nat} (hi : i < Zs.length) : Lt w (za Zs i).2.1 (za Zs i).1.length (ft (za Zs i).1) := own_lts (h.rows i _ (za_at hi))
theorem Ac.twice {T : TypeId} {w0 w : World} {Zs : List Z3} (h : Ac T w0 Zs w) {i : Nat} (hi : i < (Zs ++ Zs).length) : Lt w (za (Zs ++ Zs) i).2.1 (za (Zs ++ Zs) i).1.length (ft (za (Zs ++ Zs) i).1) := by
  have e := za_at hi
  rcases Nat.lt_or_ge i Zs.length with h1 | h1
  · rw [List.getElem?_append_left h1] at e
    exact own_lts (h.rows i _ e)
  · rw [List.getElem?_append_right h1] at e
    exact own_lts (h.rows _ _ e)
theorem len_all {n m : Nat} {f g : Nat → Trm} {k : E4} {q : Wr} {X0 X1 X2 X3 X4 X5 X6 : List Tm} (h : X0 = [(q, 1)] ∧ X1 = lf Sm.L [((1, 0), k.n)] ∧ X2 = lf Sm.L (glL n f ++ glL m g) ∧ X3 = lf Sm.L (glL n f ++ lf Sm.L (sc (-1) (glL m g))) ∧ X4 = lf Sm.L (sc k.n (glL n f)) ∧ X5 = lf Sm.L (glL n f) ∧ X6 = lf Sm.L (glL m g)) (hN : n ≤ 1048576 ∧ m ≤ 1048576) :
    X0.length ≤ 2097152 ∧ X1.length ≤ 2097152 ∧ X2.length ≤ 2097152 ∧ X3.length ≤ 2097152 ∧ X4.length ≤ 2097152 ∧ X5.length ≤ 2097152 ∧ X6.length ≤ 2097152 := by
  obtain ⟨rfl, rfl, rfl, rfl, rfl, rfl, rfl⟩ := h
  have l0 := fun X => lf_len X
  have a1 := glL_len n f
  have a2 := glL_len m g
  have b1 := l0 [((1, 0), k.n)]
  have b2 := l0 (glL n f ++ glL m g)
  have b3 := l0 (glL n f ++ lf Sm.L (sc (-1) (glL m g)))
  have b4 := l0 (sc (-1) (glL m g))
  have b5 := l0 (sc k.n (glL n f))
  have b6 := l0 (glL n f)
  have b7 := l0 (glL m g)
  rw [List.length_append] at b2 b3
  rw [sc_len] at b4 b5
  simp only [List.length_cons, List.length_nil] at b1 ⊢
  omega
theorem Ac.twiceR {T : TypeId} {w0 w : World} {Zs : List Z3} (h : Ac T w0 Zs w) {i : Nat} (hi : i < (Zs ++ Zs).length) : w.ownsRow w0.heap.size T 6 (zv (za (Zs ++ Zs) i)) (za (Zs ++ Zs) i).1.length (tls (za (Zs ++ Zs) i).1) := by
  have e := za_at hi
  rcases Nat.lt_or_ge i Zs.length with h1 | h1
  · rw [List.getElem?_append_left h1] at e
    exact h.rows i _ e
  · rw [List.getElem?_append_right h1] at e
    exact h.rows _ _ e
theorem set6 (A ys : List Value) (m : Nat) (a b c d e f : Value) (hA : A.length = m) (hy : 6 ≤ ys.length) : ((((((A ++ ys).set m a).set (m + 1) b).set (m + 2) c).set (m + 3) d).set (m + 4) e).set (m + 5) f = A ++ [a, b, c, d, e, f] ++ ys.drop 6 := by
  match ys, hy with
  | y0 :: y1 :: y2 :: y3 :: y4 :: y5 :: ys, _ =>
    subst hA
    simp
theorem gx_set6 {n : Nat → Nat} {x e : Nat → List Value} (i k : Nat) (a b c d p q : Value) (hx : (x i).length = n i * 6) (hk : k < n i) (he : e i = [a, b, c, d, p, q]) : ((((((gx 6 n e x i k i).set (k * 6) a).set (k * 6 + 1) b).set (k * 6 + 2) c).set (k * 6 + 3) d).set (k * 6 + 4) p).set (k * 6 + 5) q = gx 6 n e x i (k + 1) i := by
  unfold gx
  rw [if_neg (Nat.lt_irrefl i), if_pos rfl, if_neg (Nat.lt_irrefl i), if_pos rfl]
  rw [set6 _ _ (k * 6) a b c d p q (by rw [rpt_len, he]; rfl) (by rw [List.length_drop, hx]; omega), List.drop_drop, rpt, he]
  rw [show k * 6 + 6 = (k + 1) * 6 by omega]
theorem Ar.put6 {U : TypeId → Prop} {w1 : World} (hU : ¬ U 49) {w0 : World} {B c i k b : Nat} {n : Nat → Nat} {p : Nat → Option Addr} {d : Nat → Nat} {x e : Nat → List Value} {w : World} {y0 y1 y2 y3 y4 y5 : Value} (h : Ar U w1 49 6 w0 B c n p d (gx 6 n e x i k) w) (A : Aq w0 B c n p d) (hx : ∀ j, j < c → (x j).length = n j * 6) (hi : i < c) (hk : k < n i) (hp : p i = some ⟨b, 0, none⟩) (he : e i = [y0, y1, y2, y3, y4, y5]) : Ar U w1 49 6 w0 B c n p d (gx 6 n e x i (k + 1)) ((((((w.setCell ⟨b, k * 6, none⟩ y0).setCell ⟨b, k * 6 + 1, none⟩ y1).setCell ⟨b, k * 6 + 2, none⟩ y2).setCell ⟨b, k * 6 + 3, none⟩ y3).setCell ⟨b, k * 6 + 4, none⟩ y4).setCell ⟨b, k * 6 + 5, none⟩ y5) := by
  have hr := h.rows i hi
  rw [hp] at hr
  obtain ⟨o0, g0⟩ := hr.stored (k * 6) y0
  obtain ⟨o1, g1⟩ := o0.stored (k * 6 + 1) y1
  obtain ⟨o2, g2⟩ := o1.stored (k * 6 + 2) y2
  obtain ⟨o3, g3⟩ := o2.stored (k * 6 + 3) y3
  obtain ⟨o4, g4⟩ := o3.stored (k * 6 + 4) y4
  obtain ⟨o5, g5⟩ := o4.stored (k * 6 + 5) y5
  exact (h.wrote hU A hi hp o5 (((((g0.trans g1).trans g2).trans g3).trans g4).trans g5)).congr (fun j hj => gx_step x i k j _ (gx_set6 i k _ _ _ _ _ _ (hx i hi) hk he))
def em6 (i : Nat) : List Value := [.int .i64 (100 + (i : Int)), .int .i64 0, .int .u64 0, .int .u64 0, .int .u64 0, .int .u64 0]
def Uk (u : TypeId) : Prop := u = 52 ∨ u = 31
theorem cells_newP (w : World) (cs : List Value) (t : TypeId) : ∀ j u, cs[j]? = some u → (w.alloc (.cells cs.toArray t)).cell? ((⟨w.heap.size, 0, none⟩ : Addr).add j) = some u := cells_newT w cs t
set_option maxHeartbeats 16000000 in
theorem sums_any (P Q : Option Addr) (n m ca cb : Nat) (f g : Nat → Trm) (k : E4) (q : Wr) (w : World) (hT : Tb w) (hM : Mk w) (hn : n ≤ 1048576) (hm : m ≤ 1048576) (hf : ∀ k, k < n → (f k).a.ok) (hg : ∀ k, k < m → (g k).a.ok) (hk : k.ok) (hP : P = none → ca = 0) (hQ : Q = none → cb = 0) (hL : Lt w P n f) (hL2 : Lt w Q m g) :
    Calls Tryd.prog 3 #[.slice P n ca, .slice Q m cb, .agg #[.int .u64 k.x0, .int .u64 k.x1, .int .u64 k.x2, .int .u64 k.x3], .agg #[.int .i64 q.1, .int .i64 q.2]] w fun e w' => e = .returned (.bool true) ∧ Below w.heap.size w w' := by
  have HT := hidden hT
  have HM := hidden hM
  have HN := hidden (And.intro hn hm)
  have HF := hidden hf
  have HG := hidden hg
  have HK := hidden hk
  have HL := hidden hL
  have HL2 := hidden hL2
  have RM1 : Hid (∀ y, Below w.heap.size w y → _) := hidden (fun y hb => room_any P n ca f y (by omega) hP (hM.keep hb) (hL.keep hb))
  have RM2 : Hid (∀ y, Below w.heap.size w y → _) := hidden (fun y hb => room_any Q m cb g y (by omega) hQ (hM.keep hb) (hL2.keep hb))
  have LN1 : Hid (∀ y, Below w.heap.size w y → _) := hidden (fun y hb => lin_any P n ca f y (by omega) hf (hL.keep hb))
  have LN2 : Hid (∀ y, Below w.heap.size w y → _) := hidden (fun y hb => lin_any Q m cb g y (by omega) hg (hL2.keep hb))
  clear hT hM hn hm hf hg hk hL hL2 hP hQ
  obtain ⟨qk, qi⟩ := q
  simp only
  go_enter Tryd.func3, Tryd.ntmps3
  go_upto_region 1 with fail
  have B0 := hidden (bl_trans (bl_alloc w (.cells #[.int .u64 k.x0, .int .u64 k.x1, .int .u64 k.x2, .int .u64 k.x3] 26)) (bl_alloc (w.alloc (.cells #[.int .u64 k.x0, .int .u64 k.x1, .int .u64 k.x2, .int .u64 k.x3] 26)) (.cells #[.int .i64 qk, .int .i64 qi] 28)))
  have k0 : ((w.alloc (.cells #[.int .u64 k.x0, .int .u64 k.x1, .int .u64 k.x2, .int .u64 k.x3] 26)).alloc (.cells #[.int .i64 qk, .int .i64 qi] 28)).cell? ⟨w.heap.size, 0, none⟩ = some (.int .u64 k.x0) := by go_simp
  have k1 : ((w.alloc (.cells #[.int .u64 k.x0, .int .u64 k.x1, .int .u64 k.x2, .int .u64 k.x3] 26)).alloc (.cells #[.int .i64 qk, .int .i64 qi] 28)).cell? ⟨w.heap.size, 1, none⟩ = some (.int .u64 k.x1) := by go_simp
  have k2 : ((w.alloc (.cells #[.int .u64 k.x0, .int .u64 k.x1, .int .u64 k.x2, .int .u64 k.x3] 26)).alloc (.cells #[.int .i64 qk, .int .i64 qi] 28)).cell? ⟨w.heap.size, 2, none⟩ = some (.int .u64 k.x2) := by go_simp
  have k3 : ((w.alloc (.cells #[.int .u64 k.x0, .int .u64 k.x1, .int .u64 k.x2, .int .u64 k.x3] 26)).alloc (.cells #[.int .i64 qk, .int .i64 qi] 28)).cell? ⟨w.heap.size, 3, none⟩ = some (.int .u64 k.x3) := by go_simp
  have q0 : ((w.alloc (.cells #[.int .u64 k.x0, .int .u64 k.x1, .int .u64 k.x2, .int .u64 k.x3] 26)).alloc (.cells #[.int .i64 qk, .int .i64 qi] 28)).cell? ⟨w.heap.size + 1, 0, none⟩ = some (.int .i64 qk) := by go_simp
  have q1 : ((w.alloc (.cells #[.int .u64 k.x0, .int .u64 k.x1, .int .u64 k.x2, .int .u64 k.x3] 26)).alloc (.cells #[.int .i64 qk, .int .i64 qi] 28)).cell? ⟨w.heap.size + 1, 1, none⟩ = some (.int .i64 qi) := by go_simp
  have KQ := hidden (And.intro k0 (And.intro k1 (And.intro k2 (And.intro k3 (And.intro q0 q1)))))
  clear k0 k1 k2 k3 q0 q1
  generalize ((w.alloc (.cells #[.int .u64 k.x0, .int .u64 k.x1, .int .u64 k.x2, .int .u64 k.x3] 26)).alloc (.cells #[.int .i64 qk, .int .i64 qi] 28)) = wb at *
  go_upto_region 2 with (first | (go_at_call 4; refine (RM1.out _ B0.out).mono ?_; rintro e w1 ⟨gx, cx, rfl, hcx, hox, hb⟩; have B1 := hidden (bl_trans B0.out hb); have BB1 := hidden hb; have X1 := hidden (own_rt hox); have CX := hidden hcx; clear hcx hox hb RM1) | (go_at_call 4; refine (RM2.out _ B1.out).mono ?_; rintro e w2 ⟨gy, cy, rfl, hcx, hox, hb⟩; have B2 := hidden (bl_trans B1.out hb); have BB2 := hidden (bl_trans BB1.out hb); have X2 := hidden (X1.out.keep hb); have Y2 := hidden (own_rt hox); have CY := hidden hcx; clear hcx hox hb RM2))
  have BS2 : Hid (Bs w w2 n m f g k qk qi gx cx gy cy w.heap.size (w.heap.size + 1)) := hidden (by
    obtain ⟨k0, k1, k2, k3, q0, q1⟩ := KQ.out
    have hb := BB2.out
    exact ⟨B2.out, cell_keep k0 hb, cell_keep k1 hb, cell_keep k2 hb, cell_keep k3 hb, cell_keep q0 hb, cell_keep q1 hb, CX.out, CY.out, X2.out, Y2.out⟩)
  clear KQ BB1 BB2 X1 X2 Y2 CX CY B0 B1
  go_upto_region 3 with (first | (go_at_call 5; refine (LN1.out _ B2.out).mono ?_; rintro e w3 ⟨vl, rfl, hd⟩; have B3 := hidden (bl_trans B2.out hd.2); have D3 := hidden hd; clear hd LN1) | (go_at_call 5; refine (LN2.out _ B3.out).mono ?_; rintro e w4 ⟨vm, rfl, hd⟩; have D4 := hidden hd; have D5 := hidden (D3.out.keep hd.2); have BS4 := hidden ((BS2.out.keep D3.out.2).keep hd.2); clear hd LN2 BS2 D3))
  clear B2 B3
  obtain ⟨pl, cl, rfl, hl⟩ := D5.out.shape
  obtain ⟨pm, cm, rfl, hm2⟩ := D4.out.shape
  have T4 := hidden (HT.out.keep BS4.out.bel)
  have LL := hidden hl
  have LM := hidden hm2
  have HKL : Hid (w.heap.size < w4.heap.size ∧ w.heap.size + 1 < w4.heap.size) := hidden ⟨World.block_lt_of_cell? w4 _ BS4.out.k0, World.block_lt_of_cell? w4 _ BS4.out.q0⟩
  clear D4 D5 hl hm2
  obtain ⟨X0, hX0⟩ : ∃ X : List Tm, X = [((qk, qi), 1)] := ⟨_, rfl⟩
  obtain ⟨X1, hX1⟩ : ∃ X : List Tm, X = lf Sm.L [((1, 0), k.n)] := ⟨_, rfl⟩
  obtain ⟨X2, hX2⟩ : ∃ X : List Tm, X = lf Sm.L (glL n f ++ glL m g) := ⟨_, rfl⟩
  obtain ⟨X3, hX3⟩ : ∃ X : List Tm, X = lf Sm.L (glL n f ++ lf Sm.L (sc (-1) (glL m g))) := ⟨_, rfl⟩
  obtain ⟨X4, hX4⟩ : ∃ X : List Tm, X = lf Sm.L (sc k.n (glL n f)) := ⟨_, rfl⟩
  obtain ⟨X5, hX5⟩ : ∃ X : List Tm, X = lf Sm.L (glL n f) := ⟨_, rfl⟩
  obtain ⟨X6, hX6⟩ : ∃ X : List Tm, X = lf Sm.L (glL m g) := ⟨_, rfl⟩
  have C0 : Hid (∀ y, Below w4.heap.size w4 y → Calls Tryd.prog 6 #[.agg #[.int .i64 qk, .int .i64 qi]] y fun e w' => Lz 49 y X0 e w') := hidden (fun y hb => by rw [hX0]; exact cP0 (qk, qi) y)
  have C1 : Hid (∀ y, Below w4.heap.size w4 y → Calls Tryd.prog 7 #[.agg #[.int .u64 k.x0, .int .u64 k.x1, .int .u64 k.x2, .int .u64 k.x3]] y fun e w' => Lz 49 y X1 e w') := hidden (fun y hb => by rw [hX1]; exact cP1 k y (T4.out.keep hb) HK.out)
  have C2 : Hid (∀ y, Below w4.heap.size w4 y → Calls Tryd.prog 8 #[.slice (some ⟨gx, 0, none⟩) n cx, .slice (some ⟨gy, 0, none⟩) m cy] y fun e w' => Lz 49 y X2 e w') := hidden (fun y hb => by rw [hX2]; exact cP2 (T4.out.keep hb) HN.out HF.out HG.out (BS4.out.keep hb))
  have C3 : Hid (∀ y, Below w4.heap.size w4 y → Calls Tryd.prog 9 #[.slice (some ⟨gx, 0, none⟩) n cx, .slice (some ⟨gy, 0, none⟩) m cy] y fun e w' => Lz 49 y X3 e w') := hidden (fun y hb => by rw [hX3]; exact cP3 (T4.out.keep hb) HN.out HF.out HG.out (BS4.out.keep hb))
  have C4 : Hid (∀ y, Below w4.heap.size w4 y → Calls Tryd.prog 10 #[.slice (some ⟨gx, 0, none⟩) n cx, .agg #[.int .u64 k.x0, .int .u64 k.x1, .int .u64 k.x2, .int .u64 k.x3]] y fun e w' => Lz 49 y X4 e w') := hidden (fun y hb => by rw [hX4]; exact cP4 (T4.out.keep hb) HN.out HF.out HK.out (BS4.out.keep hb))
  have C5 : Hid (∀ y, Below w4.heap.size w4 y → Calls Tryd.prog 11 #[.slice (some ⟨gx, 0, none⟩) n cx] y fun e w' => Lz 49 y X5 e w') := hidden (fun y hb => by rw [hX5]; exact cP5 (T4.out.keep hb) HN.out HF.out (BS4.out.keep hb))
  have C6 : Hid (∀ y, Below w4.heap.size w4 y → Calls Tryd.prog 11 #[.slice (some ⟨gy, 0, none⟩) m cy] y fun e w' => Lz 49 y X6 e w') := hidden (fun y hb => by rw [hX6]; exact cP6 (T4.out.keep hb) HN.out HG.out (BS4.out.keep hb))
  have HX := hidden (And.intro hX0 (And.intro hX1 (And.intro hX2 (And.intro hX3 (And.intro hX4 (And.intro hX5 hX6))))))
  clear hX0 hX1 hX2 hX3 hX4 hX5 hX6
  refine su3 _ w.heap.size (w.heap.size + 1) k qk qi _ _ X0 X1 X2 X3 X4 X5 X6 _ _ _ _ _ _ _ _ _ _ _ _ _ _ _ _ _ _ _ _ _ _ _ _ _ _ _ _ _ _ _ _ _ _ _ _ _ _ _ _ _ _ _ _ _ _ _ _ _ _ _ _ _ _ _ _ _ _ _ _ _ _ _ _ _ _ _ _ _ _ _ _ _ _ _ _ _ _ _ _ _ _ _ _ _ _ _ _ _ _ _ _ _ _ _ _ _ _ _ _ _ _ _ _ _ _ _ _ _ _ _ _ _ _ _ _ _ _ _ _ _ _ _ _ _ _ _ _ _ _ _ _ _ _ _ _ _ _ _ _ _ _ _ _ _ _ _ _ _ _ _ _ _ _ _ _ _ _ _ _ _ _ _ _ _ _ _ _ _ _ _ _ _ _ _ _ _ _ _ _ _ _ _ _ _ _ _ _ _ _ _ _ _ _ _ _ _ _ _ _ _ _ _ _ _ _ _ _ _ _ _ _ _ _ _ _ _ _ _ _ _ _ _ _ _ _ _ _ _ _ _ _ _ _ _ _ w4 BS4.out.k0 BS4.out.k1 BS4.out.k2 BS4.out.k3 BS4.out.q0 BS4.out.q1 C0 C1 C2 C3 C4 C5 C6 (hidden ?_)
  intro w5 tb p0 p1 p2 p3 p4 p5 p6 c0 c1 c2 c3 c4 c5 c6 hA hO
  have AC := hidden hA
  have OA := hidden hO
  have BS5 := hidden (BS4.out.keep AC.out.bel)
  clear hA hO
  have E0 := hidden (fun y (hb : Below w4.heap.size w5 y) => C0.out y (below_tr AC.out.bel hb))
  have E1 := hidden (fun y (hb : Below w4.heap.size w5 y) => C1.out y (below_tr AC.out.bel hb))
  have E2 := hidden (fun y (hb : Below w4.heap.size w5 y) => C2.out y (below_tr AC.out.bel hb))
  have E3 := hidden (fun y (hb : Below w4.heap.size w5 y) => C3.out y (below_tr AC.out.bel hb))
  have E4 := hidden (fun y (hb : Below w4.heap.size w5 y) => C4.out y (below_tr AC.out.bel hb))
  have E5 := hidden (fun y (hb : Below w4.heap.size w5 y) => C5.out y (below_tr AC.out.bel hb))
  have E6 := hidden (fun y (hb : Below w4.heap.size w5 y) => C6.out y (below_tr AC.out.bel hb))
  go_upto_region 4 with fail
  refine su4 _ w.heap.size (w.heap.size + 1) tb k qk qi _ _ X0 X1 X2 X3 X4 X5 X6 p0 p1 p2 p3 p4 p5 p6 c0 c1 c2 c3 c4 c5 c6 _ _ _ _ _ _ _ _ _ _ _ _ _ _ _ _ _ _ _ _ _ _ _ _ _ _ _ _ _ _ _ _ _ _ _ _ _ _ _ _ _ _ _ _ _ _ _ _ _ _ _ _ _ _ _ _ _ _ _ _ _ _ _ _ _ _ _ _ _ _ _ _ _ _ _ _ _ _ _ _ _ _ _ _ _ _ _ _ _ _ _ _ _ _ _ _ _ _ _ _ _ _ _ _ _ _ _ _ _ _ _ _ _ _ _ _ _ _ _ _ _ _ _ _ _ _ _ _ _ _ _ _ _ _ _ _ _ _ _ _ _ _ _ _ _ _ _ _ _ _ _ _ _ _ _ _ _ _ _ _ _ _ _ _ _ _ _ _ _ _ _ _ _ _ _ _ _ _ _ _ _ _ _ _ _ _ _ _ _ _ _ _ _ _ _ _ _ _ _ _ _ _ _ _ _ _ _ _ _ _ _ _ _ _ _ _ _ _ _ _ _ _ _ _ _ _ _ _ _ _ _ _ _ _ _ w5 BS5.out.k0 BS5.out.k1 BS5.out.k2 BS5.out.k3 BS5.out.q0 BS5.out.q1 w4 AC.out OA.out (hidden AC.out.bel.size) (hidden HKL.out.1) (hidden HKL.out.2) E0 E1 E2 E3 E4 E5 E6 (hidden ?_)
  intro w6 t2 r0 r1 r2 r3 r4 r5 r6 d0 d1 d2 d3 d4 d5 d6 v9 hA hO
  have AC6 := hidden hA
  have OA6 := hidden hO
  have BS6 := hidden (BS4.out.keep AC6.out.bel)
  clear hA hO AC OA BS5 E0 E1 E3 E4 E5 E6 E2 C0 C1 C3 C4 C5 C6
  obtain ⟨r, hr⟩ : ∃ r, lst k.n = r := ⟨_, rfl⟩
  have CW := hidden (fun y => wire19_any (qk, qi) y)
  simp only at CW
  have CN := fun y => num19_any k HK.out y
  rw [hr] at CN
  replace CN := hidden CN
  have G0 : Hid (∀ y, Below w6.heap.size w6 y → Calls Tryd.prog 12 #[.agg #[.int .i64 qk, .int .i64 qi]] y fun e w' => Lz 52 y X0 e w') := hidden (fun y hb => by rw [HX.out.1]; exact cR0 (qk, qi) y)
  have G1 : Hid (∀ y, Below w6.heap.size w6 y → Calls Tryd.prog 14 #[.agg #[.int .u64 r.x0, .int .u64 r.x1, .int .u64 r.x2, .int .u64 r.x3]] y fun e w' => Lz 52 y X1 e w') := hidden (fun y hb => by rw [HX.out.2.1]; exact (by rw [← hr]; exact cR1 k.n y))
  have G2 : Hid (∀ y, Below w6.heap.size w6 y → Calls Tryd.prog 16 #[.slice pl (glL n f).length cl, .slice pm (glL m g).length cm] y fun e w' => Lz 52 y X2 e w') := hidden (fun y hb => by rw [HX.out.2.2.1]; exact cR2 (by rw [glL_len, glL_len]; have := HN.out; omega) (LL.out.keep (bl_trans AC6.out.bel hb)) (LM.out.keep (bl_trans AC6.out.bel hb)))
  have G3 : Hid (∀ y, Below w6.heap.size w6 y → Calls Tryd.prog 17 #[.slice pl (glL n f).length cl, .slice pm (glL m g).length cm] y fun e w' => Lz 52 y X3 e w') := hidden (fun y hb => by rw [HX.out.2.2.2.1]; exact cR3 (by rw [glL_len, glL_len]; have := HN.out; omega) (LL.out.keep (bl_trans AC6.out.bel hb)) (LM.out.keep (bl_trans AC6.out.bel hb)))
  have G4 : Hid (∀ y, Below w6.heap.size w6 y → Calls Tryd.prog 18 #[.slice pl (glL n f).length cl, .agg #[.int .u64 r.x0, .int .u64 r.x1, .int .u64 r.x2, .int .u64 r.x3]] y fun e w' => Lz 52 y X4 e w') := hidden (fun y hb => by rw [HX.out.2.2.2.2.1]; exact (by rw [← hr]; exact cR4 (by rw [glL_len]; have := HN.out; omega) (LL.out.keep (bl_trans AC6.out.bel hb))))
  have G5 : Hid (∀ y, Below w6.heap.size w6 y → Calls Tryd.prog 19 #[.slice pl (glL n f).length cl] y fun e w' => Lz 52 y X5 e w') := hidden (fun y hb => by rw [HX.out.2.2.2.2.2.1]; exact cR5 (by rw [glL_len]; have := HN.out; omega) (LL.out.keep (bl_trans AC6.out.bel hb)))
  have G6 : Hid (∀ y, Below w6.heap.size w6 y → Calls Tryd.prog 19 #[.slice pm (glL m g).length cm] y fun e w' => Lz 52 y X6 e w') := hidden (fun y hb => by rw [HX.out.2.2.2.2.2.2]; exact cR5 (by rw [glL_len]; have := HN.out; omega) (LM.out.keep (bl_trans AC6.out.bel hb)))
  clear hr
  go_upto_region 5 with fail
  refine su5 _ w.heap.size (w.heap.size + 1) k r qk qi _ _ X0 X1 X2 X3 X4 X5 X6 _ _ _ _ _ _ _ _ _ _ _ _ _ _ _ _ _ _ _ _ _ _ _ _ _ _ _ _ _ _ _ _ _ _ _ _ _ _ _ _ _ _ _ _ _ _ _ _ _ _ _ _ _ _ _ _ _ _ _ _ _ _ _ _ _ _ _ _ _ _ _ _ _ _ _ _ _ _ _ _ _ _ _ _ _ _ _ _ _ _ _ _ _ _ _ _ _ _ _ _ _ _ _ _ _ _ _ _ _ _ _ _ _ _ _ _ _ _ _ _ _ _ _ _ _ _ _ _ _ _ _ _ _ _ _ _ _ _ _ _ _ _ _ _ _ _ _ _ _ _ _ _ _ _ _ _ _ _ _ _ _ _ _ _ _ _ _ _ _ _ _ _ _ _ _ _ _ _ _ _ _ _ _ _ _ _ _ _ _ _ _ _ _ _ _ _ _ _ _ _ _ _ _ _ _ _ _ _ _ _ _ _ _ _ _ _ _ _ _ _ _ _ _ _ _ _ _ _ _ _ _ _ _ _ _ _ w6 BS6.out.k0 BS6.out.k1 BS6.out.k2 BS6.out.k3 BS6.out.q0 BS6.out.q1 CW CN G0 G1 G2 G3 G4 G5 G6 (hidden ?_)
  intro w7 td s0 s1 s2 s3 s4 s5 s6 e0 e1 e2 e3 e4 e5 e6 hA hO
  have DC := hidden hA
  have OW := hidden hO
  have AC7 := hidden (AC6.out.keep DC.out.bel)
  have OA7 := hidden (own_keepT OA6.out DC.out.bel)
  have SZ46 := hidden AC6.out.bel.size
  clear hA hO CW CN G0 G1 G2 G3 G4 G5 G6 BS6 AC6 OA6 LL LM
  have HI : Hid ((Tryd.prog.info? 31) = some (Tryd.prog.info? 31).get!) := hidden (by kernel_rfl)
  have HZ0 : Hid ((Tryd.prog.info? 31).get!.zero = some (.slice none 0 0)) := hidden (by kernel_rfl)
  have HZ1 : Hid ((Tryd.prog.info? 31).get!.size = 1) := hidden (by kernel_rfl)
  have HZ2 : Hid ((Tryd.prog.info? 31).get!.bytes = 24) := hidden (by kernel_rfl)
  have T1 : Hid (Tryd.prog.underlying 45 = some (.slice 31)) := hidden (by kernel_rfl)
  have AX : Hid (∀ j u, ([.slice s0 X0.length e0, .slice s1 X1.length e1, .slice s2 X2.length e2, .slice s3 X3.length e3, .slice s4 X4.length e4, .slice s5 X5.length e5, .slice s6 X6.length e6] : List Value)[j]? = some u → w7.cell? ((⟨td, 0, none⟩ : Addr).add j) = some u) := hidden (fun j u hu => OW.out.cells (g := td) rfl j u hu)
  have BX : Hid (w6.heap.size ≤ w7.heap.size) := hidden DC.out.bel.size
  have OX : Hid (∀ u ∈ ([.slice s0 X0.length e0, .slice s1 X1.length e1, .slice s2 X2.length e2, .slice s3 X3.length e3, .slice s4 X4.length e4, .slice s5 X5.length e5, .slice s6 X6.length e6] : List Value), u.oneCell' = true) := hidden (by simp [Value.oneCell'])
  have MX : Hid (7 + 7 ≤ maxLen) := hidden (by unfold maxLen; omega)
  go_upto_region 7 with (first | (at_builtin; (refine wpList_append_own _ rfl _ _ 45 rfl w6.heap.size 31 _ (.slice none 0 0) 1 24 T1.out HI.out HZ0.out HZ1.out HZ2.out rfl (by decide) _ 7 [.slice s0 X0.length e0, .slice s1 X1.length e1, .slice s2 X2.length e2, .slice s3 X3.length e3, .slice s4 X4.length e4, .slice s5 X5.length e5, .slice s6 X6.length e6] (by rfl) OW.out ⟨td, 0, none⟩ 7 7 [.slice s0 X0.length e0, .slice s1 X1.length e1, .slice s2 X2.length e2, .slice s3 X3.length e3, .slice s4 X4.length e4, .slice s5 X5.length e5, .slice s6 X6.length e6] rfl rfl AX.out OX.out MX.out (by decide) BX.out ?_); intro vW w8 ho3 hg3 _; have HO := hidden ho3; have HG := hidden hg3; clear ho3 hg3))
  have DC8 := hidden (DC.out.grow OW.out (by decide) HG.out (Nat.le_refl _))
  have AC8 := hidden (AC7.out.grow OW.out (by decide) HG.out SZ46.out)
  have OA8 := hidden ((own_dj OW.out OA7.out (by decide)).kept OA7.out HG.out)
  obtain ⟨B, cB, rfl, _⟩ := own_some OA8.out (by omega)
  have HO9 : Hid (w8.ownsRow w6.heap.size 31 1 vW 14 ([.slice s0 X0.length e0, .slice s1 X1.length e1, .slice s2 X2.length e2, .slice s3 X3.length e3, .slice s4 X4.length e4, .slice s5 X5.length e5, .slice s6 X6.length e6] ++ [.slice s0 X0.length e0, .slice s1 X1.length e1, .slice s2 X2.length e2, .slice s3 X3.length e3, .slice s4 X4.length e4, .slice s5 X5.length e5, .slice s6 X6.length e6])) := hidden HO.out
  clear HO
  obtain ⟨D, cD, rfl, _⟩ := own_some HO9.out (by omega)
  obtain ⟨Zs, hZ⟩ : ∃ Zs : List Z3, Zs = [(X0, p0, c0), (X1, p1, c1), (X2, p2, c2), (X3, p3, c3), (X4, p4, c4), (X5, p5, c5), (X6, p6, c6), (X0, r0, d0), (X1, r1, d1), (X2, r2, d2), (X3, r3, d3), (X4, r4, d4), (X5, r5, d5), (X6, r6, d6)] := ⟨_, rfl⟩
  obtain ⟨Ys, hY⟩ : ∃ Ys : List Z3, Ys = [(X0, s0, e0), (X1, s1, e1), (X2, s2, e2), (X3, s3, e3), (X4, s4, e4), (X5, s5, e5), (X6, s6, e6)] := ⟨_, rfl⟩
  have ZL : Zs.length = 14 := by rw [hZ]; rfl
  have YL : (Ys ++ Ys).length = 14 := by rw [hY]; rfl
  have ZY : Zs.map Prod.fst = (Ys ++ Ys).map Prod.fst := by rw [hZ, hY]; rfl
  have Y2 : (za (Ys ++ Ys) 2).1 = X2 := by rw [hY]; rfl
  have OA9 : Hid (w8.ownsRow w4.heap.size 23 1 (.slice (some ⟨B, 0, none⟩) 14 cB) 14 (Zs.map zv)) := hidden (by rw [hZ]; exact OA8.out)
  have OY9 : Hid (w8.ownsRow w6.heap.size 31 1 (.slice (some ⟨D, 0, none⟩) 14 cD) 14 ((Ys ++ Ys).map zv)) := hidden (by rw [hY]; exact HO9.out)
  have AC9 : Hid (Ac 49 w4 Zs w8) := hidden (by rw [hZ]; exact AC8.out)
  have DC9 : Hid (Ac 52 w6 Ys w8) := hidden (by rw [hY]; exact DC8.out)
  have ZM : Hid (∀ z ∈ Zs, z.1.length ≤ 2097152) := hidden (by
    obtain ⟨l0, l1, l2, l3, l4, l5, l6⟩ := len_all HX.out HN.out
    rw [hZ]
    intro z hz
    simp only [List.mem_cons, List.not_mem_nil, or_false] at hz
    rcases hz with rfl | rfl | rfl | rfl | rfl | rfl | rfl | rfl | rfl | rfl | rfl | rfl | rfl | rfl <;> assumption)
  have HY2 := hidden (Y2.trans HX.out.2.2.1)
  have HZY := hidden (za_eq ZY)
  clear hZ hY OA8 OA7 AC7 AC8 DC DC8 OW HO9 HG ZY Y2 HI HZ0 HZ1 HZ2 T1 AX BX OX MX HX
  have R0 := hidden (Below.refl w8.heap.size w8)

  have WS : Hid (Below w4.heap.size w4 w8) := hidden AC9.out.bel
  go_upto_region 8 with fail
  go_loopw [15] (fun iv w' => ∃ i : Nat, i ≤ 14 ∧ iv = .int .i64 (i : Int) ∧ Hid (Below w8.heap.size w8 w')) (fun i _ => 14 - (intOf i).toNat)
  case atStart => exact ⟨0, by omega, rfl, R0⟩
  case round =>
    clear R0
    obtain ⟨i, hi, rfl, hR⟩ := hrel
    by_cases hin : i < 14
    · have i1 : (i : Int) < 14 := by omega
      have i0 : (0 : Int) ≤ (i : Int) := by omega
      have w9 : IntKind.i64.wrap ((i : Int) + 1) = (i : Int) + 1 := IntWalk.i64_in _ (by omega)
      have a0 := cell_keep (row_cell OA9.out (i := i) (by omega)) hR.out
      have b0 := cell_keep (row_cell OY9.out (i := i) (by omega)) hR.out
      have CI : Hid (∀ y, Below wr.heap.size wr y → Calls Tryd.prog 20 #[.slice (za Zs i).2.1 (za Zs i).1.length (za Zs i).2.2, .slice (za (Ys ++ Ys) i).2.1 (za (Ys ++ Ys) i).1.length (za (Ys ++ Ys) i).2.2] y fun e w' => e = .returned (.bool true) ∧ Below y.heap.size y w') := hidden (fun y hb => by
        have h1 := (AC9.out.lt (i := i) (by omega)).keep (bl_trans hR.out hb)
        have h2 := (DC9.out.twice (i := i) (by omega)).keep (bl_trans hR.out hb)
        have hl := za_all ZM.out i
        rw [← HZY.out i] at h2 ⊢
        exact is_any _ _ _ _ _ y (by omega) h1 h2)
      generalize (za Zs i).2.1 = pa at *
      generalize (za Zs i).2.2 = da at *
      generalize (za Zs i).1.length = na at *
      generalize (za (Ys ++ Ys) i).2.1 = pb at *
      generalize (za (Ys ++ Ys) i).2.2 = db at *
      generalize (za (Ys ++ Ys) i).1.length = nb at *
      go_upto_region 10 with fail
      refine su10 _ B cB D cD i na da nb db pa pb _ _ _ _ _ _ _ _ _ _ _ _ _ _ _ _ _ _ _ _ _ _ _ _ _ _ _ _ _ _ _ _ _ _ _ _ _ _ _ _ _ _ _ _ _ _ _ _ _ _ _ _ _ _ _ _ _ _ _ _ _ _ _ _ _ _ _ _ _ _ _ _ _ _ _ _ _ _ _ _ _ _ _ _ _ _ _ _ _ _ _ _ _ _ _ _ _ _ _ _ _ _ _ _ _ _ _ _ _ _ _ _ _ _ _ _ _ _ _ _ _ _ _ _ _ _ _ _ _ _ _ _ _ _ _ _ _ _ _ _ _ _ _ _ _ _ _ _ _ _ _ _ _ _ _ _ _ _ _ _ _ _ _ _ _ _ _ _ _ _ _ _ _ _ _ _ _ _ _ _ _ _ _ _ _ _ _ _ _ _ _ _ _ _ _ _ _ _ _ _ _ _ _ _ _ _ _ _ _ _ _ _ _ _ _ _ _ _ _ _ _ _ _ _ _ _ _ _ _ _ _ _ _ _ _ _ _ wr i0 i1 a0 b0 CI (hidden ?_)
      intro w2 hb2
      have PN := hidden (bl_trans hR.out hb2)
      clear hb2 hR CI a0 b0
      go_wp2_with fail
      go_roundw
      case rel => exact ⟨i + 1, by omega, by go_num, PN⟩
      case measure => simp [intOf]; omega
    · obtain rfl : i = 14 := by omega
      have W9 := hidden (bl_trans WS.out hR.out)
      have S1 : Hid (∀ y, Below w4.heap.size w4 y → _) := hidden (fun y hb => stays_any gx cx ca n P f y (by have := HN.out; omega) BS4.out.cx (HM.out.keep (bl_trans BS4.out.bel hb)) (BS4.out.keep hb).X (HL.out.keep (bl_trans BS4.out.bel hb)))
      have S2 : Hid (∀ y, Below w4.heap.size w4 y → _) := hidden (fun y hb => stays_any gy cy cb m Q g y (by have := HN.out; omega) BS4.out.cy (HM.out.keep (bl_trans BS4.out.bel hb)) (BS4.out.keep hb).Y (HL2.out.keep (bl_trans BS4.out.bel hb)))
      have S3 := S1
      have S4 := S2
      go_upto_region 14 with (first | (go_at_call 21; refine (S1.out _ W9.out).mono ?_; rintro e w10 ⟨rfl, hb⟩; have WA := hidden (bl_trans W9.out hb); have RA := hidden (bl_trans hR.out hb); clear hb S1) | (go_at_call 21; refine (S2.out _ WA.out).mono ?_; rintro e w11 ⟨rfl, hb⟩; have WC := hidden (bl_trans WA.out hb); have RC := hidden (bl_trans RA.out hb); clear hb))
      clear W9 WA RA hR S2
      obtain ⟨n2, hn2⟩ : ∃ n2 : Nat → Nat, n2 = fun i => (za Zs i).1.length := ⟨_, rfl⟩
      obtain ⟨p, hp⟩ : ∃ p : Nat → Option Addr, p = fun i => (za Zs i).2.1 := ⟨_, rfl⟩
      obtain ⟨d, hd⟩ : ∃ d : Nat → Nat, d = fun i => (za Zs i).2.2 := ⟨_, rfl⟩
      obtain ⟨x, hx⟩ : ∃ x : Nat → List Value, x = fun i => tls (za Zs i).1 := ⟨_, rfl⟩
      have AC11 := hidden (AC9.out.keep RC.out)
      have A3 : Hid (Aq w4 B 14 n2 p d) := hidden ⟨by omega, fun i hi => by rw [hn2]; have := za_all ZM.out i; simp only; omega, fun i j hi hj hij => by
        rw [hn2, hp, hd]
        exact AC9.out.dj i j _ _ (za_at (by omega)) (za_at (by omega)) hij, fun i hi => by
        rw [hn2, hp, hd]
        intro e
        exact own_dj (AC9.out.rows i _ (za_at (by omega))) OA9.out (by decide) B e rfl⟩
      have hW : Ar Uk w11 49 6 w4 B 14 n2 p d x w11 := ⟨WC.out, fun i hi => by rw [hp, hn2, hd]; exact cell_keep (row_cell OA9.out (i := i) (by omega)) RC.out, fun i hi => by rw [hp, hn2, hd, hx]; exact AC11.out.rows i _ (za_at (by omega)), Kt.refl _ _⟩
      have hBw : B < w11.heap.size := World.block_lt_of_cell? w11 _ (hW.cB 0 (by omega))
      have OY11 := hidden (own_keepT OY9.out RC.out)
      have DR11 := hidden (own_keepT (DC9.out.twiceR (i := 2) (by omega)) RC.out)
      clear hn2 hp hd hx AC11 AC9 OA9 OY9 DC9 ZM HZY RC WC
      obtain ⟨e, he⟩ : ∃ e, e = em6 := ⟨_, rfl⟩
      have EE : Hid (∀ i : Nat, e i = [.int .i64 (100 + (i : Int)), .int .i64 0, .int .u64 0, .int .u64 0, .int .u64 0, .int .u64 0]) := hidden (fun i => by rw [he]; rfl)
      have EL : Hid (∀ i, (e i).length = 6) := hidden (fun i => by rw [he]; rfl)
      clear he
      have XL : Hid (∀ j, j < 14 → (x j).length = n2 j * 6) := hidden (fun j hj => (hW.rows j hj).1)
      have W0 := hidden (hW.congr (y := Xo.gx 6 n2 e x 0 0) (fun i _ => (gx_zero x i).symm))
      have BL := hidden hBw
      have HI : Hid ((Tryd.prog.info? 49) = some (Tryd.prog.info? 49).get!) := hidden (by kernel_rfl)
      have HZ0 : Hid ((Tryd.prog.info? 49).get!.zero = some (.agg #[.int .i64 0, .int .i64 0, .int .u64 0, .int .u64 0, .int .u64 0, .int .u64 0])) := hidden (by kernel_rfl)
      have HZ1 : Hid ((Tryd.prog.info? 49).get!.size = 6) := hidden (by kernel_rfl)
      have HZ2 : Hid ((Tryd.prog.info? 49).get!.bytes = 48) := hidden (by kernel_rfl)
      have T1 : Hid (Tryd.prog.underlying 23 = some (.slice 49)) := hidden (by kernel_rfl)
      have JI : Hid ((Tryd.prog.info? 23) = some (Tryd.prog.info? 23).get!) := hidden (by kernel_rfl)
      have JZ0 : Hid ((Tryd.prog.info? 23).get!.zero = some (.slice none 0 0)) := hidden (by kernel_rfl)
      have JZ1 : Hid ((Tryd.prog.info? 23).get!.size = 1) := hidden (by kernel_rfl)
      have JZ2 : Hid ((Tryd.prog.info? 23).get!.bytes = 24) := hidden (by kernel_rfl)
      have T2 : Hid (Tryd.prog.underlying 36 = some (.slice 23)) := hidden (by kernel_rfl)
      have NT : Hid (49 ≠ 23) := hidden (by decide)
      have NU : Hid (¬ Uk 49) := hidden (by unfold Uk; decide)
      have NV : Hid (¬ Uk 23) := hidden (by unfold Uk; decide)
      clear hW hBw
      go_upto_region 15 with fail
      go_loopw [16] (fun iv w' => ∃ i : Nat, i ≤ 14 ∧ iv = .int .i64 (i : Int) ∧ Hid (Ar Uk w11 49 6 w4 B 14 n2 p d (Xo.gx 6 n2 e x i 0) w') ∧ Hid (B < w'.heap.size)) (fun i _ => 14 - (intOf i).toNat)
      case atStart => exact ⟨0, by omega, rfl, W0, BL⟩
      case round =>
        obtain ⟨i, hi, rfl, hw, hbl⟩ := hrel
        clear W0 BL
        by_cases hi3 : i < 14
        · have ii0 : (0 : Int) ≤ (i : Int) := by omega
          have ii1 : (i : Int) < 14 := by omega
          have hn9 := A3.out.n0 i hi3
          have wi1 : IntKind.i64.wrap ((i : Int) + 1) = (i : Int) + 1 := IntWalk.i64_in _ (by omega)
          have wi5 : IntKind.i64.wrap (100 + (i : Int)) = 100 + (i : Int) := IntWalk.i64_in _ (by omega)
          go_upto_region 18 with fail
          go_loopw [17] (fun kv w' => ∃ k : Nat, k ≤ n2 i ∧ kv = .int .i64 (k : Int) ∧ Hid (Ar Uk w11 49 6 w4 B 14 n2 p d (Xo.gx 6 n2 e x i k) w') ∧ Hid (B < w'.heap.size)) (fun k _ => n2 i - (intOf k).toNat)
          case atStart => exact ⟨0, by omega, rfl, hw, hbl⟩
          case round =>
            clear hw hbl
            obtain ⟨j, hk, rfl, hw, hbl⟩ := hrel
            have cB9 := hw.out.cB i hi3
            by_cases hkn : j < n2 i
            · have kk0 : (0 : Int) ≤ (j : Int) := by omega
              have kk1 : (j : Int) < (n2 i : Int) := by omega
              obtain ⟨bi, hbi⟩ := hw.out.blk hi3 (by omega)
              have hr0 := hw.out.rows i hi3
              rw [hbi] at hr0 cB9
              have gl : ∀ j, j < n2 i * 6 → ∃ u, wr.cell? ⟨bi, j, none⟩ = some u := fun j hj => by
                have hc := hr0.cells (g := bi) rfl j
                have hlen := hr0.1
                have := hc _ (List.getElem?_eq_getElem (by rw [hlen]; exact hj))
                rw [Addr.add_mid, Nat.zero_add] at this
                exact ⟨_, this⟩
              obtain ⟨y0, a0⟩ := gl (j * 6) (by omega)
              have f0 := hr0.frozenAt (j * 6)
              obtain ⟨y1, a1⟩ := gl (j * 6 + 1) (by omega)
              have f1 := hr0.frozenAt (j * 6 + 1)
              obtain ⟨y2, a2⟩ := gl (j * 6 + 2) (by omega)
              have f2 := hr0.frozenAt (j * 6 + 2)
              obtain ⟨y3, a3⟩ := gl (j * 6 + 3) (by omega)
              have f3 := hr0.frozenAt (j * 6 + 3)
              obtain ⟨y4, a4⟩ := gl (j * 6 + 4) (by omega)
              have f4 := hr0.frozenAt (j * 6 + 4)
              obtain ⟨y5, a5⟩ := gl (j * 6 + 5) (by omega)
              have f5 := hr0.frozenAt (j * 6 + 5)
              have NX := hidden (Ar.put6 NU.out hw.out A3.out XL.out hi3 hkn hbi (EE.out i))
              have NB : Hid (B < (wr.setCell ⟨bi, j, none⟩ (.int .u8 0)).heap.size) := hidden (by simpa using hbl.out)
              simp only [World.size_setCell] at NB
              have w9 : IntKind.i64.wrap ((j : Int) + 1) = (j : Int) + 1 := IntWalk.i64_in _ (by omega)
              clear hr0 hbi gl hw hn9 hbl
              generalize d i = di at *
              go_wp2_with fail
              go_roundw
              case rel => exact ⟨j + 1, by omega, by go_num, NX, hidden (by simpa using NB.out)⟩
              case measure => simp [intOf]; omega
            · have hkk : j = n2 i := by omega
              have NX := hidden (hw.out.congr (fun a _ => (congrArg (fun q => Xo.gx 6 n2 e x i q a) hkk).trans (gx_next x i (XL.out i hi3) a)))
              have lq : ¬ (j : Int) < (n2 i : Int) := by omega
              clear hw hn9 hkk
              generalize p i = pi at *
              generalize d i = di at *
              generalize n2 i = ni at *
              go_wp2_with fail
              go_roundw
              case rel => exact ⟨i + 1, by omega, by go_num, NX, hbl⟩
              case measure => simp [intOf]; omega
        · have hii : i = 14 := by omega
          subst hii
          have W1 : Hid (Am Uk w11 49 23 6 w4 B 14 n2 p d e 0 (.slice none 0 0) (fun _ => none) (fun _ => 0) wr ∧ Ap B 14 n2 p d 0 (fun _ => none) (fun _ => 0)) := hidden ⟨⟨hw.out.congr (fun a ha => gx_all x 14 a ha), World.ownsRow_nil _ _ _ _, fun a ha => by omega, by simp [Value.ownBlock], hbl.out⟩, ⟨fun a ha => by omega⟩⟩
          clear hw hbl
          go_upto_region 23 with fail
          go_loopw [18, 19] (fun V iv w' => ∃ j : Nat, j ≤ 14 ∧ iv = .int .i64 (j : Int) ∧ ∃ (pp : Nat → Option Addr) (dd : Nat → Nat), Hid (Am Uk w11 49 23 6 w4 B 14 n2 p d e j V pp dd w' ∧ Ap B 14 n2 p d j pp dd)) (fun _ j _ => 14 - (intOf j).toNat)
          case atStart => exact ⟨0, by omega, rfl, _, _, W1⟩
          case round =>
            clear W1
            obtain ⟨j, hj, rfl, pp, dd, hw⟩ := hrel
            by_cases hj3 : j < 14
            · have jj0 : (0 : Int) ≤ (j : Int) := by omega
              have jj1 : (j : Int) < 14 := by omega
              have cB9 := hw.out.1.ar.cB j hj3
              have N9 := hidden (A3.out.n0 j hj3)
              have wi5 : IntKind.i64.wrap (100 + (j : Int)) = 100 + (j : Int) := IntWalk.i64_in _ (by omega)
              have wj1 : IntKind.i64.wrap ((j : Int) + 1) = (j : Int) + 1 := IntWalk.i64_in _ (by omega)
              have G0 := hidden (Ag.start hj3 hw.out.1 hw.out.2)
              have M0 := hidden hw.out.1
              have AP := hidden hw.out.2
              have J9 := hidden hj3
              clear hw
              generalize wr = ws at *
              go_upto_region 27 with fail
              clear cB9
              go_loopw [20, 21] (fun v kv w' => ∃ k : Nat, k ≤ 40 ∧ kv = .int .i64 (k : Int) ∧ Hid (Ag 49 6 w4 B 14 n2 p d e j pp dd k v w') ∧ Hid (Am Uk w11 49 23 6 w4 B 14 n2 p d e j u18 pp dd w')) (fun _ k _ => 40 - (intOf k).toNat)
              case atStart => exact ⟨0, by omega, rfl, G0, M0⟩
              case round =>
                clear G0 M0
                obtain ⟨i, hk, rfl, hag, ham⟩ := hrel
                by_cases hk64 : i < 40
                · have kk0 : (0 : Int) ≤ (i : Int) := by omega
                  have kk1 : (i : Int) < 40 := by omega
                  have wk1 : IntKind.i64.wrap ((i : Int) + 1) = (i : Int) + 1 := IntWalk.i64_in _ (by omega)
                  have a1 := hidden (hag.out.keep (bl_alloc wr (.cells #[.int .i64 (100 + (j : Int)), .int .i64 0, .int .u64 0, .int .u64 0, .int .u64 0, .int .u64 0] 49)))
                  have a7 := hidden (ham.out.keep (bl_alloc wr (.cells #[.int .i64 (100 + (j : Int)), .int .i64 0, .int .u64 0, .int .u64 0, .int .u64 0, .int .u64 0] 49)))
                  have a2 := hidden (cells_newP wr [.int .i64 (100 + (j : Int)), .int .i64 0, .int .u64 0, .int .u64 0, .int .u64 0, .int .u64 0] 49)
                  have a3 : Hid (∀ u ∈ ([.int .i64 (100 + (j : Int)), .int .i64 0, .int .u64 0, .int .u64 0, .int .u64 0, .int .u64 0] : List Value), u.oneCell' = true) := hidden (by simp [Value.oneCell'])
                  have a4 : Hid (n2 j + i + 1 ≤ maxLen) := hidden (by have := N9.out; unfold maxLen; omega)
                  have a5 : Hid ((n2 j + i + 1) * 48 ≤ 140737488355328) := hidden (by have := N9.out; omega)
                  have a6 : Hid (w4.heap.size ≤ (wr.alloc (.cells #[.int .i64 (100 + (j : Int)), .int .i64 0, .int .u64 0, .int .u64 0, .int .u64 0, .int .u64 0] 49)).heap.size) := hidden (by have := ham.out.ar.bel.size; simp; omega)
                  go_wp2_with (first | (at_builtin; refine wpList_tell rfl _ _ 23 rfl w4.heap.size 49 _ (.agg #[.int .i64 0, .int .i64 0, .int .u64 0, .int .u64 0, .int .u64 0, .int .u64 0]) 6 48 T1.out HI.out HZ0.out HZ1.out HZ2.out rfl (by decide) u20 _ _ (by rfl) a1.out.ho ⟨wr.heap.size, 0, none⟩ [.int .i64 (100 + (j : Int)), .int .i64 0, .int .u64 0, .int .u64 0, .int .u64 0, .int .u64 0] rfl rfl a2.out a3.out a4.out a5.out a6.out ?_; intro v' w3 ho3 hg3 ht3; have HO := hidden ho3; have HG2 := hidden hg3; have HT2 := hidden ht3; clear ho3 hg3 ht3))
                  go_roundw
                  case rel =>
                    obtain ⟨q1, q2⟩ := Ag.next NU.out NT.out A3.out J9.out a7.out a1.out (EL.out j) (by rw [EE.out j]; have := HO.out; rw [EE.out j] at this; exact this) HG2.out HT2.out
                    exact ⟨i + 1, by omega, by go_num, hidden q1, hidden q2⟩
                  case measure => simp [intOf]; omega
                · have hkk : i = 40 := by omega
                  subst hkk
                  obtain ⟨gg, cap, rfl, hnc⟩ := own_some hag.out.ho (by omega)
                  have b1 := hidden (hag.out.keep (bl_alloc wr (.cells #[.slice (some ⟨gg, 0, none⟩) (n2 j + 40) cap] 23)))
                  have b7 := hidden (ham.out.keep (bl_alloc wr (.cells #[.slice (some ⟨gg, 0, none⟩) (n2 j + 40) cap] 23)))
                  have b2 := hidden (cells_newP wr [.slice (some ⟨gg, 0, none⟩) (n2 j + 40) cap] 23)
                  have b3 : Hid (∀ u ∈ [Value.slice (some ⟨gg, 0, none⟩) (n2 j + 40) cap], u.oneCell' = true) := hidden (by simp [Value.oneCell'])
                  have b4 : Hid (j + 1 ≤ maxLen) := hidden (by have := J9.out; unfold maxLen; omega)
                  have b5 : Hid ((j + 1) * 24 ≤ 140737488355328) := hidden (by have := J9.out; omega)
                  have b6 : Hid (w4.heap.size ≤ (wr.alloc (.cells #[.slice (some ⟨gg, 0, none⟩) (n2 j + 40) cap] 23)).heap.size) := hidden (by have := ham.out.ar.bel.size; simp; omega)
                  clear hag ham hnc
                  go_wp2_with (first | (at_builtin; refine wpList_append_own_at _ rfl _ _ 36 rfl w4.heap.size 23 _ (.slice none 0 0) 1 24 T2.out JI.out JZ0.out JZ1.out JZ2.out rfl (by decide) u18 _ _ (by rfl) b7.out.mv ⟨wr.heap.size, 0, none⟩ 1 1 [.slice (some ⟨gg, 0, none⟩) (n2 j + 40) cap] rfl rfl b2.out b3.out b4.out b5.out b6.out ?_; intro v' w3 ho3 hg3 _ ht3; have HO := hidden ho3; have HG2 := hidden hg3; have HT2 := hidden ht3; clear ho3 hg3 ht3))
                  go_roundw
                  case rel =>
                    obtain ⟨pp', dd', q1, q2⟩ := Am.more NV.out NT.out A3.out J9.out b7.out b1.out AP.out HO.out HG2.out HT2.out
                    exact ⟨j + 1, by omega, by go_num, pp', dd', hidden ⟨q1, q2⟩⟩
                  case measure => simp [intOf]; omega
            · have hjj : j = 14 := by omega
              subst hjj
              have MM := hidden hw.out.1
              clear hw
              obtain ⟨G, cV, rfl, hnc⟩ := own_some MM.out.mv (by omega)
              go_upto_region 32 with fail
              go_loopw [22] (fun iv w' => ∃ i : Nat, i ≤ 14 ∧ iv = .int .i64 (i : Int) ∧ Hid (Am Uk w11 49 23 6 w4 B 14 n2 p d e 14 (.slice (some ⟨G, 0, none⟩) 14 cV) pp dd w')) (fun i _ => 14 - (intOf i).toNat)
              case atStart => exact ⟨0, by omega, rfl, MM⟩
              case round =>
                clear MM
                obtain ⟨i, hi, rfl, hw⟩ := hrel
                by_cases hi3 : i < 14
                · have ii0 : (0 : Int) ≤ (i : Int) := by omega
                  have ii1 : (i : Int) < 14 := by omega
                  have hn9 := A3.out.n0 i hi3
                  have wi1 : IntKind.i64.wrap ((i : Int) + 1) = (i : Int) + 1 := IntWalk.i64_in _ (by omega)
                  have wi5 : IntKind.i64.wrap (100 + (i : Int)) = 100 + (i : Int) := IntWalk.i64_in _ (by omega)
                  go_upto_region 35 with fail
                  go_loopw [23] (fun kv w' => ∃ k : Nat, k ≤ n2 i + 40 ∧ kv = .int .i64 (k : Int) ∧ Hid (Am Uk w11 49 23 6 w4 B 14 n2 p d e 14 (.slice (some ⟨G, 0, none⟩) 14 cV) pp dd w')) (fun k _ => n2 i + 40 - (intOf k).toNat)
                  case atStart => exact ⟨0, by omega, rfl, hw⟩
                  case round =>
                    clear hw
                    obtain ⟨j, hk, rfl, hw⟩ := hrel
                    have cB9 := hw.out.ar.cB i hi3
                    have mr := hw.out.mr i hi3
                    obtain ⟨bm, hbm⟩ : ∃ b, pp i = some ⟨b, 0, none⟩ := by
                      obtain ⟨b, c', e', _⟩ := own_some mr (by omega)
                      simp only [Value.slice.injEq, true_and] at e'
                      exact ⟨b, e'.1⟩
                    have cM : wr.cell? ⟨G, i, none⟩ = some (.slice (some ⟨bm, 0, none⟩) (n2 i + 40) (dd i)) := by
                      have := hw.out.mv.cells (g := G) rfl i (.slice (pp i) (n2 i + 40) (dd i)) (by rw [List.getElem?_map, List.getElem?_range hi3]; rfl)
                      rw [Addr.add_mid, Nat.zero_add, hbm] at this
                      exact this
                    rw [hbm] at mr
                    have l64 : ((n2 i + 40 : Nat) : Int) = (n2 i : Int) + 40 := by omega
                    by_cases hkn : j < n2 i + 40
                    · have kk0 : (0 : Int) ≤ (j : Int) := by omega
                      have kk1 : (j : Int) < (n2 i : Int) + 40 := by omega
                      have w9 : IntKind.i64.wrap ((j : Int) + 1) = (j : Int) + 1 := IntWalk.i64_in _ (by omega)
                      have gm : ∀ q u, (e i)[q]? = some u → wr.cell? ⟨bm, j * 6 + q, none⟩ = some u := fun q u hq => by
                        have h0 := (List.getElem?_eq_some_iff.1 hq).1
                        have h1 := rpt_get (n2 i + 40) (e i) j q hkn h0
                        rw [EL.out i] at h1
                        have := mr.cells (g := bm) rfl (j * 6 + q) u (h1.trans hq)
                        rw [Addr.add_mid, Nat.zero_add] at this
                        exact this
                      have m0 : wr.cell? ⟨bm, j * 6, none⟩ = some (.int .i64 (100 + (i : Int))) := by have := gm 0 _ (by rw [EE.out i]; rfl); simpa using this
                      have m1 : wr.cell? ⟨bm, j * 6 + 1, none⟩ = some (.int .i64 0) := by have := gm 1 _ (by rw [EE.out i]; rfl); simpa using this
                      have m2 : wr.cell? ⟨bm, j * 6 + 2, none⟩ = some (.int .u64 0) := by have := gm 2 _ (by rw [EE.out i]; rfl); simpa using this
                      have m3 : wr.cell? ⟨bm, j * 6 + 3, none⟩ = some (.int .u64 0) := by have := gm 3 _ (by rw [EE.out i]; rfl); simpa using this
                      have m4 : wr.cell? ⟨bm, j * 6 + 4, none⟩ = some (.int .u64 0) := by have := gm 4 _ (by rw [EE.out i]; rfl); simpa using this
                      have m5 : wr.cell? ⟨bm, j * 6 + 5, none⟩ = some (.int .u64 0) := by have := gm 5 _ (by rw [EE.out i]; rfl); simpa using this
                      by_cases hkp : j < n2 i
                      · have kk2 : (j : Int) < (n2 i : Int) := by omega
                        obtain ⟨bi, hbi⟩ := hw.out.ar.blk hi3 (by omega)
                        have hr0 := hw.out.ar.rows i hi3
                        rw [hbi] at hr0 cB9
                        have gp : ∀ q u, (e i)[q]? = some u → wr.cell? ⟨bi, j * 6 + q, none⟩ = some u := fun q u hq => by
                          have h0 := (List.getElem?_eq_some_iff.1 hq).1
                          have h1 := rpt_get (n2 i) (e i) j q hkp h0
                          rw [EL.out i] at h1
                          have := hr0.cells (g := bi) rfl (j * 6 + q) u (h1.trans hq)
                          rw [Addr.add_mid, Nat.zero_add] at this
                          exact this
                        have z0 : wr.cell? ⟨bi, j * 6, none⟩ = some (.int .i64 (100 + (i : Int))) := by have := gp 0 _ (by rw [EE.out i]; rfl); simpa using this
                        have z1 : wr.cell? ⟨bi, j * 6 + 1, none⟩ = some (.int .i64 0) := by have := gp 1 _ (by rw [EE.out i]; rfl); simpa using this
                        have z2 : wr.cell? ⟨bi, j * 6 + 2, none⟩ = some (.int .u64 0) := by have := gp 2 _ (by rw [EE.out i]; rfl); simpa using this
                        have z3 : wr.cell? ⟨bi, j * 6 + 3, none⟩ = some (.int .u64 0) := by have := gp 3 _ (by rw [EE.out i]; rfl); simpa using this
                        have z4 : wr.cell? ⟨bi, j * 6 + 4, none⟩ = some (.int .u64 0) := by have := gp 4 _ (by rw [EE.out i]; rfl); simpa using this
                        have z5 : wr.cell? ⟨bi, j * 6 + 5, none⟩ = some (.int .u64 0) := by have := gp 5 _ (by rw [EE.out i]; rfl); simpa using this
                        clear gm gp hr0 mr hbi hbm hn9
                        obtain ⟨v, hv⟩ : ∃ v, 100 + (i : Int) = v := ⟨_, rfl⟩
                        rw [hv] at m0 z0
                        replace wi5 := wi5.trans hv
                        have qv := fun w => self9 ⟨0, 0, 0, 0⟩ w
                        simp only at qv
                        clear hv

                        generalize dd i = ddi at *
                        generalize d i = di at *
                        go_upto_region 37 with fail
                        go_big_region
                        go_wp2_with fail
                        go_roundw
                        case rel => exact ⟨j + 1, by omega, by go_num, hidden (hw.out.keep (bl_drew _))⟩
                        case measure => simp [intOf]; omega
                      · have kk2 : ¬ (j : Int) < (n2 i : Int) := by omega
                        clear gm mr hbm hn9
                        obtain ⟨v, hv⟩ : ∃ v, 100 + (i : Int) = v := ⟨_, rfl⟩
                        rw [hv] at m0
                        replace wi5 := wi5.trans hv
                        have qv := fun w => self9 ⟨0, 0, 0, 0⟩ w
                        simp only at qv
                        clear hv

                        generalize dd i = ddi at *
                        generalize d i = di at *
                        generalize p i = pi at *
                        go_upto_region 37 with fail
                        go_big_region
                        go_wp2_with fail
                        go_roundw
                        case rel => exact ⟨j + 1, by omega, by go_num, hidden (hw.out.keep (bl_drew _))⟩
                        case measure => simp [intOf]; omega
                    · have hkk : j = n2 i + 40 := by omega
                      have lq : ¬ (j : Int) < (n2 i : Int) + 40 := by omega
                      clear hn9 hkk mr hbm
                      generalize dd i = ddi at *
                      go_wp2_with fail
                      go_roundw
                      case rel => exact ⟨i + 1, by omega, by go_num, hw⟩
                      case measure => simp [intOf]; omega
                · have hii : i = 14 := by omega
                  subst hii
                  have WE := hidden hw.out.ar.bel
                  have KE := hidden hw.out.ar.kt
                  clear hw
                  have OYE := hidden (KE.out.own (u := 31) (.inr rfl) OY11.out)
                  have DRE := hidden (KE.out.own (u := 52) (.inl rfl) DR11.out)
                  have b0 := row_cell OYE.out (i := 2) (by omega)
                  have C1 := hidden (fun y (hb : Below wr.heap.size wr y) => S3.out y (bl_trans WE.out hb))
                  have C2 := hidden (fun y (hb : Below wr.heap.size wr y) => S4.out y (bl_trans WE.out hb))
                  have C3 : Hid (∀ y, Below wr.heap.size wr y → Calls Tryd.prog 8 #[.slice (some ⟨gx, 0, none⟩) n cx, .slice (some ⟨gy, 0, none⟩) m cy] y fun e w' => ∃ v, e = .returned v ∧ (fun v w' => ∃ P c, v = .slice P (lf Sm.L (glL n f ++ glL m g)).length c ∧ Lt w' P (lf Sm.L (glL n f ++ glL m g)).length (ft (lf Sm.L (glL n f ++ glL m g)))) v w' ∧ Below y.heap.size y w') := hidden (fun y hb => (cP2 (T4.out.keep (bl_trans WE.out hb)) HN.out HF.out HG.out (BS4.out.keep (bl_trans WE.out hb))).mono (fun e w' ⟨P, c, he, ho, hb⟩ => ⟨_, he, ⟨P, c, rfl, own_lts ho⟩, hb⟩))
                  have C4 : Hid (∀ v y, Below wr.heap.size wr y → (fun v w' => ∃ P c, v = .slice P (lf Sm.L (glL n f ++ glL m g)).length c ∧ Lt w' P (lf Sm.L (glL n f ++ glL m g)).length (ft (lf Sm.L (glL n f ++ glL m g)))) v y → Calls Tryd.prog 20 #[v, .slice (za (Ys ++ Ys) 2).2.1 (za (Ys ++ Ys) 2).1.length (za (Ys ++ Ys) 2).2.2] y fun e w' => e = .returned (.bool true) ∧ Below y.heap.size y w') := hidden (fun v y hb h => by
                    obtain ⟨P, c, rfl, hl⟩ := h
                    have h2 := own_lts (own_keepT DRE.out hb)
                    rw [HY2.out] at h2 ⊢
                    refine is_any _ _ _ _ _ y ?_ hl h2
                    have a0 := lf_len (glL n f ++ glL m g)
                    rw [List.length_append, glL_len, glL_len] at a0
                    have := HN.out
                    omega)
                  go_upto_region 39 with fail
                  refine su39 _ D cD _ _ _ _ _ _ _ (fun v w' => ∃ P c, v = .slice P (lf Sm.L (glL n f ++ glL m g)).length c ∧ Lt w' P (lf Sm.L (glL n f ++ glL m g)).length (ft (lf Sm.L (glL n f ++ glL m g)))) _ _ _ _ _ _ _ _ _ _ _ _ _ _ _ _ _ _ _ _ _ _ _ _ _ _ _ _ _ _ _ _ _ _ _ _ _ _ _ _ _ _ _ _ _ _ _ _ _ _ _ _ _ _ _ _ _ _ _ _ _ _ _ _ _ _ _ _ _ _ _ _ _ _ _ _ _ _ _ _ _ _ _ _ _ _ _ _ _ _ _ _ _ _ _ _ _ _ _ _ _ _ _ _ _ _ _ _ _ _ _ _ _ _ _ _ _ _ _ _ _ _ _ _ _ _ _ _ _ _ _ _ _ _ _ _ _ _ _ _ _ _ _ _ _ _ _ _ _ _ _ _ _ _ _ _ _ _ _ _ _ _ _ _ _ _ _ _ _ _ _ _ _ _ _ _ _ _ _ _ _ _ _ _ _ _ _ _ _ _ _ _ _ _ _ _ _ _ _ _ _ _ _ _ _ _ _ _ _ _ _ _ _ _ _ _ _ _ _ _ _ _ _ _ _ _ _ _ _ _ _ _ _ _ _ wr b0 C1 C2 C3 C4 (hidden ?_)
                  intro wz vs hbz
                  have FN := hidden (bl_trans BS4.out.bel (bl_trans WE.out hbz))
                  clear hbz C1 C2 C3 C4 b0 OYE DRE WE KE
                  go_wp2_with fail
                  exact bodyPost_ret (v := .bool true) (by simp [results, Tryd.results3, go_sem]) rfl ⟨rfl, FN.out⟩
end Ci
end Go.Proofs.YtbmbopapmajaaaaDoor
