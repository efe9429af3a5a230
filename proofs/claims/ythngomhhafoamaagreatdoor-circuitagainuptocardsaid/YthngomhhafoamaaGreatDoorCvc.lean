import Derived.Test.YthngomhhafoamaaGreatDoorCvb
import Derived.Test.YthngomhhafoamaaGreatDoorCvd
set_option linter.unusedVariables false
set_option linter.unusedSimpArgs false
set_option maxRecDepth 100000
set_option maxHeartbeats 32000000
namespace Go.Proofs.YthngomhhafoamaaGreatDoor
open Go.RowKit
open Cm (Wr Tm co bf Ls lf ins Eqm)
namespace Ci
theorem eqSelf (X : List Tm) (hX : Ls Sm.L X) (hn : X.length ≤ 2932031007402) (P Q : Option Addr) (ca cb : Nat) (y : World) (hA : Lt y P X.length (ft X)) (hB : Lt y Q X.length (ft X)) :
  Calls Tryz.prog 30 #[.slice P X.length ca, .slice Q X.length cb] y fun e w' => e = .returned (.bool true) ∧ Below y.heap.size y w' := by
 have h := equal_any P Q ca cb X X y hn hA hB
 rw [eqB_self hX] at h
 exact h
theorem lqC {f : FuncId} {a : Array Value} {x : World} {X : List Tm} (h : Calls Tryz.prog f a x fun e w' => ∃ v, e = .returned v ∧ Lq x X v w') : Calls Tryz.prog f a x fun e w' => ∃ P c, e = .returned (.slice P X.length c) ∧ Lt w' P X.length (ft X) ∧ Below x.heap.size x w' :=
 h.mono fun e w' ⟨v, he, h1, h2, _⟩ => by
  obtain ⟨P, c, e1, _, _⟩ := own_shT h1
  subst e1
  exact ⟨P, c, he, own_lts h1, h2⟩
theorem lf_leT {X : List Tm} {n : Nat} (h : X.length ≤ n) : (lf Sm.L X).length ≤ n := Nat.le_trans (lf_len_le X) h
theorem Fw.ow {b0 m K : Nat} {a b c d : Sl} {x : World} (h : Fw b0 m K a b c d x) (hm : m ≤ 100000) (hK : K ≤ 100000) : Ow x a ∧ Ow x b ∧ Ow x c ∧ Ow x d := by
 obtain ⟨ra, rb, rc, rd, _, _, _, _, _, _, na, nb, nc, nd⟩ := h
 refine ⟨⟨?_, ?_, ?_⟩, ⟨?_, ?_, ?_⟩, ⟨?_, ?_, ?_⟩, ⟨?_, ?_, ?_⟩⟩
 ·rw [na]; exact own_monoT ra.1 (Nat.zero_le _)
 ·rw [na]; exact ra.2
 ·rw [na]; exact hK
 ·rw [nb]; exact own_monoT rb.1 (Nat.zero_le _)
 ·rw [nb]; exact rb.2
 ·rw [nb]; exact hK
 ·rw [nc]; exact own_monoT rc.1 (Nat.zero_le _)
 ·rw [nc]; exact rc.2
 ·rw [nc]; exact hK
 ·rw [nd]; exact own_monoT rd.1 (Nat.zero_le _)
 ·rw [nd]; exact rd.2
 ·rw [nd]; exact hm
theorem nms_cg (l r o v : Sl) (p1 p2 p3 p4 : Option Addr) (d1 d2 d3 d4 : Nat) : ∀ k, (nms 0 ⟨p1, l.n, d1, l.g⟩ ⟨p2, r.n, d2, r.g⟩ ⟨p3, o.n, d3, o.g⟩ ⟨p4, v.n, d4, v.g⟩ k).n = (nms 0 l r o v k).n ∧ (nms 0 ⟨p1, l.n, d1, l.g⟩ ⟨p2, r.n, d2, r.g⟩ ⟨p3, o.n, d3, o.g⟩ ⟨p4, v.n, d4, v.g⟩ k).g = (nms 0 l r o v k).g
 | 0 => ⟨rfl, rfl⟩
 | 1 => ⟨rfl, rfl⟩
 | 2 => ⟨rfl, rfl⟩
 | 3 => ⟨rfl, rfl⟩
 | 4 => ⟨rfl, rfl⟩
 | 5 => ⟨rfl, rfl⟩
 | k + 6 => ⟨rfl, rfl⟩
theorem ftB_cg {N N' : Nat → Sl} (m K : Nat) (h : ∀ k, (N k).n = (N' k).n) : ftB N m K = ftB N' m K := by
 unfold ftB
 simp only [h]
theorem es_cg {N N' : Nat → Sl} (h : ∀ k, (N k).g = (N' k).g) (f : Nat → Trm) : ∀ i, es N f i = es N' f i
 | 0 => rfl
 | i + 1 => by
  show lst ((es N f i).n + _) = lst ((es N' f i).n + _)
  rw [es_cg h f i]
  unfold nw
  rw [h]
theorem evS_ok (N : Nat → Sl) (m K : Nat) (X : List Tm) : (evS N m K X).ok := by
 have hz : Sm.Wd 0 := by unfold Sm.Wd; omega
 have h0 : (⟨0, 0, 0, 0⟩ : E4).ok := ⟨hz, hz, hz, hz⟩
 unfold evS
 split
 ·split
  ·exact es_ok _ _ _
  ·exact h0
 ·exact h0
theorem sameSelf (Z : E4) (y : World) (hT : Tb y) (hz : Z.ok) : Calls Tryz.prog 29 #[.agg #[.int .u64 Z.x0, .int .u64 Z.x1, .int .u64 Z.x2, .int .u64 Z.x3], .agg #[.int .u64 Z.x0, .int .u64 Z.x1, .int .u64 Z.x2, .int .u64 Z.x3]] y fun e w' => e = .returned (.bool true) ∧ Below y.heap.size y w' := by
 have h := Same_any Z Z y hT hz hz
 rw [E4.same_self] at h
 exact h
theorem Ow.keep {w w2 : World} {s : Sl} (h : Ow w s) (hb : Below w.heap.size w w2) : Ow w2 s := ⟨own_keepT h.1 hb, h.2⟩
def Bx4 (w : World) (b : Nat) (l r o v : Sl) : Prop := w.cell? ⟨b, 0, none⟩ = some (.slice l.p l.n l.c) ∧ w.cell? ⟨b, 1, none⟩ = some (.slice r.p r.n r.c) ∧ w.cell? ⟨b, 2, none⟩ = some (.slice o.p o.n o.c) ∧ w.cell? ⟨b, 3, none⟩ = some (.slice v.p v.n v.c)
theorem Bx4.keep {w w2 : World} {b : Nat} {l r o v : Sl} (h : Bx4 w b l r o v) (hb : Below w.heap.size w w2) : Bx4 w2 b l r o v := ⟨cell_keep h.1 hb, cell_keep h.2.1 hb, cell_keep h.2.2.1 hb, cell_keep h.2.2.2 hb⟩
def Bz4 (w : World) (b : Nat) (z : E4) : Prop := w.cell? ⟨b, 0, none⟩ = some (.int .u64 z.x0) ∧ w.cell? ⟨b, 1, none⟩ = some (.int .u64 z.x1) ∧ w.cell? ⟨b, 2, none⟩ = some (.int .u64 z.x2) ∧ w.cell? ⟨b, 3, none⟩ = some (.int .u64 z.x3)
theorem Bz4.keep {w w2 : World} {b : Nat} {z : E4} (h : Bz4 w b z) (hb : Below w.heap.size w w2) : Bz4 w2 b z := ⟨cell_keep h.1 hb, cell_keep h.2.1 hb, cell_keep h.2.2.1 hb, cell_keep h.2.2.2 hb⟩
theorem bx4_new (w : World) (l r o v : Sl) : Bx4 (w.alloc (.cells #[.slice l.p l.n l.c, .slice r.p r.n r.c, .slice o.p o.n o.c, .slice v.p v.n v.c] 30)) w.heap.size l r o v := by
 refine ⟨?_, ?_, ?_, ?_⟩ <;> go_simp
theorem bz4_new (w : World) (z : E4) : Bz4 (w.alloc (.cells #[.int .u64 z.x0, .int .u64 z.x1, .int .u64 z.x2, .int .u64 z.x3] 35)) w.heap.size z := by
 refine ⟨?_, ?_, ?_, ?_⟩ <;> go_simp
theorem alike_any {w0 : World} {s m K : Nat} {Q : List (List Tm)} {b0 : Nat} {l r o v : Sl} (x : World) (hT : Tb x) (h : Ts w0 s m K Q x) (hm : m ≤ 16) (hF : Fw b0 m K l r o v x) (P1 P2 P3 : Option Addr) (n c1 c2 n3 c3 : Nat) (f g : Nat → Trm) (hn : n ≤ 1048576) (hn3 : n3 ≤ 1048576) (hf : ∀ k, k < n → (f k).a.ok) (hg : ∀ k, k < n3 → (g k).a.ok) (h1 : Lt x P1 n f) (h2 : Lt x P2 n f) (h3 : Lt x P3 n3 g) :
  Calls Tryz.prog 7 #[.pointer (some ⟨s, 0, none⟩), .agg #[.slice l.p l.n l.c, .slice r.p r.n r.c, .slice o.p o.n o.c, .slice v.p v.n v.c], .slice P1 n c1, .slice P2 n c2, .slice P3 n3 c3] x fun e w' => e = .returned (.bool true) ∧ Below x.heap.size x w' := by
 obtain ⟨base, vv, vs, sy, hb0, hbl, hwk⟩ := h
 have hK := hwk.k
 have OW := Hn (hF.ow (by omega) (by omega))
 have AT := Hn hF.at
 have SY := Hn sy
 have WK := Hn hwk
 have T0 := Hn hT
 obtain ⟨Z, hZ⟩ : ∃ Z, evS (nms 0 l r o v) m K (lf Sm.L (glL n f)) = Z := ⟨_, rfl⟩
 obtain ⟨ee, hee⟩ : ∃ ee, evE (nms 0 l r o v) m K (lf Sm.L (glL n f)) = ee := ⟨_, rfl⟩
 obtain ⟨hh, hhh⟩ : ∃ hh, hoE l r o v m K Q = hh := ⟨_, rfl⟩
 have nf : n ≤ 2932031007402 := by omega
 have CE1 := fun (y : World) (hy : Below x.heap.size x y) => Eval_any (sy.keep hy) (hT.keep hy) l r o v (hF.at.1.keep hy) (hF.at.2.1.keep hy) (hF.at.2.2.1.keep hy) (hF.at.2.2.2.keep hy) P1 n c1 f nf hf (h1.keep hy)
 have CE2 := fun (y : World) (hy : Below x.heap.size x y) (p1 p2 p3 p4 : Option Addr) (d1 d2 d3 d4 : Nat) (q1 : Ak y p1 l.n d1 l.g) (q2 : Ak y p2 r.n d2 r.g) (q3 : Ak y p3 o.n d3 o.g) (q4 : Ak y p4 v.n d4 v.g) => Eval_any (sy.keep hy) (hT.keep hy) ⟨p1, l.n, d1, l.g⟩ ⟨p2, r.n, d2, r.g⟩ ⟨p3, o.n, d3, o.g⟩ ⟨p4, v.n, d4, v.g⟩ q1.1 q2.1 q3.1 q4.1 P2 n c2 f nf hf (h2.keep hy)
 have CH1 := fun (y : World) (hy : Below x.heap.size x y) => Holds_any (sy.keep hy) hwk (hT.keep hy) l r o v (hF.at.1.keep hy) (hF.at.2.1.keep hy) (hF.at.2.2.1.keep hy) (hF.at.2.2.2.keep hy)
 have CH2 := fun (y : World) (hy : Below x.heap.size x y) (p1 p2 p3 p4 : Option Addr) (d1 d2 d3 d4 : Nat) (q1 : Ak y p1 l.n d1 l.g) (q2 : Ak y p2 r.n d2 r.g) (q3 : Ak y p3 o.n d3 o.g) (q4 : Ak y p4 v.n d4 v.g) => Holds_any (sy.keep hy) hwk (hT.keep hy) ⟨p1, l.n, d1, l.g⟩ ⟨p2, r.n, d2, r.g⟩ ⟨p3, o.n, d3, o.g⟩ ⟨p4, v.n, d4, v.g⟩ q1.1 q2.1 q3.1 q4.1
 have zE : ∀ (p1 p2 p3 p4 : Option Addr) (d1 d2 d3 d4 : Nat), evS (nms 0 ⟨p1, l.n, d1, l.g⟩ ⟨p2, r.n, d2, r.g⟩ ⟨p3, o.n, d3, o.g⟩ ⟨p4, v.n, d4, v.g⟩) m K (lf Sm.L (glL n f)) = Z ∧ evE (nms 0 ⟨p1, l.n, d1, l.g⟩ ⟨p2, r.n, d2, r.g⟩ ⟨p3, o.n, d3, o.g⟩ ⟨p4, v.n, d4, v.g⟩) m K (lf Sm.L (glL n f)) = ee ∧ hoE ⟨p1, l.n, d1, l.g⟩ ⟨p2, r.n, d2, r.g⟩ ⟨p3, o.n, d3, o.g⟩ ⟨p4, v.n, d4, v.g⟩ m K Q = hh := fun p1 p2 p3 p4 d1 d2 d3 d4 => by
  have e2 : ftB (nms 0 ⟨p1, l.n, d1, l.g⟩ ⟨p2, r.n, d2, r.g⟩ ⟨p3, o.n, d3, o.g⟩ ⟨p4, v.n, d4, v.g⟩) m K = ftB (nms 0 l r o v) m K := ftB_cg m K (fun k => (nms_cg l r o v p1 p2 p3 p4 d1 d2 d3 d4 k).1)
  have e1 : ∀ (Y : List Tm), es (nms 0 ⟨p1, l.n, d1, l.g⟩ ⟨p2, r.n, d2, r.g⟩ ⟨p3, o.n, d3, o.g⟩ ⟨p4, v.n, d4, v.g⟩) (ft Y) Y.length = es (nms 0 l r o v) (ft Y) Y.length := fun Y => es_cg (fun k => (nms_cg l r o v p1 p2 p3 p4 d1 d2 d3 d4 k).2) _ _
  refine ⟨?_, ?_, ?_⟩
  ·rw [← hZ]; unfold evS; rw [e2, e1]
  ·rw [← hee]; unfold evE; rw [e2]
  ·rw [← hhh]; unfold hoE mlB zsB; rw [e2]; simp only [e1]
 rw [hZ, hee] at CE1
 rw [hhh] at CH1
 simp only [(zE _ _ _ _ _ _ _ _).1, (zE _ _ _ _ _ _ _ _).2.1] at CE2
 simp only [(zE _ _ _ _ _ _ _ _).2.2] at CH2
 replace CE1 := Hn CE1
 replace CE2 := Hn CE2
 replace CH1 := Hn CH1
 replace CH2 := Hn CH2
 have KS : Hid (∀ (y : World), Below x.heap.size x y → Calls Tryz.prog 29 #[.agg #[.int .u64 Z.x0, .int .u64 Z.x1, .int .u64 Z.x2, .int .u64 Z.x3], .agg #[.int .u64 Z.x0, .int .u64 Z.x1, .int .u64 Z.x2, .int .u64 Z.x3]] y fun e w' => e = .returned (.bool true) ∧ Below y.heap.size y w') := Hn (fun y hy => sameSelf Z y (hT.keep hy) (by rw [← hZ]; exact evS_ok _ _ _ _))
 have lfn : (lf Sm.L (glL n f)).length ≤ 2932031007402 := lf_leT (by simp [glL]; omega)
 have C1 := Hn (fun (y : World) (hy : Below x.heap.size x y) => lqC (Least_lin P1 n c1 f y (hT.keep hy) nf hf (h1.keep hy)))
 have C2 := Hn (fun (y : World) (hy : Below x.heap.size x y) => lqC (Least_lin P2 n c2 f y (hT.keep hy) nf hf (h2.keep hy)))
 have E1 := Hn (fun P Q ca cb (y : World) (hy : Below x.heap.size x y) => eqSelf (lf Sm.L (glL n f)) (Cm.lf_ls (by decide) _) lfn P Q ca cb y)
 have C3 := Hn (fun (y : World) (hy : Below x.heap.size x y) => lqC (Add_lin P1 P3 n c1 n3 c3 f g y (hT.keep hy) (by omega) hf hg (h1.keep hy) (h3.keep hy)))
 have C4 := Hn (fun (y : World) (hy : Below x.heap.size x y) => lqC (Add_lin P2 P3 n c2 n3 c3 f g y (hT.keep hy) (by omega) hf hg (h2.keep hy) (h3.keep hy)))
 have E2 := Hn (fun P Q ca cb (y : World) (hy : Below x.heap.size x y) => eqSelf (lf Sm.L (glL n f ++ glL n3 g)) (Cm.lf_ls (by decide) _) (lf_leT (by simp [glL]; omega)) P Q ca cb y)
 have C5 := Hn (fun (y : World) (hy : Below x.heap.size x y) => lqC (Sub_lin P3 P1 n3 c3 n c1 g f y (hT.keep hy) (by omega) hg hf (h3.keep hy) (h1.keep hy)))
 have C6 := Hn (fun (y : World) (hy : Below x.heap.size x y) => lqC (Sub_lin P3 P2 n3 c3 n c2 g f y (hT.keep hy) (by omega) hg hf (h3.keep hy) (h2.keep hy)))
 have E3 := Hn (fun P Q ca cb (y : World) (hy : Below x.heap.size x y) => eqSelf (lf Sm.L (glL n3 g ++ glN n f)) (Cm.lf_ls (by decide) _) (lf_leT (by simp [glL, glN]; omega)) P Q ca cb y)
 obtain ⟨t3, ht3, CI⟩ : ∃ t3 : E4, t3.ok ∧ Hid (∀ (y : World), Calls Tryz.prog 9 #[.int .u64 3] y fun e w' => e = .returned (.agg #[.int .u64 t3.x0, .int .u64 t3.x1, .int .u64 t3.x2, .int .u64 t3.x3]) ∧ Below y.heap.size y w') := ⟨lst 3, lst_ok _, Hn (fun y => fix (R := lst 3) (Int_any 3 y (by unfold Sm.Wd; omega)) rfl)⟩
 have C7 := Hn (fun (y : World) (hy : Below x.heap.size x y) => lqC (Times_any P1 n c1 f t3 y (hT.keep hy) nf ht3 hf (h1.keep hy)))
 have C8 := Hn (fun (y : World) (hy : Below x.heap.size x y) => lqC (Times_any P2 n c2 f t3 y (hT.keep hy) nf ht3 hf (h2.keep hy)))
 have E4 := Hn (fun P Q ca cb (y : World) (hy : Below x.heap.size x y) => eqSelf (lf Sm.L (glM t3 n f)) (Cm.lf_ls (by decide) _) (lf_leT (by simp [glM]; omega)) P Q ca cb y)
 clear lfn nf zE hwk hT hF h1 h2 h3 sy hb0 hbl hn hn3 hf hg hm hK ht3 hZ hee hhh T0 AT
 go_enter Tryz.func7, Tryz.ntmps7
 go_upto_region 1 with fail
 have HX := Hn (bx4_new x l r o v)
 have BW := Hn (bl_alloc x (.cells #[.slice l.p l.n l.c, .slice r.p r.n r.c, .slice o.p o.n o.c, .slice v.p v.n v.c] 30))
 obtain ⟨x1, hx1⟩ : ∃ x1, x.alloc (.cells #[.slice l.p l.n l.c, .slice r.p r.n r.c, .slice o.p o.n o.c, .slice v.p v.n v.c] 30) = x1 := ⟨_, rfl⟩
 obtain ⟨xb, hxb⟩ : ∃ xb, x.heap.size = xb := ⟨_, rfl⟩
 rw [hx1, hxb] at HX
 rw [hx1] at BW ⊢
 rw [hxb]
 clear hx1 hxb
 refine al1 _ xb l r o v _ _ _ _ _ _ _ _ _ _ _ _ _ _ _ _ _ _ _ _ _ _ _ _ _ _ _ _ _ _ _ _ _ _ _ _ _ _ _ _ _ _ _ _ _ _ _ _ _ _ _ _ _ _ _ _ _ _ _ _ _ _ _ _ _ _ _ _ _ _ _ _ _ _ _ _ _ _ _ _ _ _ _ _ _ _ _ _ _ _ _ _ x1 ⟨HX.out.1, HX.out.2.1, HX.out.2.2.1, HX.out.2.2.2, OW.out.1.keep BW.out, OW.out.2.1.keep BW.out, OW.out.2.2.1.keep BW.out, OW.out.2.2.2.keep BW.out⟩ (Hn ?_)
 intro wz p1 d1 p2 d2 p3 d3 p4 d4 rb hz a1 a2 a3 a4 _ hfr
 replace HX := Hn (HX.out.keep hz)
 replace BW := Hn (bl_trans BW.out hz)
 have HY : Hid (Bx4 wz rb ⟨p1, l.n, d1, l.g⟩ ⟨p2, r.n, d2, r.g⟩ ⟨p3, o.n, d3, o.g⟩ ⟨p4, v.n, d4, v.g⟩) := Hn ⟨hfr 0 _ rfl, hfr 1 _ rfl, hfr 2 _ rfl, hfr 3 _ rfl⟩
 have K4 := Hn (And.intro a1 (And.intro a2 (And.intro a3 a4)))
 clear hz hfr a1 a2 a3 a4 OW
 obtain ⟨x60, x61, x62, x63⟩ := HX.out
 go_upto_region 3 with (have _t := CE1; go_at_call 28; refine (CE1.out _ BW.out).mono ?_; rintro e w3 ⟨rfl, hb⟩; have B3 := Hn hb; clear hb CE1 x60 x61 x62 x63)
 have B4 := Hn (bl_trans B3.out (bl_alloc w3 (.cells #[.int .u64 Z.x0, .int .u64 Z.x1, .int .u64 Z.x2, .int .u64 Z.x3] 35)))
 have HN := Hn (bz4_new w3 Z)
 clear B3
 obtain ⟨w4, hw4⟩ : ∃ w4, w3.alloc (.cells #[.int .u64 Z.x0, .int .u64 Z.x1, .int .u64 Z.x2, .int .u64 Z.x3] 35) = w4 := ⟨_, rfl⟩
 obtain ⟨nb, hnb⟩ : ∃ nb, w3.heap.size = nb := ⟨_, rfl⟩
 rw [hw4, hnb] at HN
 rw [hw4] at B4 ⊢
 rw [hnb]
 clear hw4 hnb
 replace HX := Hn (HX.out.keep B4.out)
 replace HY := Hn (HY.out.keep B4.out)
 replace BW := Hn (bl_trans BW.out B4.out)
 replace K4 : Hid (Ak w4 p1 l.n d1 l.g ∧ Ak w4 p2 r.n d2 r.g ∧ Ak w4 p3 o.n d3 o.g ∧ Ak w4 p4 v.n d4 v.g) := Hn ⟨(kAk (Hn K4.out.1) B4.out).out, (kAk (Hn K4.out.2.1) B4.out).out, (kAk (Hn K4.out.2.2.1) B4.out).out, (kAk (Hn K4.out.2.2.2) B4.out).out⟩
 clear B4
 obtain ⟨x60, x61, x62, x63⟩ := HY.out
 go_upto_region 4 with (have _t := CE2; go_at_call 28; refine (CE2.out _ BW.out p1 p2 p3 p4 d1 d2 d3 d4 K4.out.1 K4.out.2.1 K4.out.2.2.1 K4.out.2.2.2).mono ?_; rintro e w5 ⟨rfl, hb⟩; have B5 := Hn hb; clear hb CE2 x60 x61 x62 x63)
 have B6 := Hn (bl_trans B5.out (bl_alloc w5 (.cells #[.int .u64 Z.x0, .int .u64 Z.x1, .int .u64 Z.x2, .int .u64 Z.x3] 35)))
 have HM := Hn (bz4_new w5 Z)
 clear B5
 obtain ⟨w6, hw6⟩ : ∃ w6, w5.alloc (.cells #[.int .u64 Z.x0, .int .u64 Z.x1, .int .u64 Z.x2, .int .u64 Z.x3] 35) = w6 := ⟨_, rfl⟩
 obtain ⟨mb, hmb⟩ : ∃ mb, w5.heap.size = mb := ⟨_, rfl⟩
 rw [hw6, hmb] at HM
 rw [hw6] at B6 ⊢
 rw [hmb]
 clear hw6 hmb
 replace HX := Hn (HX.out.keep B6.out)
 replace HY := Hn (HY.out.keep B6.out)
 replace HN := Hn (HN.out.keep B6.out)
 replace BW := Hn (bl_trans BW.out B6.out)
 replace K4 : Hid (Ak w6 p1 l.n d1 l.g ∧ Ak w6 p2 r.n d2 r.g ∧ Ak w6 p3 o.n d3 o.g ∧ Ak w6 p4 v.n d4 v.g) := Hn ⟨(kAk (Hn K4.out.1) B6.out).out, (kAk (Hn K4.out.2.1) B6.out).out, (kAk (Hn K4.out.2.2.1) B6.out).out, (kAk (Hn K4.out.2.2.2) B6.out).out⟩
 clear B6
 refine al4 _ s xb rb nb mb ee hh Z l r o v ⟨p1, l.n, d1, l.g⟩ ⟨p2, r.n, d2, r.g⟩ ⟨p3, o.n, d3, o.g⟩ ⟨p4, v.n, d4, v.g⟩ _ _ _ _ _ _ _ _ _ _ _ _ _ _ _ _ _ _ _ _ _ _ _ _ _ _ _ _ _ _ _ _ _ _ _ _ _ _ _ _ _ _ _ _ _ _ _ _ _ _ _ _ _ _ _ _ _ _ _ _ _ _ _ _ _ _ _ _ _ _ _ _ _ _ _ _ _ _ _ _ _ _ _ _ _ _ w6 HN.out.1 HN.out.2.1 HN.out.2.2.1 HN.out.2.2.2 HM.out.1 HM.out.2.1 HM.out.2.2.1 HM.out.2.2.2 HX.out.1 HX.out.2.1 HX.out.2.2.1 HX.out.2.2.2 HY.out.1 HY.out.2.1 HY.out.2.2.1 HY.out.2.2.2 (Hn (fun y hy => KS.out y (bl_trans BW.out hy))) (Hn (fun y hy => CH1.out y (bl_trans BW.out hy))) (Hn (fun y hy => CH2.out y (bl_trans BW.out hy) p1 p2 p3 p4 d1 d2 d3 d4 (kAk (Hn K4.out.1) hy).out (kAk (Hn K4.out.2.1) hy).out (kAk (Hn K4.out.2.2.1) hy).out (kAk (Hn K4.out.2.2.2) hy).out)) (Hn ?_)
 intro w7 hz
 replace BW := Hn (bl_trans BW.out hz)
 clear hz HX HY HN HM K4 KS CH1 CH2
 go_upto_region 6 with fail
 go_wp2_with (first
  | (have _t := C1; go_at_call 31; refine (C1.out _ BW.out).mono ?_; rintro e w11 ⟨P11, c11, rfl, hl, hb⟩; have L1 := Hn hl; replace BW := Hn (bl_trans BW.out hb); clear hl hb C1)
  | (have _t := C2; go_at_call 31; refine (C2.out _ BW.out).mono ?_; rintro e w12 ⟨P12, c12, rfl, hl, hb⟩; have L2 := Hn hl; replace BW := Hn (bl_trans BW.out hb); replace L1 := Hn (L1.out.keep hb); clear hl hb C2)
  | (have _t := E1; go_at_call 30; refine (E1.out _ _ _ _ _ BW.out L1.out L2.out).mono ?_; rintro e w21 ⟨rfl, hb⟩; replace BW := Hn (bl_trans BW.out hb); clear hb E1 L1 L2)
  | (have _t := C3; go_at_call 32; refine (C3.out _ BW.out).mono ?_; rintro e w13 ⟨P13, c13, rfl, hl, hb⟩; have L3 := Hn hl; replace BW := Hn (bl_trans BW.out hb); clear hl hb C3)
  | (have _t := C4; go_at_call 32; refine (C4.out _ BW.out).mono ?_; rintro e w14 ⟨P14, c14, rfl, hl, hb⟩; have L4 := Hn hl; replace BW := Hn (bl_trans BW.out hb); replace L3 := Hn (L3.out.keep hb); clear hl hb C4)
  | (have _t := E2; go_at_call 30; refine (E2.out _ _ _ _ _ BW.out L3.out L4.out).mono ?_; rintro e w22 ⟨rfl, hb⟩; replace BW := Hn (bl_trans BW.out hb); clear hb E2 L3 L4)
  | (have _t := C5; go_at_call 20; refine (C5.out _ BW.out).mono ?_; rintro e w15 ⟨P15, c15, rfl, hl, hb⟩; have L5 := Hn hl; replace BW := Hn (bl_trans BW.out hb); clear hl hb C5)
  | (have _t := C6; go_at_call 20; refine (C6.out _ BW.out).mono ?_; rintro e w16 ⟨P16, c16, rfl, hl, hb⟩; have L6 := Hn hl; replace BW := Hn (bl_trans BW.out hb); replace L5 := Hn (L5.out.keep hb); clear hl hb C6)
  | (have _t := E3; go_at_call 30; refine (E3.out _ _ _ _ _ BW.out L5.out L6.out).mono ?_; rintro e w23 ⟨rfl, hb⟩; replace BW := Hn (bl_trans BW.out hb); clear hb E3 L5 L6)
  | (have _t := CI; have _u := C7; go_at_call 9; refine (CI.out _).mono ?_; rintro e w37 ⟨rfl, hb⟩; replace BW := Hn (bl_trans BW.out hb); clear hb)
  | (have _t := C7; go_at_call 19; refine (C7.out _ BW.out).mono ?_; rintro e w17 ⟨P17, c17, rfl, hl, hb⟩; have L7 := Hn hl; replace BW := Hn (bl_trans BW.out hb); clear hl hb C7)
  | (have _t := CI; have _u := L7; go_at_call 9; refine (CI.out _).mono ?_; rintro e w38 ⟨rfl, hb⟩; replace BW := Hn (bl_trans BW.out hb); replace L7 := Hn (L7.out.keep hb); clear hb CI)
  | (have _t := C8; go_at_call 19; refine (C8.out _ BW.out).mono ?_; rintro e w18 ⟨P18, c18, rfl, hl, hb⟩; have L8 := Hn hl; replace BW := Hn (bl_trans BW.out hb); replace L7 := Hn (L7.out.keep hb); clear hl hb C8)
  | (have _t := E4; go_at_call 30; refine (E4.out _ _ _ _ _ BW.out L7.out L8.out).mono ?_; rintro e w24 ⟨rfl, hb⟩; replace BW := Hn (bl_trans BW.out hb); clear hb E4 L7 L8))
 refine bodyPost_ret (v := .bool true) (by simp [results, Tryz.results7, go_sem]) rfl ⟨rfl, BW.out⟩
end Ci
end Go.Proofs.YthngomhhafoamaaGreatDoor
