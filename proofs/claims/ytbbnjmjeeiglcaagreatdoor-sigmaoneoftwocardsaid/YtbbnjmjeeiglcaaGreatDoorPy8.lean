import Derived.Test.YtbbnjmjeeiglcaaGreatDoorPy7
set_option maxRecDepth 100000
set_option maxHeartbeats 32000000
set_option linter.unusedVariables false
set_option linter.unusedSimpArgs false
set_option linter.defProp false
namespace Go.Proofs.YtbbnjmjeeiglcaaGreatDoor
namespace Sg
open Go.RowKit
structure LB (w0 : World) (T14 T15 T22 T23 RR r cRR n J1 cJ1 J2 cJ2 AX AY AN AM : Nat) (c t : E4) (g : Nat → Nat) (gs : Nat → Nat → E4) (im1 im2 xs ys ns ms : Nat → E4) (w : World) : Prop where
 bel : Below w0.heap.size w0 w
 tb : Tb w
 c14 : w.rangeAt T14 0 [.int .u64 c.x0, .int .u64 c.x1, .int .u64 c.x2, .int .u64 c.x3]
 c15 : w.rangeAt T15 0 [.int .u64 t.x0, .int .u64 t.x1, .int .u64 t.x2, .int .u64 t.x3]
 c22 : w.rangeAt T22 0 [.slice (some ⟨RR, 0, none⟩) r cRR, .slice (some ⟨J1, 0, none⟩) r cJ1]
 c23 : w.rangeAt T23 0 [.slice (some ⟨RR, 0, none⟩) r cRR, .slice (some ⟨J2, 0, none⟩) r cJ2]
 row : ∀ i, i < r → w.cell? ⟨RR, i, none⟩ = some (.slice (some ⟨g i, 0, none⟩) n n)
 rl : ∀ i, i < r → Rl w (g i) 0 n (gs i)
 j1 : Rl w J1 0 r im1
 j2 : Rl w J2 0 r im2
 ax : Rl w AX 0 n xs
 ay : Rl w AY 0 n ys
 an : Rl w AN 0 n ns
 am : Rl w AM 0 n ms
theorem LB.keep {w0 : World} {T14 T15 T22 T23 RR r cRR n J1 cJ1 J2 cJ2 AX AY AN AM : Nat} {c t : E4} {g : Nat → Nat} {gs : Nat → Nat → E4} {im1 im2 xs ys ns ms : Nat → E4} {w w' : World} (h : LB w0 T14 T15 T22 T23 RR r cRR n J1 cJ1 J2 cJ2 AX AY AN AM c t g gs im1 im2 xs ys ns ms w) (hb : Below w.heap.size w w') : LB w0 T14 T15 T22 T23 RR r cRR n J1 cJ1 J2 cJ2 AX AY AN AM c t g gs im1 im2 xs ys ns ms w' :=
 ⟨bl_trans h.bel hb, h.tb.keep hb, range_bl h.c14 hb, range_bl h.c15 hb, range_bl h.c22 hb, range_bl h.c23 hb, fun i hi => cell_keep (h.row i hi) hb, fun i hi => (h.rl i hi).keep hb, h.j1.keep hb, h.j2.keep hb, h.ax.keep hb, h.ay.keep hb, h.an.keep hb, h.am.keep hb⟩
structure L0 (B RR r n AX AY AN AM : Nat) (g : Nat → Nat) (gs : Nat → Nat → E4) (xs ys ns ms : Nat → E4) (w : World) : Prop where
 row : ∀ i, i < r → w.cell? ⟨RR, i, none⟩ = some (.slice (some ⟨g i, 0, none⟩) n n)
 rl : ∀ i, i < r → Rl w (g i) 0 n (gs i)
 ax : Rl w AX 0 n xs
 ay : Rl w AY 0 n ys
 an : Rl w AN 0 n ns
 am : Rl w AM 0 n ms
 lo : B ≤ RR ∧ (∀ i, i < r → B ≤ g i) ∧ B ≤ AX ∧ B ≤ AY ∧ B ≤ AN ∧ B ≤ AM
theorem L0.keep {B RR r n AX AY AN AM : Nat} {g : Nat → Nat} {gs : Nat → Nat → E4} {xs ys ns ms : Nat → E4} {w w' : World} (h : L0 B RR r n AX AY AN AM g gs xs ys ns ms w) (hb : Below w.heap.size w w') : L0 B RR r n AX AY AN AM g gs xs ys ns ms w' :=
 ⟨fun i hi => cell_keep (h.row i hi) hb, fun i hi => (h.rl i hi).keep hb, h.ax.keep hb, h.ay.keep hb, h.an.keep hb, h.am.keep hb, h.lo⟩
theorem L0.set {B RR r n AX AY AN AM T : Nat} {g : Nat → Nat} {gs : Nat → Nat → E4} {xs ys ns ms : Nat → E4} {w w' : World} (h : L0 B RR r n AX AY AN AM g gs xs ys ns ms w) (hg : w.grownBy w' (some T)) (hT : T < B) : L0 B RR r n AX AY AN AM g gs xs ys ns ms w' :=
 ⟨fun i hi => hg.cell (h.row i hi) (fun e => by have h9 : RR = T := Option.some.inj e; have := h.lo.1; omega), fun i hi => rl_gb (h.rl i hi) hg (by have := h.lo.2.1 i hi; omega), rl_gb h.ax hg (by have := h.lo.2.2.1; omega), rl_gb h.ay hg (by have := h.lo.2.2.2.1; omega), rl_gb h.an hg (by have := h.lo.2.2.2.2.1; omega), rl_gb h.am hg (by have := h.lo.2.2.2.2.2; omega), h.lo⟩
theorem tb_lt {w : World} (h : Tb w) : 0 < w.heap.size := World.block_lt_of_cell? w _ h.1
theorem holds_im (n : Nat) (gs : Nat → Nat → E4) (xs : Nat → E4) (i : Nat) : lst (Ff n xs gs i).n = lst (Fi n gs xs i).n := by
 unfold Ff Fi
 rw [lst_n', ims_is]
 congr 2
 funext q
 exact Int.mul_comm _ _
theorem givenG (t : E4) (y : World) (b : Nat) (h : y.rangeAt b 0 [.int .u64 t.x0, .int .u64 t.x1, .int .u64 t.x2, .int .u64 t.x3]) : Calls Tryz.prog 12 #[.slice (some ⟨b, 0, none⟩) 1 1] y fun e w' => ∃ s : Nat, e = .returned (.pointer (some ⟨s, 0, none⟩)) ∧ Fz w' s t ∧ y.heap.size ≤ s ∧ Below y.heap.size y w' := by
 refine (Tr.givens_any (some ⟨b, 0, none⟩) 1 1 (fun _ => t) y (fun e => by cases e) (fun a ha j u hu => ?_) (by omega)).mono ?_
 ·obtain rfl := Option.some.inj ha
  rw [Addr.add_mid]
  exact h j u (by simpa [Tr.svs] using hu)
 ·rintro e w' ⟨s, Q, d, rfl, h1, h2, h3, h4, h5, h6⟩
  exact ⟨s, rfl, ⟨Q, d, h1, h2, h3⟩, h5, h6⟩
theorem ans_same (m v y u2 : Int) (h : u2 % Sm.L = v % Sm.L) : ((m - (v * y) % Sm.L) % Sm.L + (u2 * y) % Sm.L) % Sm.L = m % Sm.L := by
 have hq : (u2 * y) % Sm.L = (v * y) % Sm.L := by rw [Int.mul_emod, h, ← Int.mul_emod]
 rw [hq, Int.emod_add_emod, Int.sub_add_cancel]
theorem ft_ok {m : Nat} {ks : Nat → E4} (h : ∀ j, j < m → (ks j).ok) (j : Nat) : (Ft m ks j).ok := by
 unfold Ft
 by_cases q : j < m
 ·rw [if_pos q]; exact h j q
 ·rw [if_neg q]; exact zok
theorem own_rl0 {w : World} {B n : Nat} {v : Value} {f : Nat → E4} (h : w.ownsRow B 26 4 v n (svs n f)) (hn : 1 ≤ n) : ∃ G c : Nat, v = .slice (some ⟨G, 0, none⟩) n c ∧ B ≤ G ∧ Rl w G 0 n f := by
 obtain ⟨G, c, rfl, h1, h2, h3⟩ := own_shapeS h hn
 exact ⟨G, c, rfl, h2, own_rlS (ys := []) (by simpa using h) (Nat.le_refl _)⟩
theorem one_any (P : Option Addr) (m c0 : Nat) (width : Int) (pp : Nat → Option Addr) (mm cc : Nat → Nat) (ks : Nat → Nat → E4) (b o : Nat) (P2 : Option Addr) (L2 c2 : Nat) (k2 : Nat → E4) (P3 : Option Addr) (L3 c3 : Nat) (k3 : Nat → E4) (P4 : Option Addr) (L4 c4 : Nat) (k4 : Nat → E4) (P5 : Option Addr) (L5 c5 : Nat) (k5 : Nat → E4) (c t : E4) (w : World) (hT : Tb w) (hP : 0 < m → P = some ⟨b, o, none⟩) (hm : m ≤ 5864062014634) (hrow : ∀ i, i < m → w.cell? ⟨b, o + i, none⟩ = some (.slice (pp i) (mm i) (cc i))) (hl : ∀ i, i < m → Lm w (pp i) (mm i) (ks i)) (hk : ∀ i, i < m → ∀ j, j < mm i → (ks i j).ok) (hP2 : Lm w P2 L2 k2) (oP2 : ∀ j, j < L2 → (k2 j).ok) (hP3 : Lm w P3 L3 k3) (oP3 : ∀ j, j < L3 → (k3 j).ok) (hP4 : Lm w P4 L4 k4) (oP4 : ∀ j, j < L4 → (k4 j).ok) (hP5 : Lm w P5 L5 k5) (oP5 : ∀ j, j < L5 → (k5 j).ok) (oc : c.ok) (ot : t.ok) :
  Calls Tryz.prog 3 #[.slice P m c0, .int .i64 width, .slice P2 L2 c2, .slice P3 L3 c3, .slice P4 L4 c4, .slice P5 L5 c5, .agg #[.int .u64 c.x0, .int .u64 c.x1, .int .u64 c.x2, .int .u64 c.x3], .agg #[.int .u64 t.x0, .int .u64 t.x1, .int .u64 t.x2, .int .u64 t.x3]] w fun e w' => e = .returned (.bool true) ∧ Below w.heap.size w w' := by
 have M0 := ((Mw.start w).new [.int .u64 c.x0, .int .u64 c.x1, .int .u64 c.x2, .int .u64 c.x3] 26).new [.int .u64 t.x0, .int .u64 t.x1, .int .u64 t.x2, .int .u64 t.x3] 26
 simp only [World.size_alloc] at M0
 have M := hidden M0
 clear M0
 have SQ := hidden (fun x (hb : Below w.heap.size w x) => squareR P m c0 width pp mm cc ks b o x hP hm (fun i hi => cell_keep (hrow i hi) hb) (fun i hi => (hl i hi).keep hb) hk)
 have HL := hidden (And.intro hT (And.intro hP2 (And.intro hP3 (And.intro hP4 hP5))))
 clear hrow hl hT hP2 hP3 hP4 hP5
 go_enter Tryz.func3, Tryz.ntmps3
 go_upto_region 1 with fail
 have SZ2 : Hid (((w.alloc (.cells #[.int .u64 c.x0, .int .u64 c.x1, .int .u64 c.x2, .int .u64 c.x3] 26)).alloc (.cells #[.int .u64 t.x0, .int .u64 t.x1, .int .u64 t.x2, .int .u64 t.x3] 26)).heap.size = w.heap.size + 2) := hidden (by simp only [World.size_alloc])
 generalize ((w.alloc (.cells #[.int .u64 c.x0, .int .u64 c.x1, .int .u64 c.x2, .int .u64 c.x3] 26)).alloc (.cells #[.int .u64 t.x0, .int .u64 t.x1, .int .u64 t.x2, .int .u64 t.x3] 26)) = w2 at *
 go_upto_region 2 with (first | (go_at_call 4; refine (SQ.out _ M.out.bel).mono ?_; rintro e wa ⟨v17, r, n, g, gs, rfl, hr1, hr2, hn1, hn2, hq⟩; have MA := hidden (M.out.keep (below_less hq.bel (Nat.le_refl _))); have Q := hidden hq; clear hq M SQ))
 obtain ⟨RR, cRR, rfl, _, hRlo, _⟩ := own_shapeS Q.out.own hr1
 have ROW : Hid (∀ i, i < r → wa.cell? ⟨RR, i, none⟩ = some (.slice (some ⟨g i, 0, none⟩) n n)) := hidden (fun i hi => by
  have := Q.out.own.cellAt i (by omega)
  rw [List.getElem?_map, List.getElem?_range hi] at this
  exact this)
 have RL := hidden Q.out.each
 have OKS := hidden Q.out.ok
 have lo := Q.out.lo
 clear Q
 go_upto_region 3 with (first | (go_at_call 5; refine (fittedR RR (g 0) n n r cRR L2 c2 P2 k2 _ hr1 (by omega) (ROW.out 0 hr1) (HL.out.2.1.keep MA.out.bel)).mono ?_; rintro e wb ⟨rfl, hR, hb⟩; have loX := hidden (MA.out.r (w.heap.size + 1, [.int .u64 t.x0, .int .u64 t.x1, .int .u64 t.x2, .int .u64 t.x3]) (by simp)).2.2.2; have MB := hidden (MA.out.keep hb); have ROW2 := hidden (fun i hi => cell_keep (ROW.out i hi) hb); have RL2 := hidden (fun i hi => (RL.out i hi).keep hb); have RX0 := hidden hR.r; clear hb hR ROW RL MA ))
 have ROW := ROW2
 have RL := RL2
 clear ROW2 RL2
 have RX := RX0
 clear RX0
 generalize wa.heap.size = AX at *
 go_upto_region 4 with (first | (go_at_call 5; refine (fittedR RR (g 0) n n r cRR L3 c3 P3 k3 _ hr1 (by omega) (ROW.out 0 hr1) (HL.out.2.2.1.keep MB.out.bel)).mono ?_; rintro e wc ⟨rfl, hR, hb⟩; have loY := hidden (MB.out.r (w.heap.size + 1, [.int .u64 t.x0, .int .u64 t.x1, .int .u64 t.x2, .int .u64 t.x3]) (by simp)).2.2.2; have MC := hidden (MB.out.keep hb); have ROW2 := hidden (fun i hi => cell_keep (ROW.out i hi) hb); have RL2 := hidden (fun i hi => (RL.out i hi).keep hb); have RX2 := hidden (RX.out.keep hb); have RY0 := hidden hR.r; clear hb hR ROW RL MB RX))
 have ROW := ROW2
 have RL := RL2
 clear ROW2 RL2
 have RX := RX2
 clear RX2
 have RY := RY0
 clear RY0
 generalize wb.heap.size = AY at *
 go_upto_region 5 with (first | (go_at_call 5; refine (fittedR RR (g 0) n n r cRR L4 c4 P4 k4 _ hr1 (by omega) (ROW.out 0 hr1) (HL.out.2.2.2.1.keep MC.out.bel)).mono ?_; rintro e wd ⟨rfl, hR, hb⟩; have loN := hidden (MC.out.r (w.heap.size + 1, [.int .u64 t.x0, .int .u64 t.x1, .int .u64 t.x2, .int .u64 t.x3]) (by simp)).2.2.2; have MD := hidden (MC.out.keep hb); have ROW2 := hidden (fun i hi => cell_keep (ROW.out i hi) hb); have RL2 := hidden (fun i hi => (RL.out i hi).keep hb); have RX2 := hidden (RX.out.keep hb); have RY2 := hidden (RY.out.keep hb); have RN0 := hidden hR.r; clear hb hR ROW RL MC RX RY))
 have ROW := ROW2
 have RL := RL2
 clear ROW2 RL2
 have RX := RX2
 clear RX2
 have RY := RY2
 clear RY2
 have RN := RN0
 clear RN0
 generalize wc.heap.size = AN at *
 go_upto_region 6 with (first | (go_at_call 5; refine (fittedR RR (g 0) n n r cRR L5 c5 P5 k5 _ hr1 (by omega) (ROW.out 0 hr1) (HL.out.2.2.2.2.keep MD.out.bel)).mono ?_; rintro e we ⟨rfl, hR, hb⟩; have loM := hidden (MD.out.r (w.heap.size + 1, [.int .u64 t.x0, .int .u64 t.x1, .int .u64 t.x2, .int .u64 t.x3]) (by simp)).2.2.2; have ME := hidden (MD.out.keep hb); have ROW2 := hidden (fun i hi => cell_keep (ROW.out i hi) hb); have RL2 := hidden (fun i hi => (RL.out i hi).keep hb); have RX2 := hidden (RX.out.keep hb); have RY2 := hidden (RY.out.keep hb); have RN2 := hidden (RN.out.keep hb); have RM0 := hidden hR.r; clear hb hR ROW RL MD RX RY RN))
 have ROW := ROW2
 have RL := RL2
 clear ROW2 RL2
 have RX := RX2
 clear RX2
 have RY := RY2
 clear RY2
 have RN := RN2
 clear RN2
 have RM := RM0
 clear RM0
 generalize wd.heap.size = AM at *
 have sz2 := SZ2.out
 have LL : Hid (L0 (w.heap.size + 2) RR r n AX AY AN AM g gs (Ft L2 k2) (Ft L3 k3) (Ft L4 k4) (Ft L5 k5) we) := hidden ⟨ROW.out, RL.out, RX.out, RY.out, RN.out, RM.out, by omega, fun i hi => by have := lo i hi; omega, loX.out, loY.out, loN.out, loM.out⟩
 have oX := ft_ok oP2
 have oY := ft_ok oP3
 have oN := ft_ok oP4
 have oM := ft_ok oP5
 generalize Ft L2 k2 = fx at *
 generalize Ft L3 k3 = fy at *
 generalize Ft L4 k4 = fn at *
 generalize Ft L5 k5 = fm at *
 clear ROW RL RX RY RN RM lo hRlo loX loY loN loM oP2 oP3 oP4 oP5 sz2
 have TB0 : Hid (∀ x, Below w.heap.size w x → Tb x) := hidden (fun x hx => HL.out.1.keep hx)
 clear HL
 go_upto_region 7 with (first | (go_at_call 6; refine (imagesR RR AX r n cRR n g (fun _ => n) gs fx _ (TB0.out _ ME.out.bel) (by omega) hn1 (by omega) LL.out.row LL.out.rl OKS.out (fun j _ => oX j) LL.out.ax).mono ?_; rintro e wf ⟨V1, rfl, hO, hb⟩; have MF := hidden (ME.out.keep hb); have LF := hidden (LL.out.keep hb); have lJ1 := hidden (ME.out.r (w.heap.size + 1, [.int .u64 t.x0, .int .u64 t.x1, .int .u64 t.x2, .int .u64 t.x3]) (by simp)).2.2.2; have OJ := hidden hO; clear hb hO ME LL; obtain ⟨J1, cJ1, rfl, hJlo, hJ⟩ := own_rl0 OJ.out hr1; have RJ1 := hidden hJ; have lo1 : Hid (w.heap.size + 1 < J1) := hidden (Nat.lt_of_lt_of_le lJ1.out hJlo); clear OJ hJlo hJ lJ1))
 have MG := hidden (MF.out.new [.slice (some ⟨RR, 0, none⟩) r cRR, .slice (some ⟨J1, 0, none⟩) r cJ1] 30)
 have LG := hidden (LF.out.keep (bl_alloc wf (.cells [.slice (some ⟨RR, 0, none⟩) r cRR, .slice (some ⟨J1, 0, none⟩) r cJ1].toArray 30)))
 have RJ1b := hidden (RJ1.out.keep (bl_alloc wf (.cells [.slice (some ⟨RR, 0, none⟩) r cRR, .slice (some ⟨J1, 0, none⟩) r cJ1].toArray 30)))
 have l22 : Hid (w.heap.size + 1 < wf.heap.size) := hidden (MF.out.r (w.heap.size + 1, [.int .u64 t.x0, .int .u64 t.x1, .int .u64 t.x2, .int .u64 t.x3]) (by simp)).2.2.2
 generalize wf.heap.size = T22 at *
 generalize wf.alloc (.cells [.slice (some ⟨RR, 0, none⟩) r cRR, .slice (some ⟨J1, 0, none⟩) r cJ1].toArray 30) = wg at *
 clear MF LF RJ1
 go_upto_region 8 with (first | (go_at_call 6; refine (imagesR RR AY r n cRR n g (fun _ => n) gs fy _ (TB0.out _ MG.out.bel) (by omega) hn1 (by omega) LG.out.row LG.out.rl OKS.out (fun j _ => oY j) LG.out.ay).mono ?_; rintro e wh ⟨V2, rfl, hO, hb⟩; have MH := hidden (MG.out.keep hb); have LH := hidden (LG.out.keep hb); have RJ1c := hidden (RJ1b.out.keep hb); have lJ2 := hidden (MG.out.r (w.heap.size + 1, [.int .u64 t.x0, .int .u64 t.x1, .int .u64 t.x2, .int .u64 t.x3]) (by simp)).2.2.2; have OJ := hidden hO; clear hb hO MG LG RJ1b; obtain ⟨J2, cJ2, rfl, hJlo, hJ⟩ := own_rl0 OJ.out hr1; have RJ2 := hidden hJ; have lo2 : Hid (w.heap.size + 1 < J2) := hidden (Nat.lt_of_lt_of_le lJ2.out hJlo); clear OJ hJlo hJ lJ2))
 have MI := hidden (MH.out.new [.slice (some ⟨RR, 0, none⟩) r cRR, .slice (some ⟨J2, 0, none⟩) r cJ2] 30)
 have LI := hidden (LH.out.keep (bl_alloc wh (.cells [.slice (some ⟨RR, 0, none⟩) r cRR, .slice (some ⟨J2, 0, none⟩) r cJ2].toArray 30)))
 have RJ1d := hidden (RJ1c.out.keep (bl_alloc wh (.cells [.slice (some ⟨RR, 0, none⟩) r cRR, .slice (some ⟨J2, 0, none⟩) r cJ2].toArray 30)))
 have RJ2d := hidden (RJ2.out.keep (bl_alloc wh (.cells [.slice (some ⟨RR, 0, none⟩) r cRR, .slice (some ⟨J2, 0, none⟩) r cJ2].toArray 30)))
 have l23 : Hid (w.heap.size + 1 < wh.heap.size) := hidden (MH.out.r (w.heap.size + 1, [.int .u64 t.x0, .int .u64 t.x1, .int .u64 t.x2, .int .u64 t.x3]) (by simp)).2.2.2
 generalize wh.heap.size = T23 at *
 generalize wh.alloc (.cells [.slice (some ⟨RR, 0, none⟩) r cRR, .slice (some ⟨J2, 0, none⟩) r cJ2].toArray 30) = wi at *
 clear MH LH RJ1c RJ2
 go_upto_region 10 with (first | (go_at_call 7; refine (Li.alive_any _ (TB0.out _ MI.out.bel)).mono ?_; rintro e wj ⟨rfl, hb⟩; have MJ := hidden (MI.out.keep hb); have LJ := hidden (LI.out.keep hb); have R1 := hidden (RJ1d.out.keep hb); have R2 := hidden (RJ2d.out.keep hb); clear hb MI LI RJ1d RJ2d))
 by_cases hz : t.n % Sm.L = 0
 case' pos =>
  have t0_ := (MJ.out.r (w.heap.size + 1, [.int .u64 t.x0, .int .u64 t.x1, .int .u64 t.x2, .int .u64 t.x3]) (by simp)).1 0 _ rfl; have t1_ := (MJ.out.r (w.heap.size + 1, [.int .u64 t.x0, .int .u64 t.x1, .int .u64 t.x2, .int .u64 t.x3]) (by simp)).1 1 _ rfl; have t2_ := (MJ.out.r (w.heap.size + 1, [.int .u64 t.x0, .int .u64 t.x1, .int .u64 t.x2, .int .u64 t.x3]) (by simp)).1 2 _ rfl; have t3_ := (MJ.out.r (w.heap.size + 1, [.int .u64 t.x0, .int .u64 t.x1, .int .u64 t.x2, .int .u64 t.x3]) (by simp)).1 3 _ rfl; simp only [Nat.zero_add] at t0_ t1_ t2_ t3_
  have IZ := hidden (IsZero_any t wj (TB0.out _ MJ.out.bel) ot)
  rw [show decide (t.n % Sm.L = 0) = true from decide_eq_true hz] at IZ
  have IN := hidden (Li.ints_any 1)
  go_upto_region 12 with (first | (go_at_call 8; refine IZ.out.mono ?_; rintro e wk ⟨rfl, hb⟩; have MK := hidden (MJ.out.keep hb); have LK := hidden (LJ.out.keep hb); have R1k := hidden (R1.out.keep hb); have R2k := hidden (R2.out.keep hb); clear hb MJ LJ R1 R2 IZ t0_ t1_ t2_ t3_) | (go_at_call 9; refine (IN.out _).mono ?_; rintro e wl ⟨rfl, hb⟩; have ML := hidden (MK.out.keep hb); have LLx := hidden (LK.out.keep hb); have R1l := hidden (R1k.out.keep hb); have R2l := hidden (R2k.out.keep hb); clear hb MK LK R1k R2k IN; have TH := (ML.out.r (w.heap.size + 1, [.int .u64 t.x0, .int .u64 t.x1, .int .u64 t.x2, .int .u64 t.x3]) (by simp)).2.1; obtain ⟨f0, d0⟩ := Option.isSome_iff_exists.1 (TH 0 (by simp)).1; obtain ⟨f1, d1⟩ := Option.isSome_iff_exists.1 (TH 1 (by simp)).1; obtain ⟨f2, d2⟩ := Option.isSome_iff_exists.1 (TH 2 (by simp)).1; obtain ⟨f3, d3⟩ := Option.isSome_iff_exists.1 (TH 3 (by simp)).1; have h0 := (TH 0 (by simp)).2; have h1 := (TH 1 (by simp)).2; have h2 := (TH 2 (by simp)).2; have h3 := (TH 3 (by simp)).2; simp only [Nat.zero_add] at d0 d1 d2 d3 h0 h1 h2 h3; clear TH))
  clear d0 d1 d2 d3 h0 h1 h2 h3
  have hG := gb_setCells (w.heap.size + 1) [.int .u64 1, .int .u64 0, .int .u64 0, .int .u64 0] 0 wl
  have MS := ML.out.set (M := [(T23, [.slice (some ⟨RR, 0, none⟩) r cRR, .slice (some ⟨J2, 0, none⟩) r cJ2]), (T22, [.slice (some ⟨RR, 0, none⟩) r cRR, .slice (some ⟨J1, 0, none⟩) r cJ1]), (w.heap.size, [.int .u64 c.x0, .int .u64 c.x1, .int .u64 c.x2, .int .u64 c.x3])]) [.int .u64 1, .int .u64 0, .int .u64 0, .int .u64 0] (c := w.heap.size + 1) (o := [.int .u64 t.x0, .int .u64 t.x1, .int .u64 t.x2, .int .u64 t.x3]) (by simp) rfl (fun p hp => by
   simp only [List.mem_cons, List.not_mem_nil, or_false] at hp
   have := l22.out
   have := l23.out
   rcases hp with rfl | rfl | rfl
   ·exact ⟨by simp, by simp only; omega⟩
   ·exact ⟨by simp, by simp only; omega⟩
   ·exact ⟨by simp, by simp only; omega⟩)
  have LS0 := LLx.out.set hG (by omega)
  have R1s := rl_gb R1l.out hG (by have := lo1.out; omega)
  have R2s := rl_gb R2l.out hG (by have := lo2.out; omega)
  have chE : wl.setCells (w.heap.size + 1) 0 [.int .u64 1, .int .u64 0, .int .u64 0, .int .u64 0] = ((((wl.setCell ⟨w.heap.size + 1, 0, none⟩ (.int .u64 1)).setCell ⟨w.heap.size + 1, 1, none⟩ (.int .u64 0)).setCell ⟨w.heap.size + 1, 2, none⟩ (.int .u64 0)).setCell ⟨w.heap.size + 1, 3, none⟩ (.int .u64 0)) := rfl
  rw [chE] at MS LS0 R1s R2s
  clear hG chE ML LLx R1l R2l
  generalize ((((wl.setCell ⟨w.heap.size + 1, 0, none⟩ (.int .u64 1)).setCell ⟨w.heap.size + 1, 1, none⟩ (.int .u64 0)).setCell ⟨w.heap.size + 1, 2, none⟩ (.int .u64 0)).setCell ⟨w.heap.size + 1, 3, none⟩ (.int .u64 0)) = wk at *
  have BB : Hid (LB w w.heap.size (w.heap.size + 1) T22 T23 RR r cRR n J1 cJ1 J2 cJ2 AX AY AN AM c ⟨1, 0, 0, 0⟩ g gs (Fi n gs fx) (Fi n gs fy) fx fy fn fm wk) := hidden ⟨MS.bel, TB0.out _ MS.bel, (MS.r (w.heap.size, [.int .u64 c.x0, .int .u64 c.x1, .int .u64 c.x2, .int .u64 c.x3]) (by simp)).1, (MS.r (w.heap.size + 1, [.int .u64 1, .int .u64 0, .int .u64 0, .int .u64 0]) (by simp)).1, (MS.r (T22, [.slice (some ⟨RR, 0, none⟩) r cRR, .slice (some ⟨J1, 0, none⟩) r cJ1]) (by simp)).1, (MS.r (T23, [.slice (some ⟨RR, 0, none⟩) r cRR, .slice (some ⟨J2, 0, none⟩) r cJ2]) (by simp)).1, LS0.row, LS0.rl, R1s, R2s, LS0.ax, LS0.ay, LS0.an, LS0.am⟩
  clear MS LS0 R1s R2s
  obtain ⟨tt, htt⟩ : ∃ tt : E4, tt = ⟨1, 0, 0, 0⟩ := ⟨_, rfl⟩
  rw [← htt] at BB
  have ott : tt.ok := htt ▸ Li.ok_small 1 (by omega)
  have hzt : ¬ tt.n % Sm.L = 0 := by rw [htt, Li.n_small]; decide
  clear htt
 case' neg =>
  have t0_ := (MJ.out.r (w.heap.size + 1, [.int .u64 t.x0, .int .u64 t.x1, .int .u64 t.x2, .int .u64 t.x3]) (by simp)).1 0 _ rfl; have t1_ := (MJ.out.r (w.heap.size + 1, [.int .u64 t.x0, .int .u64 t.x1, .int .u64 t.x2, .int .u64 t.x3]) (by simp)).1 1 _ rfl; have t2_ := (MJ.out.r (w.heap.size + 1, [.int .u64 t.x0, .int .u64 t.x1, .int .u64 t.x2, .int .u64 t.x3]) (by simp)).1 2 _ rfl; have t3_ := (MJ.out.r (w.heap.size + 1, [.int .u64 t.x0, .int .u64 t.x1, .int .u64 t.x2, .int .u64 t.x3]) (by simp)).1 3 _ rfl; simp only [Nat.zero_add] at t0_ t1_ t2_ t3_
  have IZ := hidden (IsZero_any t wj (TB0.out _ MJ.out.bel) ot)
  rw [show decide (t.n % Sm.L = 0) = false from decide_eq_false hz] at IZ
  go_upto_region 12 with (first | (go_at_call 8; refine IZ.out.mono ?_; rintro e wk ⟨rfl, hb⟩; have MK := hidden (MJ.out.keep hb); have LK := hidden (LJ.out.keep hb); have R1k := hidden (R1.out.keep hb); have R2k := hidden (R2.out.keep hb); clear hb MJ LJ R1 R2 IZ t0_ t1_ t2_ t3_))
  have BB : Hid (LB w w.heap.size (w.heap.size + 1) T22 T23 RR r cRR n J1 cJ1 J2 cJ2 AX AY AN AM c t g gs (Fi n gs fx) (Fi n gs fy) fx fy fn fm wk) := hidden ⟨MK.out.bel, TB0.out _ MK.out.bel, (MK.out.r (w.heap.size, [.int .u64 c.x0, .int .u64 c.x1, .int .u64 c.x2, .int .u64 c.x3]) (by simp)).1, (MK.out.r (w.heap.size + 1, [.int .u64 t.x0, .int .u64 t.x1, .int .u64 t.x2, .int .u64 t.x3]) (by simp)).1, (MK.out.r (T22, [.slice (some ⟨RR, 0, none⟩) r cRR, .slice (some ⟨J1, 0, none⟩) r cJ1]) (by simp)).1, (MK.out.r (T23, [.slice (some ⟨RR, 0, none⟩) r cRR, .slice (some ⟨J2, 0, none⟩) r cJ2]) (by simp)).1, LK.out.row, LK.out.rl, R1k.out, R2k.out, LK.out.ax, LK.out.ay, LK.out.an, LK.out.am⟩
  obtain ⟨tt, htt⟩ : ∃ tt : E4, tt = t := ⟨_, rfl⟩
  rw [← htt] at BB
  have ott : tt.ok := htt ▸ ot
  have hzt : ¬ tt.n % Sm.L = 0 := htt ▸ hz
  clear MK LK R1k R2k
  clear htt
 all_goals
  obtain ⟨z, hz2⟩ : ∃ z : E4, lst tt.n = z := ⟨_, rfl⟩
  obtain ⟨u, hu⟩ : ∃ u : E4, lst (z.n - c.n) = u := ⟨_, rfl⟩
  obtain ⟨v, hv⟩ : ∃ v : E4, lst c.n = v := ⟨_, rfl⟩
  have oz : z.ok := hz2 ▸ lst_ok _
  have ou : u.ok := hu ▸ lst_ok _
  have ov : v.ok := hv ▸ lst_ok _
  have r64 : r ≤ 64 := by omega
  have n20 : n ≤ 20 := by omega
  have LN1 : Hid (∀ (W y : World), LB w w.heap.size (w.heap.size + 1) T22 T23 RR r cRR n J1 cJ1 J2 cJ2 AX AY AN AM c tt g gs (Fi n gs fx) (Fi n gs fy) fx fy fn fm W → Below W.heap.size W y → Calls Tryz.prog 11 #[.agg #[.slice (some ⟨RR, 0, none⟩) r cRR, .slice (some ⟨J1, 0, none⟩) r cJ1]] y fun e w' => LnR y r n gs (Fi n gs fx) e w') := hidden (fun W y h hy => lineR RR J1 r n cRR cJ1 g (fun _ => n) gs (Fi n gs fx) y hr1 r64 hn1 (by omega) (h.keep hy).row (h.keep hy).rl (h.keep hy).j1 OKS.out (fun i _ => ims_ok _ _ _))
  have LN2 : Hid (∀ (W y : World), LB w w.heap.size (w.heap.size + 1) T22 T23 RR r cRR n J1 cJ1 J2 cJ2 AX AY AN AM c tt g gs (Fi n gs fx) (Fi n gs fy) fx fy fn fm W → Below W.heap.size W y → Calls Tryz.prog 11 #[.agg #[.slice (some ⟨RR, 0, none⟩) r cRR, .slice (some ⟨J2, 0, none⟩) r cJ2]] y fun e w' => LnR y r n gs (Fi n gs fy) e w') := hidden (fun W y h hy => lineR RR J2 r n cRR cJ2 g (fun _ => n) gs (Fi n gs fy) y hr1 r64 hn1 (by omega) (h.keep hy).row (h.keep hy).rl (h.keep hy).j2 OKS.out (fun i _ => ims_ok _ _ _))
  have ca0 := BB.out.c22 0 _ rfl
  have ca1 := BB.out.c22 1 _ rfl
  simp only [Nat.zero_add] at ca0 ca1
  have cb0 := BB.out.c23 0 _ rfl
  have cb1 := BB.out.c23 1 _ rfl
  simp only [Nat.zero_add] at cb0 cb1
  have ct0 := BB.out.c15 0 _ rfl
  have ct1 := BB.out.c15 1 _ rfl
  have ct2 := BB.out.c15 2 _ rfl
  have ct3 := BB.out.c15 3 _ rfl
  simp only [Nat.zero_add] at ct0 ct1 ct2 ct3
  have cc0 := BB.out.c14 0 _ rfl
  have cc1 := BB.out.c14 1 _ rfl
  have cc2 := BB.out.c14 2 _ rfl
  have cc3 := BB.out.c14 3 _ rfl
  simp only [Nat.zero_add] at cc0 cc1 cc2 cc3
  refine lw12 (T14 := w.heap.size) (T15 := w.heap.size + 1) (T22 := T22) (T23 := T23) (RR := RR) (J1 := J1) (J2 := J2) (cRR := cRR) (cJ1 := cJ1) (cJ2 := cJ2) (A3 := AX) (A4 := AN) (A6 := AM) (c3 := n) (c4 := n) (c6 := n) (r := r) (n := n) (t := tt) (c := c) (u := u) (v := v) (gs := gs) (im1 := Fi n gs fx) (im2 := Fi n gs fy) (fa := Fa fn fx u) (fb := Fl fm) (W := wk) hr1 hn1 ca0 ca1 cb0 cb1 ct0 ct1 ct2 ct3 cc0 cc1 cc2 cc3 (hidden fun y hy => LN1.out wk y BB.out hy) (hidden fun y hy => LN2.out wk y BB.out hy) (hidden fun y b _ hb => givenG tt y b hb) (hidden fun y s R1 I1 cR1 cI1 R2 I2 cR2 cI2 g1 cn1 g2 cn2 hy hs k1 k2 kf => ?_) (hidden ?_)
  ·have by_ := BB.out.keep hy
   exact prove1 s r n AX AN AM n n n tt z c u v fx fn fm R1 I1 cR1 cI1 g1 cn1 gs (Fi n gs fx) R2 I2 cR2 cI2 g2 cn2 gs (Fi n gs fy) y by_.tb (Nat.lt_of_lt_of_le (tb_lt BB.out.tb) hs) hr1 r64 n20 hn1 k1 k2 kf ott hzt hz2 oc by_.ax by_.an by_.am (fun j _ => oX j) (fun j _ => oN j) (fun j _ => oM j) (Nat.lt_of_lt_of_le (rl_lt BB.out.ax hn1) hs) (Nat.lt_of_lt_of_le (rl_lt BB.out.an hn1) hs) (Nat.lt_of_lt_of_le (rl_lt BB.out.am hn1) hs) (fun i _ => holds_im n gs fx i) hu hv
  intro R1 I1 cR1 cI1 g1 cn1 R2 I2 cR2 cI2 g2 cn2 tb s N6 N10 T24 wm hB hE hA hBb l24 l6 l10
  have BM := hidden (BB.out.keep hB)
  have E24 := hidden hE
  have RA := hidden hA
  have RB := hidden hBb
  clear hB hE hA hBb l24 l6 l10 BB ca0 ca1 cb0 cb1 ct0 ct1 ct2 ct3 cc0 cc1 cc2 cc3
  go_upto_region 13 with fail
  have ca0 := BM.out.c22 0 _ rfl
  have ca1 := BM.out.c22 1 _ rfl
  simp only [Nat.zero_add] at ca0 ca1
  have cb0 := BM.out.c23 0 _ rfl
  have cb1 := BM.out.c23 1 _ rfl
  simp only [Nat.zero_add] at cb0 cb1
  have ct0 := BM.out.c15 0 _ rfl
  have ct1 := BM.out.c15 1 _ rfl
  have ct2 := BM.out.c15 2 _ rfl
  have ct3 := BM.out.c15 3 _ rfl
  simp only [Nat.zero_add] at ct0 ct1 ct2 ct3
  have cc0 := BM.out.c14 0 _ rfl
  have cc1 := BM.out.c14 1 _ rfl
  have cc2 := BM.out.c14 2 _ rfl
  have cc3 := BM.out.c14 3 _ rfl
  simp only [Nat.zero_add] at cc0 cc1 cc2 cc3
  have ce0 := E24.out 0 _ rfl
  have ce1 := E24.out 1 _ rfl
  have ce2 := E24.out 2 _ rfl
  have ce3 := E24.out 3 _ rfl
  have ce4 := E24.out 4 _ rfl
  have ce5 := E24.out 5 _ rfl
  have ce6 := E24.out 6 _ rfl
  have ce7 := E24.out 7 _ rfl
  have ce8 := E24.out 8 _ rfl
  have ce9 := E24.out 9 _ rfl
  simp only [Nat.zero_add] at ce0 ce1 ce2 ce3 ce4 ce5 ce6 ce7 ce8 ce9
  obtain ⟨sm, hsm⟩ : ∃ sm : E4, lst (u.n + v.n) = sm := ⟨_, rfl⟩
  have zt : z.n % Sm.L = tt.n % Sm.L := by rw [← hz2, lst_n, emod_emod_L]
  have un : u.n % Sm.L = (z.n - c.n) % Sm.L := by rw [← hu, lst_n, emod_emod_L]
  have vn : v.n % Sm.L = c.n % Sm.L := by rw [← hv, lst_n, emod_emod_L]
  have smn : sm.n % Sm.L = (u.n + v.n) % Sm.L := by rw [← hsm, lst_n, emod_emod_L]
  have osm : sm.ok := hsm ▸ lst_ok _
  have SAMEC : Hid (∀ (a b : E4) (y : World), Tb y → a.ok → b.ok → a.n % Sm.L = b.n % Sm.L → Calls Tryz.prog 14 #[.agg #[.int .u64 a.x0, .int .u64 a.x1, .int .u64 a.x2, .int .u64 a.x3], .agg #[.int .u64 b.x0, .int .u64 b.x1, .int .u64 b.x2, .int .u64 b.x3]] y fun e w' => e = .returned (.bool true) ∧ Below y.heap.size y w') := hidden (fun a b y T oa ob h => by
   have h2 := Same_any a b y T oa ob
   rw [(E4.same_iff _ _).2 (lst_congr h)] at h2
   exact h2)
  refine lw13 (T14 := w.heap.size) (T15 := w.heap.size + 1) (T22 := T22) (T23 := T23) (T24 := T24) (RR := RR) (J1 := J1) (J2 := J2) (cRR := cRR) (cJ1 := cJ1) (cJ2 := cJ2) (B1 := N6) (B2 := N10) (r := r) (n := n) (t := tt) (c := c) (p1 := u) (p2 := v) (sm := sm) (gs := gs) (im1 := Fi n gs fx) (im2 := Fi n gs fy) (W := wm) hr1 hn1 ca0 ca1 cb0 cb1 ct0 ct1 ct2 ct3 cc0 cc1 cc2 cc3 ce0 ce1 ce2 ce3 ce4 ce5 ce6 ce7 ce8 ce9 (hidden fun y hy => fix (R := sm) (Add_any u v y (BM.out.keep hy).tb ou ov) hsm) (hidden fun y hy => SAMEC.out sm tt y (BM.out.keep hy).tb osm ott (by rw [smn, ← zt, Int.add_emod, un, vn, ← Int.add_emod]; congr 1; omega)) (hidden fun y hy => SAMEC.out v c y (BM.out.keep hy).tb ov oc vn) (hidden fun y hy => LN1.out wm y BM.out hy) (hidden fun y hy => LN2.out wm y BM.out hy) (hidden fun y b _ hb => givenG tt y b hb) (hidden fun y s R1 I1 cR1 cI1 R2 I2 cR2 cI2 g1 cn1 g2 cn2 hy hs k1 k2 kf => ?_) (hidden ?_)
  ·have by_ := BM.out.keep hy
   refine verifyE s r n N6 N10 n n tt z u v (Fa fn fx u) (Fl fm) R1 I1 cR1 cI1 g1 cn1 gs (Fi n gs fx) R2 I2 cR2 cI2 g2 cn2 gs (Fi n gs fy) y by_.tb (Nat.lt_of_lt_of_le (tb_lt BM.out.tb) hs) hr1 r64 n20 hn1 k1 k2 kf ott hzt hz2 ou ov (RA.out.keep hy) (RB.out.keep hy) (fun i _ => lst_ok _) (fun i _ => lst_ok _) (Nat.lt_of_lt_of_le (rl_lt RA.out hn1) hs) (Nat.lt_of_lt_of_le (rl_lt RB.out hn1) hs) ?_
   rw [lst_n, emod_emod_L, Int.add_emod, lst_n, emod_emod_L, show (⟨0, 0, 0, 0⟩ : E4).n = 0 from Li.n_small 0, Int.zero_add, un, vn, ← Int.add_emod]
   congr 1
   omega
  intro R1 I1 cR1 cI1 g1 cn1 R2 I2 cR2 cI2 g2 cn2 tb s wn hB
  have BN := hidden (BM.out.keep hB)
  have E24n := hidden (range_bl E24.out hB)
  have RAn := hidden (RA.out.keep hB)
  have RBn := hidden (RB.out.keep hB)
  clear hB BM E24 RA RB ca0 ca1 cb0 cb1 ct0 ct1 ct2 ct3 cc0 cc1 cc2 cc3 ce0 ce1 ce2 ce3 ce4 ce5 ce6 ce7 ce8 ce9
  go_upto_region 15 with fail
  obtain ⟨fo, hfo⟩ : ∃ fo : Nat → E4, (fun j => lst ((fm j).n - (lst (v.n * (fy j).n)).n)) = fo := ⟨_, rfl⟩
  have FO : Hid (∀ j, fo j = lst ((fm j).n - (lst (v.n * (fy j).n)).n)) := hidden (fun j => by rw [← hfo])
  clear hfo
  obtain ⟨i0, hi, hz0, hz1, hz2'⟩ := info_parts scinfo
  have HI := hidden hi
  have HZ0 := hidden hz0
  have HZ1 := hidden hz1
  have HZ2 := hidden hz2'
  have HU : Hid (Tryz.prog.underlying 23 = some (.slice 26)) := hidden (by kernel_rfl)
  clear hi hz0 hz1 hz2'
  have lAM := rl_lt BN.out.am hn1
  have lAY := rl_lt BN.out.ay hn1
  have lT24 := World.block_lt_of_cell? _ _ (E24n.out 0 _ rfl)
  simp only at lT24
  go_wp2_with fail
  go_loopw [26, 27] (fun lv iv w' => ∃ i : Nat, i ≤ n ∧ iv = .int .i64 i ∧ Hid (w'.ownsRow wn.heap.size 26 4 lv i (svs i fo)) ∧ Hid (Below wn.heap.size wn w')) (fun _ i _ => n - (intOf i).toNat)
  case atStart => exact ⟨0, by omega, rfl, hidden (World.ownsRow_nil _ _ _ _), hidden (Below.refl _ _)⟩
  case round =>
   obtain ⟨i, hin', rfl, hO, hBw⟩ := hrel
   have BR := hidden (BN.out.keep hBw.out)
   by_cases hin : i < n
   ·have k0 : (0 : Int) ≤ (i : Int) := by omega
    have k1 : (i : Int) < (n : Int) := by omega
    have w9 : IntKind.i64.wrap ((i : Int) + 1) = (i : Int) + 1 := IntWalk.i64_in _ (by omega)
    have E24r := range_bl E24n.out hBw.out
    have cp0 := E24r 4 _ rfl; have cp1 := E24r 5 _ rfl; have cp2 := E24r 6 _ rfl; have cp3 := E24r 7 _ rfl
    simp only [Nat.zero_add] at cp0 cp1 cp2 cp3
    have ca0 := BR.out.am.c0 i hin; have ca1 := BR.out.am.c1 i hin; have ca2 := BR.out.am.c2 i hin; have ca3 := BR.out.am.c3 i hin; simp only [Nat.zero_add] at ca0 ca1 ca2 ca3
    have cy0 := BR.out.ay.c0 i hin; have cy1 := BR.out.ay.c1 i hin; have cy2 := BR.out.ay.c2 i hin; have cy3 := BR.out.ay.c3 i hin; simp only [Nat.zero_add] at cy0 cy1 cy2 cy3
    clear E24r
    go_upto_region 19 with fail
    obtain ⟨pb, hpb⟩ : ∃ pb : E4, lst (v.n * (fy i).n) = pb := ⟨_, rfl⟩
    have hd : lst ((fm i).n - pb.n) = fo i := by rw [FO.out, hpb]
    have opb : pb.ok := hpb ▸ lst_ok _
    have SV := hidden (svs_succ i fo)
    refine lw19 (B := wn.heap.size) (T24 := T24) (AM := AM) (AY := AY) (cM := n) (cY := n) (n := n) (i := i) (a := fm i) (p2 := v) (y := fy i) (b := pb) (d := fo i) (xs := svs i fo) (W := wr) i0 HU HI HZ0 HZ1 HZ2 hBw.out.size (by omega) k0 k1 lAM lT24 lAY ca0 ca1 ca2 ca3 cp0 cp1 cp2 cp3 cy0 cy1 cy2 cy3 (hidden fun x hx => fix (R := pb) (Mul_any v (fy i) x (BN.out.keep (below_trans hBw.out hx)).tb ov (oY i)) hpb) (hidden fun x hx => fix (R := fo i) (Sub_any (fm i) pb x (BN.out.keep (below_trans hBw.out hx)).tb (oM i) opb) hd) hO.out (hidden ?_)
    intro tb v1 wz hz hO1
    have O1 := hidden hO1
    have BZ := hidden (below_trans hBw.out hz)
    clear hz hO1 hO hBw BR ca0 ca1 ca2 ca3 cp0 cp1 cp2 cp3 cy0 cy1 cy2 cy3
    go_wp2_with fail
    go_roundw
    case rel => exact ⟨i + 1, by omega, by go_num, hidden (by rw [SV.out]; exact O1.out), BZ⟩
    case measure => simp [intOf]; omega
   ·obtain rfl : i = n := by omega
    have lq : ¬ (i : Int) < (i : Int) := by omega
    obtain ⟨AO, cO, rfl, _, hAO⟩ := own_rl0 hO.out hn1
    have RO := hidden hAO
    have E24p := hidden (range_bl E24n.out hBw.out)
    have RAp := hidden (RAn.out.keep hBw.out)
    have RBp := hidden (RBn.out.keep hBw.out)
    clear hAO hO hBw BN E24n RAn RBn lAM lAY lT24 HI HZ0 HZ1 HZ2 HU
    generalize i = n at *
    go_upto_region 20 with fail
    have ca0 := BR.out.c22 0 _ rfl
    have ca1 := BR.out.c22 1 _ rfl
    simp only [Nat.zero_add] at ca0 ca1
    have cb0 := BR.out.c23 0 _ rfl
    have cb1 := BR.out.c23 1 _ rfl
    simp only [Nat.zero_add] at cb0 cb1
    have ct0 := BR.out.c15 0 _ rfl
    have ct1 := BR.out.c15 1 _ rfl
    have ct2 := BR.out.c15 2 _ rfl
    have ct3 := BR.out.c15 3 _ rfl
    simp only [Nat.zero_add] at ct0 ct1 ct2 ct3
    have ce0 := E24p.out 0 _ rfl
    have ce1 := E24p.out 1 _ rfl
    have ce2 := E24p.out 2 _ rfl
    have ce3 := E24p.out 3 _ rfl
    have ce4 := E24p.out 4 _ rfl
    have ce5 := E24p.out 5 _ rfl
    have ce6 := E24p.out 6 _ rfl
    have ce7 := E24p.out 7 _ rfl
    have ce8 := E24p.out 8 _ rfl
    have ce9 := E24p.out 9 _ rfl
    simp only [Nat.zero_add] at ce0 ce1 ce2 ce3 ce4 ce5 ce6 ce7 ce8 ce9
    obtain ⟨u2, hu2⟩ : ∃ u2 : E4, lst (z.n - u.n) = u2 := ⟨_, rfl⟩
    obtain ⟨v2, hv2⟩ : ∃ v2 : E4, lst u.n = v2 := ⟨_, rfl⟩
    have ou2 : u2.ok := hu2 ▸ lst_ok _
    have ov2 : v2.ok := hv2 ▸ lst_ok _
    refine lw20 (T15 := w.heap.size + 1) (T22 := T22) (T23 := T23) (T24 := T24) (RR := RR) (J1 := J1) (J2 := J2) (cRR := cRR) (cJ1 := cJ1) (cJ2 := cJ2) (A3 := AY) (A4 := AO) (A6 := N6) (c3 := n) (c4 := cO) (c6 := n) (r := r) (n := n) (t := tt) (c := u) (u := u2) (v := v2) (gs := gs) (im1 := Fi n gs fx) (im2 := Fi n gs fy) (fa := Fa fo fy u2) (fb := (Fl (Fa fn fx u))) (W := wr) hr1 hn1 ca0 ca1 cb0 cb1 ct0 ct1 ct2 ct3 ce0 ce1 ce2 ce3 ce8 (hidden fun y hy => LN1.out wr y BR.out hy) (hidden fun y hy => LN2.out wr y BR.out hy) (hidden fun y b _ hb => givenG tt y b hb) (hidden fun y s R1 I1 cR1 cI1 R2 I2 cR2 cI2 g1 cn1 g2 cn2 hy hs k1 k2 kf => ?_) (hidden ?_)
    ·have by_ := BR.out.keep hy
     exact prove2 s r n AY AO N6 n cO n tt z u u2 v2 fy fo (Fa fn fx u) R1 I1 cR1 cI1 g1 cn1 gs (Fi n gs fx) R2 I2 cR2 cI2 g2 cn2 gs (Fi n gs fy) y by_.tb (Nat.lt_of_lt_of_le (tb_lt BR.out.tb) hs) hr1 r64 n20 hn1 k1 k2 kf ott hzt hz2 ou by_.ay (RO.out.keep hy) (RAp.out.keep hy) (fun j _ => oY j) (fun j _ => by rw [FO.out]; exact lst_ok _) (fun j _ => lst_ok _) (Nat.lt_of_lt_of_le (rl_lt BR.out.ay hn1) hs) (Nat.lt_of_lt_of_le (rl_lt RO.out hn1) hs) (Nat.lt_of_lt_of_le (rl_lt RAp.out hn1) hs) (fun i _ => holds_im n gs fy i) hu2 hv2
    intro R1 I1 cR1 cI1 g1 cn1 R2 I2 cR2 cI2 g2 cn2 tb s M6 M10 T28 wq hB hE hA hBb l24 l6 l10
    have BQ := hidden (BR.out.keep hB)
    have E24q := hidden (range_bl E24p.out hB)
    have E28 := hidden hE
    have RAq := hidden (RAp.out.keep hB)
    have RBq := hidden (RBp.out.keep hB)
    have SA := hidden hA
    have SB := hidden hBb
    clear hB hE hA hBb l24 l6 l10 BR E24p RAp RBp RO ca0 ca1 cb0 cb1 ct0 ct1 ct2 ct3 ce0 ce1 ce2 ce3 ce4 ce5 ce6 ce7 ce8 ce9
    have u2n : u2.n % Sm.L = (z.n - u.n) % Sm.L := by rw [← hu2, lst_n, emod_emod_L]
    have v2n : v2.n % Sm.L = u.n % Sm.L := by rw [← hv2, lst_n, emod_emod_L]
    have u2v : u2.n % Sm.L = v.n % Sm.L := by rw [u2n, vn, Int.sub_emod, un, ← Int.sub_emod]; congr 1; omega
    go_upto_region 21 with fail
    have ce0 := E24q.out 0 _ rfl
    have ce1 := E24q.out 1 _ rfl
    have ce2 := E24q.out 2 _ rfl
    have ce3 := E24q.out 3 _ rfl
    have ce4 := E24q.out 4 _ rfl
    have ce5 := E24q.out 5 _ rfl
    have ce6 := E24q.out 6 _ rfl
    have ce7 := E24q.out 7 _ rfl
    have ce8 := E24q.out 8 _ rfl
    have ce9 := E24q.out 9 _ rfl
    simp only [Nat.zero_add] at ce0 ce1 ce2 ce3 ce4 ce5 ce6 ce7 ce8 ce9
    have cf0 := E28.out 0 _ rfl
    have cf1 := E28.out 1 _ rfl
    have cf2 := E28.out 2 _ rfl
    have cf3 := E28.out 3 _ rfl
    have cf4 := E28.out 4 _ rfl
    have cf5 := E28.out 5 _ rfl
    have cf6 := E28.out 6 _ rfl
    have cf7 := E28.out 7 _ rfl
    have cf8 := E28.out 8 _ rfl
    have cf9 := E28.out 9 _ rfl
    simp only [Nat.zero_add] at cf0 cf1 cf2 cf3 cf4 cf5 cf6 cf7 cf8 cf9
    go_upto_region 23 with (first | (go_at_call_of 14 (Value.int .u64 v2.x0); refine (SAMEC.out v2 u _ BQ.out.tb ov2 ou v2n).mono ?_; rintro e wx ⟨rfl, hb⟩; have BX := hidden (BQ.out.keep hb); have E24x := hidden (range_bl E24q.out hb); have E28x := hidden (range_bl E28.out hb); have RAx := hidden (RAq.out.keep hb); have RBx := hidden (RBq.out.keep hb); have SAx := hidden (SA.out.keep hb); have SBx := hidden (SB.out.keep hb); clear hb BQ E24q E28 RAq RBq SA SB ce0 cf0 ce1 cf1 ce2 cf2 ce3 cf3 ce4 cf4 ce5 cf5 ce6 cf6 ce7 cf7 ce8 cf8 ce9 cf9; have ce0 := E24x.out 0 _ rfl; have cf0 := E28x.out 0 _ rfl; have ce1 := E24x.out 1 _ rfl; have cf1 := E28x.out 1 _ rfl; have ce2 := E24x.out 2 _ rfl; have cf2 := E28x.out 2 _ rfl; have ce3 := E24x.out 3 _ rfl; have cf3 := E28x.out 3 _ rfl; have ce4 := E24x.out 4 _ rfl; have cf4 := E28x.out 4 _ rfl; have ce5 := E24x.out 5 _ rfl; have cf5 := E28x.out 5 _ rfl; have ce6 := E24x.out 6 _ rfl; have cf6 := E28x.out 6 _ rfl; have ce7 := E24x.out 7 _ rfl; have cf7 := E28x.out 7 _ rfl; have ce8 := E24x.out 8 _ rfl; have cf8 := E28x.out 8 _ rfl; have ce9 := E24x.out 9 _ rfl; have cf9 := E28x.out 9 _ rfl; simp only [Nat.zero_add] at ce0 cf0 ce1 cf1 ce2 cf2 ce3 cf3 ce4 cf4 ce5 cf5 ce6 cf6 ce7 cf7 ce8 cf8 ce9 cf9) | (go_at_call_of 14 (Value.int .u64 u2.x0); refine (SAMEC.out u2 v _ BX.out.tb ou2 ov u2v).mono ?_; rintro e wy ⟨rfl, hb⟩; have BY := hidden (BX.out.keep hb); have E24y := hidden (range_bl E24x.out hb); have E28y := hidden (range_bl E28x.out hb); have RAy := hidden (RAx.out.keep hb); have RBy := hidden (RBx.out.keep hb); have SAy := hidden (SAx.out.keep hb); have SBy := hidden (SBx.out.keep hb); clear hb BX E24x E28x RAx RBx SAx SBx ce0 cf0 ce1 cf1 ce2 cf2 ce3 cf3 ce4 cf4 ce5 cf5 ce6 cf6 ce7 cf7 ce8 cf8 ce9 cf9; have ce0 := E24y.out 0 _ rfl; have cf0 := E28y.out 0 _ rfl; have ce1 := E24y.out 1 _ rfl; have cf1 := E28y.out 1 _ rfl; have ce2 := E24y.out 2 _ rfl; have cf2 := E28y.out 2 _ rfl; have ce3 := E24y.out 3 _ rfl; have cf3 := E28y.out 3 _ rfl; have ce4 := E24y.out 4 _ rfl; have cf4 := E28y.out 4 _ rfl; have ce5 := E24y.out 5 _ rfl; have cf5 := E28y.out 5 _ rfl; have ce6 := E24y.out 6 _ rfl; have cf6 := E28y.out 6 _ rfl; have ce7 := E24y.out 7 _ rfl; have cf7 := E28y.out 7 _ rfl; have ce8 := E24y.out 8 _ rfl; have cf8 := E28y.out 8 _ rfl; have ce9 := E24y.out 9 _ rfl; have cf9 := E28y.out 9 _ rfl; simp only [Nat.zero_add] at ce0 cf0 ce1 cf1 ce2 cf2 ce3 cf3 ce4 cf4 ce5 cf5 ce6 cf6 ce7 cf7 ce8 cf8 ce9 cf9))
    clear ce0 cf0 ce1 cf1 ce2 cf2 ce3 cf3 ce4 cf4 ce5 cf5 ce6 cf6 ce7 cf7 ce8 cf8 ce9 cf9
    go_wp2_with fail
    go_loopw [30] (fun iv w' => ∃ i : Nat, i ≤ n ∧ iv = .int .i64 i ∧ Hid (Below wy.heap.size wy w')) (fun i _ => n - (intOf i).toNat)
    case atStart => exact ⟨0, by omega, rfl, hidden (Below.refl _ _)⟩
    case round =>
     obtain ⟨i, hi', rfl, hB⟩ := hrel
     have F24 := range_bl E24y.out hB.out
     have F28 := range_bl E28y.out hB.out
     have k1_ := F28 8 _ rfl
     have k2_ := F24 8 _ rfl
     have k3_ := F28 9 _ rfl
     have k4_ := F24 9 _ rfl
     simp only [Nat.zero_add] at k1_ k2_ k3_ k4_
     clear F24 F28
     by_cases hin : i < n
     ·have k0 : (0 : Int) ≤ (i : Int) := by omega
      have k1 : (i : Int) < (n : Int) := by omega
      have w9 : IntKind.i64.wrap ((i : Int) + 1) = (i : Int) + 1 := IntWalk.i64_in _ (by omega)
      have BZ := BY.out.keep hB.out
      have RQ1 := SBy.out.keep hB.out
      have RQ2 := SAy.out.keep hB.out
      have RP1 := RAy.out.keep hB.out
      have RP2 := RBy.out.keep hB.out
      have ca0 := RQ1.c0 i hin; have ca1 := RQ1.c1 i hin; have ca2 := RQ1.c2 i hin; have ca3 := RQ1.c3 i hin; simp only [Nat.zero_add] at ca0 ca1 ca2 ca3
      have cb0 := RP1.c0 i hin; have cb1 := RP1.c1 i hin; have cb2 := RP1.c2 i hin; have cb3 := RP1.c3 i hin; simp only [Nat.zero_add] at cb0 cb1 cb2 cb3
      have cc0 := RQ2.c0 i hin; have cc1 := RQ2.c1 i hin; have cc2 := RQ2.c2 i hin; have cc3 := RQ2.c3 i hin; simp only [Nat.zero_add] at cc0 cc1 cc2 cc3
      have cd0 := RP2.c0 i hin; have cd1 := RP2.c1 i hin; have cd2 := RP2.c2 i hin; have cd3 := RP2.c3 i hin; simp only [Nat.zero_add] at cd0 cd1 cd2 cd3
      clear RQ1 RQ2 RP1 RP2
      have e1 : (Fl (Fa fn fx u) i).n % Sm.L = (Fa fn fx u i).n % Sm.L := by unfold Fl; rw [lst_n, emod_emod_L]
      have e2 : (Fa fo fy u2 i).n % Sm.L = (Fl fm i).n % Sm.L := by
       show (lst ((fo i).n + (lst (u2.n * (fy i).n)).n)).n % Sm.L = (lst (fm i).n).n % Sm.L
       simp only [lst_n, FO.out, emod_emod_L]
       exact ans_same _ _ _ _ u2v
      have oA : (Fl (Fa fn fx u) i).ok := lst_ok _
      have oB : (Fa fn fx u i).ok := lst_ok _
      have oC : (Fa fo fy u2 i).ok := lst_ok _
      have oD : (Fl fm i).ok := lst_ok _
      generalize Fl (Fa fn fx u) i = qa at *
      generalize Fa fn fx u i = qb at *
      generalize Fa fo fy u2 i = qc at *
      generalize Fl fm i = qd at *
      have HS := hidden (And.intro BZ (And.intro e1 (And.intro e2 (And.intro oA (And.intro oB (And.intro oC oD))))))
      clear BZ e1 e2 oA oB oC oD
      go_upto_region 26 with fail
      refine lw26 (T24 := T24) (T28 := T28) (q1 := M10) (q2 := M6) (p1 := N6) (p2 := N10) (n := n) (i := i) (a := qa) (b := qb) (c := qc) (d := qd) (W := wr) k0 k1 k1_ k2_ k3_ k4_ ca0 ca1 ca2 ca3 cb0 cb1 cb2 cb3 cc0 cc1 cc2 cc3 cd0 cd1 cd2 cd3 (hidden fun y hy => SAMEC.out qa qb y (HS.out.1.keep hy).tb HS.out.2.2.2.1 HS.out.2.2.2.2.1 HS.out.2.1) (hidden fun y hy => SAMEC.out qc qd y (HS.out.1.keep hy).tb HS.out.2.2.2.2.2.1 HS.out.2.2.2.2.2.2 HS.out.2.2.1) (hidden ?_)
      intro wz hz
      have BW := hidden (bl_trans hB.out hz)
      clear hz hB HS k1_ k2_ k3_ k4_ ca0 ca1 ca2 ca3 cb0 cb1 cb2 cb3 cc0 cc1 cc2 cc3 cd0 cd1 cd2 cd3
      go_wp2_with fail
      go_roundw
      case rel => exact ⟨i + 1, by omega, by go_num, BW⟩
      case measure => simp [intOf]; omega
     ·obtain rfl : i = n := by omega
      have lq : ¬ (i : Int) < (i : Int) := by omega
      go_wp2_with fail
      refine bodyPost_ret (v := .bool true) (by simp [results, Tryz.results3, go_sem]) rfl ⟨rfl, bl_trans BY.out.bel hB.out⟩
end Sg
end Go.Proofs.YtbbnjmjeeiglcaaGreatDoor
