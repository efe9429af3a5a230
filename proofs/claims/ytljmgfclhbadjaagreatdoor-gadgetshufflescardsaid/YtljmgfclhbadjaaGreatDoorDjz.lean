import Derived.Test.YtljmgfclhbadjaaGreatDoorTk
import Derived.Test.YtljmgfclhbadjaaGreatDoorDlw
namespace Go.Proofs.YtljmgfclhbadjaaGreatDoor
open Go.RowKit
set_option linter.unusedVariables false
set_option linter.unusedSimpArgs false
open Cm (Wr Tm co bf Ls lf ins Eqm)
namespace Ci
set_option maxRecDepth 100000
set_option maxHeartbeats 16000000
section
variable {S : Nat → Prop} {d m K q b : Nat} {Q : List (List Tm)} {vv : Value} {vs : List Value} {R : Nat → Sl} {x wz : World} {G : Nat → List E4} {p : Pz}
theorem Hd9.st4 {w : World} {q2 b2 : Nat} (h : Hd9 w d q2 b) : Hd9 (w.setCells d 1 [fn1 b2, fn2 b2, fn3 b2, fn4 b2]) d q2 b2 := by
 have h1 := heap_setCell_same w d 1 _ 111 (fn1 b2) h
 have h2 := heap_setCell_same _ d 2 _ 111 (fn2 b2) h1
 have h3 := heap_setCell_same _ d 3 _ 111 (fn3 b2) h2
 exact heap_setCell_same _ d 4 _ 111 (fn4 b2) h3
theorem Dz.whole {q2 b' : Nat} {v' : Value} {R' : Nat → Sl} (h : Dz S d m K Q q b vv vs R 0 x) (ha : Ag G R) (hvs : ∀ u ∈ vs, ∀ k, u.ownBlock = some k → S k) (hw : WhP x wz m K Q vs R d q2 v' b' R') : ∃ S', Dz S' d m K Q q2 b' v' vs R' 0 wz ∧ Ag G R' ∧ (∀ u ∈ vs, ∀ k, u.ownBlock = some k → S' k) ∧ Gs S x wz ∧ Sk S S' x := by
 obtain ⟨w2, ⟨w1, hb, sy, lq, lb, bx, rc, e2⟩, e3⟩ := hw
 have hd1 : Hd9 w1 d q b := Hd9.keepA h.hd hb
 have hd2 : Hd9 w2 d q2 b := by rw [e2]; exact hd1.st
 have hd3 : Hd9 wz d q2 b' := by rw [e3]; exact hd2.st4
 have g1 : w1.grownBy w2 (some d) := by rw [e2]; exact gb_setCells d _ 0 w1
 have g2 : w2.grownBy wz (some d) := by rw [e3]; exact gb_setCells d _ 1 w2
 have s3 := (sy.zero.okd g1 hd1 (by decide) (by decide) (by decide)).okd g2 hd2 (by decide) (by decide) (by decide)
 have r3 := (rc.set g1 hd1 (by decide)).set g2 hd2 (by decide)
 have nb : b' ≠ d := fun e => by
  rw [e, hd1] at bx
  simp only [Option.some.injEq, Obj.cells.injEq] at bx
  exact absurd bx.2.1 (by decide)
 have bl := (Array.getElem?_eq_some_iff.1 bx).1
 have bx3 : wz.heap[b']? = some (.cells (bxR R') 43 (0, 0)) := (g2.block b' (Nat.lt_of_lt_of_le bl g1.size) (fun e => nb (Option.some.inj e))).trans ((g1.block b' bl (fun e => nb (Option.some.inj e))).trans bx)
 have gs : Gs S x wz := ((Gs.bl hb).trans (Gs.gb g1 (fun i e => by rw [← Option.some.inj e]; exact h.pd)) Sk.refl).trans (Gs.gb g2 (fun i e => by rw [← Option.some.inj e]; exact h.pd)) Sk.refl
 have sk : Sk S (fun k => S k ∨ (x.heap.size ≤ k ∧ k < wz.heap.size)) x := fun i hi => hi.imp id (fun h => h.1)
 have lt : ∀ k, (S k ∨ (x.heap.size ≤ k ∧ k < wz.heap.size)) → k < wz.heap.size := fun k hk => by
  rcases hk with e | e
  ·exact Nat.lt_of_lt_of_le (h.ob.lt k e) gs.size
  ·exact e.2
 have sz : w1.heap.size ≤ wz.heap.size := Nat.le_trans g1.size g2.size
 refine ⟨fun k => S k ∨ (x.heap.size ≤ k ∧ k < wz.heap.size), ⟨hd3, s3, h.wk, ⟨bx3, fun j hj => ⟨own_lower (r3.own j hj) (Nat.zero_le _), fun k hk => ?_, ?_⟩, r3.dj, fun j hj k hk => .inr (r3.own j hj |>.lt k hk), .inr ⟨lb, by omega⟩, lt⟩, h.tq.step gs sk, .inl h.pd, .inr ⟨lq, (Array.getElem?_eq_some_iff.1 s3.h).1⟩, fun k hk => .inr ?_⟩, fun j hj => ?_, fun u hu k hk => .inl (hvs u hu k hk), gs, sk⟩
 ·rw [rc.g j hj]
  exact (h.ob.rw j hj).ok k (by rw [← rc.n j hj]; exact hk)
 ·rw [rc.n j hj]
  exact (h.ob.rw j hj).n
 ·have := sy.row.lt k hk
  exact ⟨this.1, by omega⟩
 ·rw [rc.n j hj, rc.g j hj]
  exact ha j hj
end
theorem i6_dk : (Tryz.prog.info? 111).map (·.size) = some 6 := by kernel_rfl
theorem hd6_set {w : World} {d q b : Nat} (h : w.heap[d]? = some (.cells #[.pointer none, .nilFunc, .nilFunc, .nilFunc, .nilFunc, .int .i64 0] 111 (0, 0))) : Hd9 (w.setCells d 0 [.pointer (some ⟨q, 0, none⟩), fn1 b, fn2 b, fn3 b, fn4 b, .int .i64 0]) d q b := by
 have h0 := heap_setCell_same w d 0 _ 111 (.pointer (some ⟨q, 0, none⟩)) h
 have h1 := heap_setCell_same _ d 1 _ 111 (fn1 b) h0
 have h2 := heap_setCell_same _ d 2 _ 111 (fn2 b) h1
 have h3 := heap_setCell_same _ d 3 _ 111 (fn3 b) h2
 have h4 := heap_setCell_same _ d 4 _ 111 (fn4 b) h3
 exact heap_setCell_same _ d 5 _ 111 (.int .i64 0) h4
theorem cloneP {m K q : Nat} {Q : List (List Tm)} {vv : Value} {vs : List Value} {y : World} (h : Sy 0 y q m K vv vs Q) (hq : Q.length ≤ 4096) : Calls Tryz.prog 42 #[.pointer (some ⟨q, 0, none⟩)] y fun e w' => ClP m K Q vs y e w' :=
 (SysClone_newA h hq).mono (fun e w' k => by
  obtain ⟨k1, ⟨v', k2⟩, k3⟩ := k
  exact ⟨_, v', k1, k2, Nat.le_refl _, k3⟩)
def WoP (S : Nat → Prop) (d m : Nat) (p : Pz) (X : List Tm) (x : World) (e : Ending) (w' : World) : Prop := ∃ S' q' b' lb v, e = .returned (.tuple #[.slice (some ⟨lb, 0, none⟩) 1 1, .int .i64 0]) ∧ Ds S' d m p q' b' w' ∧ Gs S x w' ∧ Sk S S' x ∧ Zm S' w' lb 1 (fun _ => v) (fun _ => X)
def WnP (S : Nat → Prop) (d m : Nat) (p : Pz) (x : World) (e : Ending) (w' : World) : Prop := ∃ S' q' b' v, e = .returned (.tuple #[v, .int .i64 0]) ∧ Ds S' d m p q' b' w' ∧ Gs S x w' ∧ Sk S S' x
theorem wholeP_any {S : Nat → Prop} {d m q b lb : Nat} {p : Pz} {x : World} {V : Nat → Value} {X : Nat → List Tm} (h : Ds S d m p q b x) (hL : Zm S x lb 2 V X) (hf : ∀ j, j < 2 → ∀ z ∈ X j, hs m p.K z.1 = true) (hq : p.Q.length ≤ 4094) (hK : p.K < 1024) :
  Calls Tryz.prog 144 #[.pointer (some ⟨d, 0, none⟩), .func (.func 82) #[.pointer (some ⟨d, 0, none⟩)] #[], .slice (some ⟨lb, 0, none⟩) 2 2] x fun e w' => WoP S d m (pMul m p (X 0) (X 1)) [((4, (p.K : Int)), 1)] x e w' := by
 obtain ⟨⟨vv, vs, R, hz, ha, hvs⟩, hln, hl3, hm⟩ := h
 have HZ := Hn hz
 have HA := Hn (And.intro ha (And.intro hvs (And.intro hln (And.intro hl3 hm))))
 have HL := Hn hL
 have HF := Hn hf
 have C0 := Hn (dnone_any hz)
 have C1 := Hn (dcontainsZ hz lb 2 2 V X (by omega) (fun j hj => ⟨(hL.el j hj).1, (hL.el j hj).2.1⟩) hf)
 clear hz ha hvs hln hl3 hm hL hf
 go_enter Tryz.func144, Tryz.ntmps144
 go_upto_region 5 with (first | (go_at_call 41; refine C0.out.mono ?_; rintro e w0 ⟨rfl, hw1⟩; have hw2 := hw1.symm; clear hw1; subst hw2; clear C0) | (go_at_call 209; refine C1.out.mono ?_; rintro e w1 ⟨rfl, hb⟩; have B1 := Hn hb; clear hb C1))
 have D1 := Hn (HZ.out.keep B1.out)
 have c0 := D1.out.c 0
 have c1 := D1.out.c 1
 have c2 := D1.out.c 2
 have c3 := D1.out.c 3
 have c4 := D1.out.c 4
 have c5 := D1.out.c 5
 have TN : Hid ((w1.alloc (.cells #[.pointer none, .nilFunc, .nilFunc, .nilFunc, .nilFunc, .int .i64 0] 111)).there w1.heap.size 0 6) := Hn (there_newM w1 [.pointer none, .nilFunc, .nilFunc, .nilFunc, .nilFunc, .int .i64 0] 111)
 go_upto_region 6 with (refine wpList_stA rfl 111 _ _ rfl w1.heap.size 0 [.pointer (some ⟨q, 0, none⟩), fn1 b, fn2 b, fn3 b, fn4 b, .int .i64 0] rfl rfl TN.out i6_dk (by simp [Value.oneCell', fn1, fn2, fn3, fn4]) rfl ?_; intro x1 hx1)
 clear c0 c1 c2 c3 c4 c5 TN
 have HX : Hid (Hd9 x1 w1.heap.size q b) := Hn (by rw [hx1]; exact hd6_set (heap_alloc_new w1 _))
 have B2 : Hid (Below x.heap.size x x1) := Hn (by rw [hx1]; exact below_tr (bl_trans B1.out (bl_alloc w1 _)) (below_grown (gb_setCells w1.heap.size _ 0 _) (Nat.le_trans B1.out.size (by simp)) (fun k hk => by rw [← Option.some.inj hk]; exact B1.out.size)))
 have DN : Hid (d ≠ w1.heap.size) := Hn (by have := D1.out.ob.lt d D1.out.pd; omega)
 obtain ⟨xs, hxs⟩ : ∃ xs, w1.heap.size = xs := ⟨_, rfl⟩
 rw [hxs] at HX DN
 simp only [hxs, fn1, fn2, fn3, fn4]
 clear hx1 hxs B1 D1
 have D2 := Hn (HZ.out.keep B2.out)
 have x0 := cell_of_row x1 xs 0 _ _ (0, 0) HX.out
 have x4 := cell_of_row x1 xs 4 _ _ (0, 0) HX.out
 refine wh6 _ d q b xs m p.K p.Q vs R _ _ _ _ _ _ _ _ _ _ _ _ _ _ _ _ _ _ _ _ _ _ _ _ _ _ _ _ _ _ _ _ _ _ _ _ _ _ _ _ _ _ _ _ _ _ _ x1 x0 x4 DN D2.out.hd (Hn (fun y hb => cloneP (D2.out.keep hb).sy D2.out.wk.q)) (Hn (fun y hb => known4_any y (D2.out.keep hb).ob)) (Hn ?_)
 intro wz q2 v' b' R' hw
 obtain ⟨S1, z1, a1, u1, g1, k1⟩ := D2.out.whole HA.out.1 HA.out.2.1 hw
 have D3 : Hid (Ds S1 d m p q2 b' wz) := Hn ⟨⟨v', vs, R', z1, a1, u1⟩, HA.out.2.2.1, HA.out.2.2.2.1, HA.out.2.2.2.2⟩
 have G3 : Hid (Gs S x wz) := Hn ((Gs.bl B2.out).trans g1 Sk.refl)
 have K3 : Hid (Sk S S1 x) := Hn (Sk.trans Sk.refl k1 B2.out.size)
 have L3 := Hn (HL.out.step G3.out K3.out)
 have CP := Hn (dproduct_any D3.out L3.out HF.out hq hK)
 clear x0 x4 hw z1 a1 u1 g1 k1
 go_upto_region 8 with (go_at_call 82; refine CP.out.mono ?_; rintro e w4 ⟨S4, lb4, v4, rfl, d4, g4, k4, z4⟩; have D4 := Hn d4; have G4 := Hn (And.intro g4 (And.intro k4 z4)); clear d4 g4 k4 z4; clear CP)
 have c5 := D4.out.h.c 5
 go_wp2_with fail
 exact bodyPost_ret (v := .tuple #[.slice (some ⟨lb4, 0, none⟩) 1 1, .int .i64 0]) (by simp [results, Tryz.results144, go_sem]) rfl ⟨S4, q2, b', lb4, v4, rfl, D4.out, G3.out.trans G4.out.1 K3.out, K3.out.trans G4.out.2.1 G3.out.size, G4.out.2.2⟩
theorem wholeL_any {S : Nat → Prop} {d m q b lb : Nat} {p : Pz} {x : World} {V : Nat → Value} {X : Nat → List Tm} (h : Ds S d m p q b x) (hL : Zm S x lb 2 V X) (hf : ∀ j, j < 2 → ∀ z ∈ X j, hs m p.K z.1 = true) (bx bd bn n : Nat) (cx : x.cell? ⟨bx, 0, none⟩ = some (.func (.func 212) #[] #[.pointer (some ⟨bd, 0, none⟩), .pointer (some ⟨bn, 0, none⟩)])) (cd : x.cell? ⟨bd, 0, none⟩ = some (.pointer (some ⟨d, 0, none⟩))) (cn : x.cell? ⟨bn, 0, none⟩ = some (.int .i64 (n : Int))) (nx : ¬ S bx) (nd : ¬ S bd) (nn : ¬ S bn) (hn : 1 ≤ n) (hn2 : n ≤ 251) (hq : p.Q.length + 3 * (2 * n + 1) ≤ 4096) (hK : p.K + 3 * n ≤ 1024) (hx9 : ∀ j, j < 2 → (X j).length ≤ 40000) (hnz : ∀ i, i < n → ∀ K : Nat, (tmX (wtS i) [((2, (K : Int)), 1)]).length = 1) :
  Calls Tryz.prog 144 #[.pointer (some ⟨d, 0, none⟩), .func (.func 147) #[] #[.pointer (some ⟨bx, 0, none⟩)], .slice (some ⟨lb, 0, none⟩) 2 2] x fun e w' => WnP S d m (pLess m p (X 0) (X 1) n) x e w' := by
 obtain ⟨⟨vv, vs, R, hz, ha, hvs⟩, hln, hl3, hm⟩ := h
 have HZ := Hn hz
 have HA := Hn (And.intro ha (And.intro hvs (And.intro hln (And.intro hl3 hm))))
 have HL := Hn hL
 have HF := Hn hf
 have CX := Hn (And.intro cx (And.intro cd cn))
 have NX := Hn (And.intro nx (And.intro nd nn))
 have LX := Hn (And.intro (World.block_lt_of_cell? x _ cx) (And.intro (World.block_lt_of_cell? x _ cd) (World.block_lt_of_cell? x _ cn)))
 have HN := Hn (And.intro hn (And.intro hn2 (And.intro hq hK)))
 have HX9 := Hn (And.intro hx9 hnz)
 clear cx cd cn nx nd nn hn hn2 hq hK hx9 hnz
 have C0 := Hn (dnone_any hz)
 have C1 := Hn (dcontainsZ hz lb 2 2 V X (by omega) (fun j hj => ⟨(hL.el j hj).1, (hL.el j hj).2.1⟩) hf)
 clear hz ha hvs hln hl3 hm hL hf
 go_enter Tryz.func144, Tryz.ntmps144
 go_upto_region 5 with (first | (go_at_call 41; refine C0.out.mono ?_; rintro e w0 ⟨rfl, hw1⟩; have hw2 := hw1.symm; clear hw1; subst hw2; clear C0) | (go_at_call 209; refine C1.out.mono ?_; rintro e w1 ⟨rfl, hb⟩; have B1 := Hn hb; clear hb C1))
 have D1 := Hn (HZ.out.keep B1.out)
 have c0 := D1.out.c 0
 have c1 := D1.out.c 1
 have c2 := D1.out.c 2
 have c3 := D1.out.c 3
 have c4 := D1.out.c 4
 have c5 := D1.out.c 5
 have TN : Hid ((w1.alloc (.cells #[.pointer none, .nilFunc, .nilFunc, .nilFunc, .nilFunc, .int .i64 0] 111)).there w1.heap.size 0 6) := Hn (there_newM w1 [.pointer none, .nilFunc, .nilFunc, .nilFunc, .nilFunc, .int .i64 0] 111)
 go_upto_region 6 with (refine wpList_stA rfl 111 _ _ rfl w1.heap.size 0 [.pointer (some ⟨q, 0, none⟩), fn1 b, fn2 b, fn3 b, fn4 b, .int .i64 0] rfl rfl TN.out i6_dk (by simp [Value.oneCell', fn1, fn2, fn3, fn4]) rfl ?_; intro x1 hx1)
 clear c0 c1 c2 c3 c4 c5 TN
 have HX : Hid (Hd9 x1 w1.heap.size q b) := Hn (by rw [hx1]; exact hd6_set (heap_alloc_new w1 _))
 have B2 : Hid (Below x.heap.size x x1) := Hn (by rw [hx1]; exact below_tr (bl_trans B1.out (bl_alloc w1 _)) (below_grown (gb_setCells w1.heap.size _ 0 _) (Nat.le_trans B1.out.size (by simp)) (fun k hk => by rw [← Option.some.inj hk]; exact B1.out.size)))
 have DN : Hid (d ≠ w1.heap.size) := Hn (by have := D1.out.ob.lt d D1.out.pd; omega)
 obtain ⟨xs, hxs⟩ : ∃ xs, w1.heap.size = xs := ⟨_, rfl⟩
 rw [hxs] at HX DN
 simp only [hxs, fn1, fn2, fn3, fn4]
 clear hx1 hxs B1 D1
 have D2 := Hn (HZ.out.keep B2.out)
 have x0 := cell_of_row x1 xs 0 _ _ (0, 0) HX.out
 have x4 := cell_of_row x1 xs 4 _ _ (0, 0) HX.out
 refine wh6 _ d q b xs m p.K p.Q vs R _ _ _ _ _ _ _ _ _ _ _ _ _ _ _ _ _ _ _ _ _ _ _ _ _ _ _ _ _ _ _ _ _ _ _ _ _ _ _ _ _ _ _ _ _ _ _ x1 x0 x4 DN D2.out.hd (Hn (fun y hb => cloneP (D2.out.keep hb).sy D2.out.wk.q)) (Hn (fun y hb => known4_any y (D2.out.keep hb).ob)) (Hn ?_)
 intro wz q2 v' b' R' hw
 obtain ⟨S1, z1, a1, u1, g1, k1⟩ := D2.out.whole HA.out.1 HA.out.2.1 hw
 have D3 : Hid (Ds S1 d m p q2 b' wz) := Hn ⟨⟨v', vs, R', z1, a1, u1⟩, HA.out.2.2.1, HA.out.2.2.2.1, HA.out.2.2.2.2⟩
 have G3 : Hid (Gs S x wz) := Hn ((Gs.bl B2.out).trans g1 Sk.refl)
 have K3 : Hid (Sk S S1 x) := Hn (Sk.trans Sk.refl k1 B2.out.size)
 have L3 := Hn (HL.out.step G3.out K3.out)
 have CP := Hn (less1_any D3.out bx bd bn lb n (G3.out.cell CX.out.1 NX.out.1) (G3.out.cell CX.out.2.1 NX.out.2.1) (G3.out.cell CX.out.2.2 NX.out.2.2) (out_sk NX.out.1 K3.out LX.out.1) (out_sk NX.out.2.1 K3.out LX.out.2.1) (out_sk NX.out.2.2 K3.out LX.out.2.2) V X L3.out HN.out.1 HN.out.2.1 HN.out.2.2.1 HN.out.2.2.2 HF.out HX9.out.1 HX9.out.2)
 clear x0 x4 hw z1 a1 u1 g1 k1
 go_upto_region 8 with (go_at_call 147; refine CP.out.mono ?_; rintro e w4 ⟨S4, v4, xs4, rfl, d4, g4, k4, -⟩; have D4 := Hn d4; have G4 := Hn (And.intro g4 k4); clear d4 g4 k4; clear CP)
 have c5 := D4.out.h.c 5
 go_wp2_with fail
 exact bodyPost_ret (v := .tuple #[v4, .int .i64 0]) (by simp [results, Tryz.results144, go_sem]) rfl ⟨S4, q2, b', v4, rfl, D4.out, G3.out.trans G4.out.1 K3.out, K3.out.trans G4.out.2 G3.out.size⟩
end Ci
end Go.Proofs.YtljmgfclhbadjaaGreatDoor
namespace Go.Proofs.YtljmgfclhbadjaaGreatDoor
open Go.RowKit
set_option linter.unusedVariables false
set_option linter.unusedSimpArgs false
open Cm (Wr Tm co bf Ls lf ins Eqm)
namespace Ci
set_option maxRecDepth 100000
set_option maxHeartbeats 16000000
def OoP (S : Nat → Prop) (d m : Nat) (p : Pz) (X : List Tm) (x : World) (e : Ending) (w' : World) : Prop := ∃ S' q' b' v, e = .returned (.tuple #[v, .int .i64 0]) ∧ Ds S' d m p q' b' w' ∧ Gs S x w' ∧ Sk S S' x ∧ Zo S' w' v X
def OnP (S : Nat → Prop) (d m : Nat) (p : Pz) (x : World) (e : Ending) (w' : World) : Prop := ∃ S' q' b', e = .returned (.int .i64 0) ∧ Ds S' d m p q' b' w' ∧ Gs S x w' ∧ Sk S S' x
section
variable {S : Nat → Prop} {d m q b lb : Nat} {p : Pz} {x : World} {V : Nat → Value} {X : Nat → List Tm}
theorem oneP_any (h : Ds S d m p q b x) (hL : Zm S x lb 2 V X) (hf : ∀ j, j < 2 → ∀ z ∈ X j, hs m p.K z.1 = true) (hq : p.Q.length ≤ 4094) (hK : p.K < 1024) :
  Calls Tryz.prog 81 #[.pointer (some ⟨d, 0, none⟩), .func (.func 82) #[.pointer (some ⟨d, 0, none⟩)] #[], .slice (some ⟨lb, 0, none⟩) 2 2] x fun e w' => OoP S d m (pMul m p (X 0) (X 1)) [((4, (p.K : Int)), 1)] x e w' := by
 have C0 := Hn (wholeP_any h hL hf hq hK)
 clear h hL hf
 go_enter Tryz.func81, Tryz.ntmps81
 go_upto_region 4 with (go_at_call 144; refine C0.out.mono ?_; rintro e w1 ⟨S1, q1, b1, lb1, v1, rfl, d1, g1, k1, z1⟩; have x0 := (z1.el 0 (by omega)).1; have FE : Hid (OoP S d m (pMul m p (X 0) (X 1)) [((4, (p.K : Int)), 1)] x (.returned (.tuple #[v1, .int .i64 0])) w1) := Hn ⟨S1, q1, b1, v1, rfl, d1, g1, k1, (z1.el 0 (by omega)).2⟩; clear d1 g1 k1 z1 C0)
 go_wp2_with fail
 exact bodyPost_ret (v := .tuple #[v1, .int .i64 0]) (by simp [results, Tryz.results81, go_sem]) rfl FE.out
theorem Multiply_desk {u v : Value} {X Y : List Tm} (h : Ds S d m p q b x) (hu : Zo S x u X) (hv : Zo S x v Y) (hX : ∀ z ∈ X, hs m p.K z.1 = true) (hY : ∀ z ∈ Y, hs m p.K z.1 = true) (hq : p.Q.length ≤ 4094) (hK : p.K < 1024) :
  Calls Tryz.prog 32 #[.pointer (some ⟨d, 0, none⟩), u, v] x fun e w' => OoP S d m (pMul m p X Y) [((4, (p.K : Int)), 1)] x e w' := by
 obtain ⟨P0, c0, rfl, -⟩ := hu.1.sh
 obtain ⟨P1, c1, rfl, -⟩ := hv.1.sh
 have BL := bl_alloc x (.cells #[.slice P0 X.length c0, .slice P1 Y.length c1] 50)
 have C0 := Hn (oneP_any (h.keep BL) (Zm.two h hu hv) (fun j hj => by
  have hj2 : j = 0 ∨ j = 1 := by omega
  rcases hj2 with rfl | rfl
  ·exact hX
  ·exact hY) hq hK)
 have B0 := Hn BL
 clear h hu hv hX hY BL
 go_enter Tryz.func32, Tryz.ntmps32
 go_wp2_with (go_at_call 81; refine C0.out.mono ?_; rintro e w1 ⟨S1, q1, b1, v1, rfl, d1, g1, k1, z1⟩; have FE : Hid (OoP S d m (pMul m p X Y) [((4, (p.K : Int)), 1)] x (.returned (.tuple #[v1, .int .i64 0])) w1) := Hn ⟨S1, q1, b1, v1, rfl, d1, (Gs.bl B0.out).trans g1 Sk.refl, Sk.trans Sk.refl k1 B0.out.size, z1⟩; clear d1 g1 k1 z1 C0)
 exact bodyPost_ret (v := .tuple #[v1, .int .i64 0]) (by simp [results, Tryz.results32, go_sem]) rfl FE.out
def BsP (d n : Nat) (x : World) (e : Ending) (w' : World) : Prop := ∃ bd bn, e = .returned (.func (.func 212) #[] #[.pointer (some ⟨bd, 0, none⟩), .pointer (some ⟨bn, 0, none⟩)]) ∧ x.heap.size ≤ bd ∧ x.heap.size ≤ bn ∧ w'.cell? ⟨bd, 0, none⟩ = some (.pointer (some ⟨d, 0, none⟩)) ∧ w'.cell? ⟨bn, 0, none⟩ = some (.int .i64 (n : Int)) ∧ Below x.heap.size x w'
theorem bits_any (d n : Nat) (x : World) : Calls Tryz.prog 146 #[.pointer (some ⟨d, 0, none⟩), .int .i64 (n : Int)] x fun e w' => BsP d n x e w' := by
 go_enter Tryz.func146, Tryz.ntmps146
 go_wp2_with fail
 have e1 : ((x.alloc (.cells #[.pointer (some ⟨d, 0, none⟩)] 33)).alloc (.cells #[.int .i64 (n : Int)] 3)).cell? ⟨x.heap.size, 0, none⟩ = some (.pointer (some ⟨d, 0, none⟩)) := by go_simp
 have e2 : ((x.alloc (.cells #[.pointer (some ⟨d, 0, none⟩)] 33)).alloc (.cells #[.int .i64 (n : Int)] 3)).cell? ⟨x.heap.size + 1, 0, none⟩ = some (.int .i64 (n : Int)) := by go_simp
 exact bodyPost_ret (v := .func (.func 212) #[] #[.pointer (some ⟨x.heap.size, 0, none⟩), .pointer (some ⟨x.heap.size + 1, 0, none⟩)]) (by simp [results, Tryz.results146, go_sem]) rfl ⟨x.heap.size, x.heap.size + 1, rfl, Nat.le_refl _, by omega, e1, e2, bl_alloc2 _ _ _⟩
theorem wpList_stB {ops : Array Oper} {rest : List Oper} {op : Oper} {a : Act} {w : World} {Q : Exit → Act → World → Prop} (hgd : op.guard = none) (ty : TypeId) (x y : Operand) (ho : op.op = .store ty x y) (b o bd bn : Nat) (hx : a.eval x = .pointer (some ⟨b, o, none⟩)) (hy : a.eval y = (.func (.func 212) #[] #[.pointer (some ⟨bd, 0, none⟩), .pointer (some ⟨bn, 0, none⟩)])) (ht : w.there b o 1) (hi : (Tryz.prog.info? ty).map (·.size) = some 1) (hd : op.dst = none)
  (h : ∀ w', w' = w.setCells b o [(.func (.func 212) #[] #[.pointer (some ⟨bd, 0, none⟩), .pointer (some ⟨bn, 0, none⟩)])] → wpList Tryz.prog ops Q rest a w') : wpList Tryz.prog ops Q (op :: rest) a w :=
 wpList_plain hgd fun K hK => by
  have hr : (storeVar ty ⟨b, o, none⟩ (.func (.func 212) #[] #[.pointer (some ⟨bd, 0, none⟩), .pointer (some ⟨bn, 0, none⟩)])).run Tryz.prog w = .ok () (w.setCells b o [(.func (.func 212) #[] #[.pointer (some ⟨bd, 0, none⟩), .pointer (some ⟨bn, 0, none⟩)])]) := run_storeVar_mid w b o ty #[(.func (.func 212) #[] #[.pointer (some ⟨bd, 0, none⟩), .pointer (some ⟨bn, 0, none⟩)])] ht hi (by simp [Value.oneCell'])
  have h1 : K a (w.setCells b o [(.func (.func 212) #[] #[.pointer (some ⟨bd, 0, none⟩), .pointer (some ⟨bn, 0, none⟩)])]) := hK _ _ (h _ rfl)
  unfold Oper.wp execOp
  simp only [ho, hx, hy, Instr.storeAt, Instr.sureAddr, Sem.run_bind, Sem.run_pure, Result.andThen_ok, hr]
  have h2 : K (a.put op.dst undef) (w.setCells b o [(.func (.func 212) #[] #[.pointer (some ⟨bd, 0, none⟩), .pointer (some ⟨bn, 0, none⟩)])]) := by rw [hd]; exact h1
  exact h2
theorem i1_pc : (Tryz.prog.info? 168).map (·.size) = some 1 := by kernel_rfl
def LsP (d n : Nat) (x : World) (e : Ending) (w' : World) : Prop := ∃ bx bd bn, e = .returned (.func (.func 147) #[] #[.pointer (some ⟨bx, 0, none⟩)]) ∧ x.heap.size ≤ bx ∧ x.heap.size ≤ bd ∧ x.heap.size ≤ bn ∧ w'.cell? ⟨bx, 0, none⟩ = some (.func (.func 212) #[] #[.pointer (some ⟨bd, 0, none⟩), .pointer (some ⟨bn, 0, none⟩)]) ∧ w'.cell? ⟨bd, 0, none⟩ = some (.pointer (some ⟨d, 0, none⟩)) ∧ w'.cell? ⟨bn, 0, none⟩ = some (.int .i64 (n : Int)) ∧ Below x.heap.size x w'
theorem less_any (d n : Nat) (x : World) : Calls Tryz.prog 84 #[.pointer (some ⟨d, 0, none⟩), .int .i64 (n : Int)] x fun e w' => LsP d n x e w' := by
 have C0 := Hn (bits_any d n x)
 go_enter Tryz.func84, Tryz.ntmps84
 go_wp2_with (first | (go_at_call 146; refine C0.out.mono ?_; rintro e w1 ⟨bd, bn, rfl, h1, h2, h3, h4, h5⟩; have B1 := Hn (And.intro h1 (And.intro h2 (And.intro h3 (And.intro h4 h5)))); clear h1 h2 h3 h4 h5 C0) | (refine wpList_stB rfl 168 _ _ rfl w1.heap.size 0 bd bn rfl rfl (there_newM w1 [.nilFunc] 168) i1_pc rfl ?_; intro w2 hw; have HW := Hn hw; clear hw))
 obtain ⟨h1, h2, h3, h4, h5⟩ := B1.out
 have hn := heap_alloc_new w1 (.cells #[.nilFunc] 168)
 have h6 := heap_setCell_same (w1.alloc (.cells #[.nilFunc] 168)) w1.heap.size 0 _ 168 (.func (.func 212) #[] #[.pointer (some ⟨bd, 0, none⟩), .pointer (some ⟨bn, 0, none⟩)]) hn
 have gb : (w1.alloc (.cells #[.nilFunc] 168)).grownBy w2 (some w1.heap.size) := by rw [HW.out]; exact gb_setCells _ _ _ _
 have h7 : w2.heap[w1.heap.size]? = some (.cells #[(.func (.func 212) #[] #[.pointer (some ⟨bd, 0, none⟩), .pointer (some ⟨bn, 0, none⟩)])] 168 (0, 0)) := by rw [HW.out]; exact h6
 have b2 : Below w1.heap.size w1 w2 := below_tr (bl_alloc w1 _) (below_grown gb (by simp) (fun k hk => by rw [← Option.some.inj hk]; exact Nat.le_refl _))
 exact bodyPost_ret (v := .func (.func 147) #[] #[.pointer (some ⟨w1.heap.size, 0, none⟩)]) (by simp [results, Tryz.results84, go_sem]) rfl ⟨w1.heap.size, bd, bn, rfl, h5.size, h1, h2, cell_of_row _ _ 0 _ _ (0, 0) h7, cell_keep h3 b2, cell_keep h4 b2, bl_trans h5 b2⟩
theorem onlyL_any (h : Ds S d m p q b x) (hL : Zm S x lb 2 V X) (hf : ∀ j, j < 2 → ∀ z ∈ X j, hs m p.K z.1 = true) (bx bd bn n : Nat) (cx : x.cell? ⟨bx, 0, none⟩ = some (.func (.func 212) #[] #[.pointer (some ⟨bd, 0, none⟩), .pointer (some ⟨bn, 0, none⟩)])) (cd : x.cell? ⟨bd, 0, none⟩ = some (.pointer (some ⟨d, 0, none⟩))) (cn : x.cell? ⟨bn, 0, none⟩ = some (.int .i64 (n : Int))) (nx : ¬ S bx) (nd : ¬ S bd) (nn : ¬ S bn) (hn : 1 ≤ n) (hn2 : n ≤ 251) (hq : p.Q.length + 3 * (2 * n + 1) ≤ 4096) (hK : p.K + 3 * n ≤ 1024) (hx9 : ∀ j, j < 2 → (X j).length ≤ 40000) (hnz : ∀ i, i < n → ∀ K : Nat, (tmX (wtS i) [((2, (K : Int)), 1)]).length = 1) :
  Calls Tryz.prog 83 #[.pointer (some ⟨d, 0, none⟩), .func (.func 147) #[] #[.pointer (some ⟨bx, 0, none⟩)], .slice (some ⟨lb, 0, none⟩) 2 2] x fun e w' => OnP S d m (pLess m p (X 0) (X 1) n) x e w' := by
 have C0 := Hn (wholeL_any h hL hf bx bd bn n cx cd cn nx nd nn hn hn2 hq hK hx9 hnz)
 clear h hL hf cx cd cn hx9 hnz
 go_enter Tryz.func83, Tryz.ntmps83
 go_wp2_with (go_at_call 144; refine C0.out.mono ?_; rintro e w1 ⟨S1, q1, b1, v1, rfl, d1, g1, k1⟩; have FE : Hid (OnP S d m (pLess m p (X 0) (X 1) n) x (.returned (.int .i64 0)) w1) := Hn ⟨S1, q1, b1, rfl, d1, g1, k1⟩; clear d1 g1 k1 C0)
 exact bodyPost_ret (v := .int .i64 0) (by simp [results, Tryz.results83, go_sem]) rfl FE.out
theorem Less_desk {u v : Value} {X Y : List Tm} (h : Ds S d m p q b x) (hu : Zo S x u X) (hv : Zo S x v Y) (hX : ∀ z ∈ X, hs m p.K z.1 = true) (hY : ∀ z ∈ Y, hs m p.K z.1 = true) (n : Nat) (hn : 1 ≤ n) (hn2 : n ≤ 251) (hq : p.Q.length + 3 * (2 * n + 1) ≤ 4096) (hK : p.K + 3 * n ≤ 1024) (x9 : X.length ≤ 40000) (y9 : Y.length ≤ 40000) (hnz : ∀ i, i < n → ∀ K : Nat, (tmX (wtS i) [((2, (K : Int)), 1)]).length = 1) :
  Calls Tryz.prog 34 #[.pointer (some ⟨d, 0, none⟩), u, v, .int .i64 (n : Int)] x fun e w' => OnP S d m (pLess m p X Y n) x e w' := by
 obtain ⟨P0, c0, rfl, -⟩ := hu.1.sh
 obtain ⟨P1, c1, rfl, -⟩ := hv.1.sh
 have C0 := Hn (less_any d n x)
 have C1 := Hn (fun (y : World) (hb : Below x.heap.size x y) (bx bd bn : Nat) (h1 : x.heap.size ≤ bx) (h2 : x.heap.size ≤ bd) (h3 : x.heap.size ≤ bn) (cx : y.cell? ⟨bx, 0, none⟩ = some (.func (.func 212) #[] #[.pointer (some ⟨bd, 0, none⟩), .pointer (some ⟨bn, 0, none⟩)])) (cd : y.cell? ⟨bd, 0, none⟩ = some (.pointer (some ⟨d, 0, none⟩))) (cn : y.cell? ⟨bn, 0, none⟩ = some (.int .i64 (n : Int))) => by
  have d1 := h.keep hb
  have BL := bl_alloc y (.cells #[.slice P0 X.length c0, .slice P1 Y.length c1] 50)
  have c := onlyL_any (d1.keep BL) (Zm.two d1 (hu.keep hb) (hv.keep hb)) (fun j hj => by
   have hj2 : j = 0 ∨ j = 1 := by omega
   rcases hj2 with rfl | rfl
   ·exact hX
   ·exact hY) bx bd bn n (cell_keep cx BL) (cell_keep cd BL) (cell_keep cn BL) (fun e => by have := h.lt _ e; omega) (fun e => by have := h.lt _ e; omega) (fun e => by have := h.lt _ e; omega) hn hn2 hq hK (fun j hj => by
   have hj2 : j = 0 ∨ j = 1 := by omega
   rcases hj2 with rfl | rfl
   ·exact x9
   ·exact y9) hnz
  exact (show Calls Tryz.prog 83 #[.pointer (some ⟨d, 0, none⟩), .func (.func 147) #[] #[.pointer (some ⟨bx, 0, none⟩)], .slice (some ⟨y.heap.size, 0, none⟩) 2 2] (y.alloc (.cells #[.slice P0 X.length c0, .slice P1 Y.length c1] 50)) (fun e w' => OnP S d m (pLess m p X Y n) x e w') from c.mono (fun e w' k => by
   obtain ⟨S', q', b', k1, k2, k3, k4⟩ := k
   have hbb := bl_trans hb BL
   exact ⟨S', q', b', k1, k2, (Gs.bl hbb).trans k3 Sk.refl, Sk.trans Sk.refl k4 hbb.size⟩)))
 have l0 : ¬ (n : Int) < 1 := by omega
 have l1 : ¬ (251 : Int) < (n : Int) := by omega
 clear h hu hv hX hY hq hK x9 y9 hnz
 go_enter Tryz.func34, Tryz.ntmps34
 go_wp2_with (first | (go_at_call 84; refine C0.out.mono ?_; rintro e w1 ⟨bx, bd, bn, rfl, h1, h2, h3, h4, h5, h6, h7⟩; have C2 := Hn (C1.out w1 h7 bx bd bn h1 h2 h3 h4 h5 h6); clear h1 h2 h3 h4 h5 h6 h7 C0 C1) | (go_at_call 83; refine C2.out.mono ?_; rintro e w2 hk; obtain ⟨S1, q1, b1, rfl, d1, g1, k1⟩ := hk; have FE : Hid (OnP S d m (pLess m p X Y n) x (.returned (.int .i64 0)) w2) := Hn ⟨S1, q1, b1, rfl, d1, g1, k1⟩; clear d1 g1 k1 C2))
 exact bodyPost_ret (v := .int .i64 0) (by simp [results, Tryz.results34, go_sem]) rfl FE.out
end
end Ci
end Go.Proofs.YtljmgfclhbadjaaGreatDoor
namespace Go.Proofs.YtljmgfclhbadjaaGreatDoor
open Go.RowKit
set_option linter.unusedVariables false
set_option linter.unusedSimpArgs false
open Cm (Wr Tm co bf Ls lf ins Eqm)
namespace Ci
set_option maxRecDepth 1000000
set_option maxHeartbeats 16000000
def lvS (p : Option Addr) (c : Nat) : Sl := ⟨p, 2, c, fun k => if k = 0 then ⟨3, 0, 0, 0⟩ else ⟨5, 0, 0, 0⟩⟩
def lvX : List Tm := [((5, 0), 1)]
def lvY : List Tm := [((5, 1), 1)]
def lvP : List Tm := [((4, 2), 1)]
def lv0 : Pz := ⟨2, enl 2, fun j => [enG (lvS none 0) j 0, enG (lvS none 0) j 1]⟩
def lv1 : Pz := pMul 2 lv0 lvX lvY
def lv2 : Pz := pLess 2 lv1 lvX lvY 3
def lv3 : Pz := pLess 2 lv2 lvY lvX 3
theorem lv1_n : nuE lv1.G 2 3 lvP = ⟨15, 0, 0, 0⟩ := by kernel_rfl
theorem lv1_e : evE (nmR (rG lv1.G)) 2 3 lvP = 0 := by kernel_rfl
theorem lv2_h : hoE (rG lv2.G 0) (rG lv2.G 1) (rG lv2.G 2) (rG lv2.G 3) 2 12 lv2.Q = 0 := by kernel_rfl
theorem lv3_h : hoE (rG lv3.G 0) (rG lv3.G 1) (rG lv3.G 2) (rG lv3.G 3) 2 21 lv3.Q = 203 := by kernel_rfl
theorem lv_nz0 (K : Nat) : (tmX (wtS 0) [((2, (K : Int)), 1)]).length = 1 := rfl
theorem lv_nz : ∀ i, i < 3 → ∀ K : Nat, (tmX (wtS i) [((2, (K : Int)), 1)]).length = 1 := fun i hi K => by
 have h3 : i = 0 ∨ i = 1 ∨ i = 2 := by omega
 rcases h3 with rfl | rfl | rfl
 ·exact lv_nz0 K
 ·rfl
 ·rfl
theorem lv1_K : lv1.K = 3 := rfl
theorem lv2_K : lv2.K = 12 := by kernel_rfl
theorem lv3_K : lv3.K = 21 := by kernel_rfl
theorem lv1_Q : lv1.Q.length = 4 := by kernel_rfl
theorem lv2_Q : lv2.Q.length = 25 := by kernel_rfl
theorem lv_wk : Wk 2 2 (enl 2) := by
 refine ⟨fun X hX x hx => ?_, fun X hX => ?_, by decide, by omega, ⟨[], by simp⟩, by omega⟩
 ·have e : (enl 2).all (fun X => X.all (fun x => hs 2 2 x.1)) = true := by kernel_rfl
  exact List.all_eq_true.1 (List.all_eq_true.1 e X hX) x hx
 ·have e : (enl 2).all (fun X => decide (X.length ≤ 2932031007402)) = true := by kernel_rfl
  exact of_decide_eq_true (List.all_eq_true.1 e X hX)
theorem lv_wx (K : Nat) : (∀ z ∈ lvX, hs 2 K z.1 = true) ∧ ∀ z ∈ lvY, hs 2 K z.1 = true := ⟨fun z hz => by
 rw [List.mem_singleton.1 hz]; rfl, fun z hz => by
 rw [List.mem_singleton.1 hz]; rfl⟩
end Ci
end Go.Proofs.YtljmgfclhbadjaaGreatDoor
namespace Go.Proofs.YtljmgfclhbadjaaGreatDoor
open Go.RowKit
set_option linter.unusedVariables false
set_option linter.unusedSimpArgs false
open Cm (Wr Tm co bf Ls lf ins Eqm)
namespace Ci
set_option maxRecDepth 100000
set_option maxHeartbeats 16000000
section
variable {S S' : Nat → Prop} {d m K q b n : Nat} {p : Pz} {Q : List (List Tm)} {vv : Value} {vs : List Value} {R R' : Nat → Sl} {e : Int} {x y : World} {G : Nat → List E4} {X : List Tm} {v : Value}
theorem Dz.more (h : Dz S d m K Q q b vv vs R e x) (h1 : ∀ k, S k → S' k) (h2 : ∀ k, S' k → k < x.heap.size) (h3 : ¬ S' 1) : Dz S' d m K Q q b vv vs R e x :=
 ⟨h.hd, h.sy, h.wk, h.ob.more h1 h2, ⟨h.tq.1, h3⟩, h1 _ h.pd, h1 _ h.pq, fun k hk => h1 _ (h.pv k hk)⟩
theorem dvalueD (h : Ds S d m p q b x) (j : Nat) (hj : j < m) :
  Calls Tryz.prog 31 #[.pointer (some ⟨d, 0, none⟩), .int .i64 (j : Int)] x fun e' w' => LqP [((5, (j : Int)), 1)] x e' w' := by
 obtain ⟨⟨vv, vs, R, h1, ha, hvs⟩, hln, hl3, hm⟩ := h
 exact dvalue_any h1 j hj
theorem Ag.eE (h : Ag G R) (m K : Nat) (X : List Tm) : evE (nmR R) m K X = evE (nmR (rG G)) m K X := h.ee m K X
def NeP (z : E4) (t : Bool) (x : World) (e : Ending) (w' : World) : Prop := e = .returned (.tuple #[.agg #[.int .u64 z.x0, .int .u64 z.x1, .int .u64 z.x2, .int .u64 z.x3], .bool t]) ∧ Below x.heap.size x w'
theorem dnumE (h : Ds S d m p q b x) (hz : Zs x v X) (z : E4) (t : Bool) (h1 : nuE p.G m p.K X = z) (h2 : decide (evE (nmR (rG p.G)) m p.K X = 0) = t) :
  Calls Tryz.prog 33 #[.pointer (some ⟨d, 0, none⟩), v] x fun e' w' => NeP z t x e' w' := by
 obtain ⟨⟨vv, vs, R, hd, ha, hvs⟩, hln, hl3, hm⟩ := h
 obtain ⟨P, c, rfl, hl⟩ := hz.sh
 have hn := hz.n
 refine (dnumber_any hd P X.length c (ft X) (by omega) (fun k hk => lst_ok _) hl).mono (fun e' w' hk => ?_)
 rw [hz.lf] at hk
 exact ⟨by rw [hk.1, ha.ev, ha.ee, h1, h2], hk.2⟩
theorem dsystemD (h : Ds S d m p q b x) :
  Calls Tryz.prog 14 #[.pointer (some ⟨d, 0, none⟩)] x fun e' w' => DsP m p.K p.Q x e' w' := by
 obtain ⟨⟨vv, vs, R, h1, ha, hvs⟩, hln, hl3, hm⟩ := h
 exact dsystem_any h1
def AsP (G : Nat → List E4) (x : World) (e : Ending) (w' : World) : Prop := ∃ R', e = .returned (.tuple #[.agg #[.slice (R' 0).p (R' 0).n (R' 0).c, .slice (R' 1).p (R' 1).n (R' 1).c, .slice (R' 2).p (R' 2).n (R' 2).c, .slice (R' 3).p (R' 3).n (R' 3).c], .bool true]) ∧ Ag G R' ∧ (∀ j, j < 4 → Ro w' (R' j)) ∧ Below x.heap.size x w'
theorem dassignD (h : Ds S d m p q b x) :
  Calls Tryz.prog 16 #[.pointer (some ⟨d, 0, none⟩)] x fun e' w' => AsP p.G x e' w' := by
 obtain ⟨⟨vv, vs, R, h1, ha, hvs⟩, hln, hl3, hm⟩ := h
 refine (dassign_any h1).mono (fun e' w' hk => ?_)
 obtain ⟨R', k1, rc, hb⟩ := hk
 refine ⟨R', k1, fun j hj => ?_, fun j hj => ⟨own_lower (rc.own j hj) (Nat.zero_le _), fun k hk => ?_, ?_⟩, hb⟩
 ·rw [rc.n j hj, rc.g j hj]; exact ha j hj
 ·rw [rc.g j hj]; exact (h1.ob.rw j hj).ok k (by rw [← rc.n j hj]; exact hk)
 ·rw [rc.n j hj]; exact (h1.ob.rw j hj).n
theorem Ag.mlB (h : Ag G R) (hl : ∀ j, j < 3 → (G j).length = K) : Ci.mlB (R 0) (R 1) (R 2) = Ci.mlB (rG G 0) (rG G 1) (rG G 2) := by
 have n0 := (h 0 (by omega)).1
 have n1 := (h 1 (by omega)).1
 have n2 := (h 2 (by omega)).1
 have l0 := hl 0 (by omega)
 have l1 := hl 1 (by omega)
 have l2 := hl 2 (by omega)
 have g0 := (h 0 (by omega)).2
 have g1 := (h 1 (by omega)).2
 have g2 := (h 2 (by omega)).2
 rw [Bool.eq_iff_iff, mlB_iff, mlB_iff]
 constructor
 ·intro a k hk
  have hk' : k < (G 0).length := hk
  have := a k (by omega)
  rw [g0 k (by omega), g1 k (by omega), g2 k (by omega)] at this
  exact this
 ·intro a k hk
  rw [g0 k (by omega), g1 k (by omega), g2 k (by omega)]
  exact a k (show k < (G 0).length by omega)
theorem Ag.zsB (h : Ag G R) (hf : ftB (nmR R) m K = true) (wk : Wk m K Q) : Ci.zsB (nmR R) Q = Ci.zsB (nmR (rG G)) Q := by
 have e : ∀ (i : Nat) (X : List Tm), Q[i]? = some X → es (nmR R) (ft X) X.length = es (nmR (rG G)) (ft X) X.length := fun i X hX => h.esE hf (fun k hk => by
  obtain ⟨w, hw, e2⟩ := ft_mem hk
  rw [e2]
  exact wk.wr X (List.mem_of_getElem? hX) w hw)
 rw [Bool.eq_iff_iff, zsB_iff, zsB_iff]
 exact ⟨fun a i X hX => by rw [← e i X hX]; exact a i X hX, fun a i X hX => by rw [e i X hX]; exact a i X hX⟩
theorem Ag.ho (h : Ag G R) (hl : ∀ j, j < 3 → (G j).length = K) (wk : Wk m K Q) : hoE (R 0) (R 1) (R 2) (R 3) m K Q = hoE (rG G 0) (rG G 1) (rG G 2) (rG G 3) m K Q := by
 have hf := h.ftE m K
 have hm := h.mlB hl
 have hz := h.zsB (m := m) (K := K) (Q := Q)
 unfold nmR at hf hz
 unfold hoE
 rw [hf, hm]
 by_cases e : ftB (nms 0 (rG G 0) (rG G 1) (rG G 2) (rG G 3)) m K = true
 ·rw [if_pos e, if_pos e, hz (hf.trans e) wk]
 ·rw [if_neg e, if_neg e]
def HoP (c : Int) (x : World) (e : Ending) (w' : World) : Prop := e = .returned (.int .i64 c) ∧ Below x.heap.size x w'
theorem holdsD {base : Nat} {v' : Value} {vs' : List Value} {q' : Nat} (sy : Sy base x q' m K v' vs' Q) (hT : Tb x) (wk : Wk m K Q) (ha : Ag G R) (hr : ∀ j, j < 4 → Ro x (R j)) (hl : ∀ j, j < 3 → (G j).length = K) (c : Int) (hc : hoE (rG G 0) (rG G 1) (rG G 2) (rG G 3) m K Q = c) :
  Calls Tryz.prog 26 #[.pointer (some ⟨q', 0, none⟩), .agg #[.slice (R 0).p (R 0).n (R 0).c, .slice (R 1).p (R 1).n (R 1).c, .slice (R 2).p (R 2).n (R 2).c, .slice (R 3).p (R 3).n (R 3).c]] x fun e w' => HoP c x e w' := by
 have at4 : ∀ j, j < 4 → (R j).at x := fun j hj => own_at ⟨(hr j hj).own, (hr j hj).ok⟩ rfl
 refine (Holds_any sy wk hT (R 0) (R 1) (R 2) (R 3) (at4 0 (by omega)) (at4 1 (by omega)) (at4 2 (by omega)) (at4 3 (by omega))).mono (fun e w' k => ⟨?_, k.2⟩)
 rw [k.1, ha.ho hl wk, hc]
end
def BgP (x : World) (e : Ending) (w' : World) : Prop := ∃ S d q b, e = .returned (.tuple #[.pointer (some ⟨d, 0, none⟩), .int .i64 0]) ∧ Ds S d 2 lv0 q b w' ∧ Below x.heap.size x w' ∧ ∀ k, S k → x.heap.size ≤ k
theorem Known_lv (x : World) (P : Option Addr) (c : Nat) (hs : (lvS P c).at x) (hT : Tb x) :
  Calls Tryz.prog 30 #[.slice P 2 c] x fun e w' => BgP x e w' := by
 refine (Known_any (lvS P c) (show 2 ≤ 16 by omega) lv_wk x hs hT).mono (fun e w' k => ?_)
 obtain ⟨S, d, q, b, vv, vs, R, rfl, hz, hb, hS, hn, hg, hv⟩ := k
 have tl := World.block_lt_of_cell? x _ hT.1
 have rows : ∀ u ∈ vs, ∀ k, u.ownBlock = some k → k < w'.heap.size ∧ x.heap.size ≤ k := fun u hu k hk => by
  obtain ⟨n, xs, a2⟩ := hz.sy.us u hu
  exact ⟨(a2.lt k hk).2, hv u hu k hk⟩
 refine ⟨fun k => S k ∨ ∃ u ∈ vs, u.ownBlock = some k, d, q, b, rfl, ⟨⟨vv, vs, R, hz.more (fun k h => .inl h) (fun k h => ?_) (fun h => ?_), fun j hj => ⟨hn j hj, fun k hk => ?_⟩, fun u hu k hk => .inr ⟨u, hu, hk⟩⟩, fun j hj => rfl, rfl, by omega⟩, hb, fun k h => ?_⟩
 ·rcases h with h | ⟨u, hu, h⟩
  ·exact hz.ob.lt k h
  ·exact (rows u hu k h).1
 ·rcases h with h | ⟨u, hu, h⟩
  ·exact hz.tq.2 h
  ·have := (rows u hu _ h).2
   simp only at tl
   omega
 ·have hk2 : k < 2 := by rw [hn j hj] at hk; exact hk
  rw [hg j k hj hk2]
  have hk3 : k = 0 ∨ k = 1 := by omega
  rcases hk3 with rfl | rfl <;> rfl
 ·rcases h with h | ⟨u, hu, h⟩
  ·exact hS k h
  ·exact (rows u hu k h).2
end Ci
end Go.Proofs.YtljmgfclhbadjaaGreatDoor
namespace Go.Proofs.YtljmgfclhbadjaaGreatDoor
open Go.RowKit
set_option linter.unusedVariables false
set_option linter.unusedSimpArgs false
open Cm (Wr Tm co bf Ls lf ins Eqm)
namespace Ci
set_option maxRecDepth 100000
set_option maxHeartbeats 16000000
def LiP (x : World) (e : Ending) (w' : World) : Prop := e = .returned (.bool true) ∧ Below x.heap.size x w'
theorem lv_at (x : World) : (lvS (some ⟨x.heap.size, 0, none⟩) 2).at (x.alloc (.cells #[.int .u64 3, .int .u64 0, .int .u64 0, .int .u64 0, .int .u64 5, .int .u64 0, .int .u64 0, .int .u64 0] 53)) := by
 refine own_at (b0 := 0) (n := 2) ⟨⟨rfl, .inr ⟨x.heap.size, 2, _, rfl, Nat.zero_le _, heap_alloc_new x _, Nat.le_refl _, by unfold maxLen; omega, rfl, rfl⟩⟩, fun k hk => ?_⟩ rfl
 have hk3 : k = 0 ∨ k = 1 := by omega
 rcases hk3 with rfl | rfl <;> (refine ⟨?_, ?_, ?_, ?_⟩ <;> (show Sm.Wd _; unfold Sm.Wd; simp [lvS]))
theorem live_walk (p1 p2 p3 : Pz) (h1 : pMul 2 lv0 lvX lvY = p1) (h2 : pLess 2 p1 lvX lvY 3 = p2) (h3 : pLess 2 p2 lvY lvX 3 = p3) (k1 : p1.K = 3) (k2 : p2.K = 12) (k3 : p3.K = 21) (q1 : p1.Q.length = 4) (q2 : p2.Q.length = 25) (n1 : nuE p1.G 2 3 lvP = ⟨15, 0, 0, 0⟩) (e1 : evE (nmR (rG p1.G)) 2 3 lvP = 0) (o2 : hoE (rG p2.G 0) (rG p2.G 1) (rG p2.G 2) (rG p2.G 3) 2 12 p2.Q = 0) (o3 : hoE (rG p3.G 0) (rG p3.G 1) (rG p3.G 2) (rG p3.G 3) 2 21 p3.Q = 203) (x : World) (hT : Tb x) :
  Calls Tryz.prog 9 #[] x fun e w' => LiP x e w' := by
 have BL := bl_alloc x (.cells #[.int .u64 3, .int .u64 0, .int .u64 0, .int .u64 0, .int .u64 5, .int .u64 0, .int .u64 0, .int .u64 0] 53)
 have C0 := Hn (Known_lv _ _ 2 (lv_at x) (hT.keep BL))
 have B0 := Hn BL
 have E1 := Hn (And.intro h1 (And.intro k1 (And.intro q1 (And.intro n1 e1))))
 have E2 := Hn (And.intro h2 (And.intro k2 (And.intro q2 o2)))
 have E3 := Hn (And.intro h3 (And.intro k3 o3))
 clear BL hT h1 h2 h3 k1 k2 k3 q1 q2 n1 e1 o2 o3
 go_enter Tryz.func9, Tryz.ntmps9
 go_upto_region 2 with (go_at_call 30; refine C0.out.mono ?_; rintro e w1 ⟨S0, d, q, b, rfl, d0, hb, hS⟩; have D0 := Hn d0; have B1 := Hn (And.intro hb hS); clear d0 hb hS C0)
 have NT := Hn D0.out.nt
 have CX := Hn (dvalueD D0.out 0 (by omega))
 go_upto_region 5 with (go_at_call 31; refine CX.out.mono ?_; rintro e w2 ⟨vx, rfl, hl⟩; have QX := Hn hl; clear hl CX)
 have D2 := Hn (D0.out.keep QX.out.2.1)
 have ZX := Hn (Zo.new QX.out D0.out.lt (show 1 ≤ 100000 by omega) : Zo S0 w2 vx lvX)
 have CY := Hn (dvalueD D2.out 1 (by omega))
 go_upto_region 6 with (go_at_call 31; refine CY.out.mono ?_; rintro e w3 ⟨vy, rfl, hl⟩; have QY := Hn hl; clear hl CY)
 have D3 := Hn (D2.out.keep QY.out.2.1)
 have ZY := Hn (Zo.new QY.out D2.out.lt (show 1 ≤ 100000 by omega) : Zo S0 w3 vy lvY)
 replace ZX := Hn (ZX.out.keep QY.out.2.1)
 have G3 : Hid (Gs S0 w1 w3) := Hn (Gs.bl (bl_trans QX.out.2.1 QY.out.2.1))
 clear D0 D2 QX QY
 have CM := Hn (Multiply_desk D3.out ZX.out ZY.out (lv_wx 2).1 (lv_wx 2).2 (show 2 ≤ 4094 by omega) (show 2 < 1024 by omega))
 rw [E1.out.1] at CM
 replace CM := Hn (show Calls Tryz.prog 32 #[.pointer (some ⟨d, 0, none⟩), vx, vy] w3 fun e w' => OoP S0 d 2 p1 lvP w3 e w' from CM.out)
 go_upto_region 9 with (go_at_call 32; refine CM.out.mono ?_; rintro e w4 ⟨S1, q4, b4, vp, rfl, d4, g4, s4, z4⟩; have D4 := Hn d4; have G4 := Hn (And.intro g4 s4); have ZP := Hn z4; clear d4 g4 s4 z4 CM)
 replace ZX := Hn (ZX.out.step G4.out.1 G4.out.2)
 replace ZY := Hn (ZY.out.step G4.out.1 G4.out.2)
 have K3 : Hid (Sk S0 S1 w1) := Hn (Sk.trans Sk.refl G4.out.2 G3.out.size)
 replace G3 := Hn (G3.out.trans G4.out.1 Sk.refl)
 have CN := Hn (dnumE D4.out ZP.out.1 ⟨15, 0, 0, 0⟩ true (by rw [E1.out.2.1]; exact E1.out.2.2.2.1) (by rw [E1.out.2.1]; exact decide_eq_true E1.out.2.2.2.2))
 replace CN := Hn (show Calls Tryz.prog 33 #[.pointer (some ⟨d, 0, none⟩), vp] w4 fun e w' => e = .returned (.tuple #[.agg #[.int .u64 15, .int .u64 0, .int .u64 0, .int .u64 0], .bool true]) ∧ Below w4.heap.size w4 w' from CN.out)
 go_upto_region 10 with (go_at_call 33; refine CN.out.mono ?_; rintro e w5 ⟨rfl, hb⟩; have B5 := Hn hb; clear hb CN)
 have B6 : Hid (Below w4.heap.size w4 (w5.alloc (.cells #[.int .u64 15, .int .u64 0, .int .u64 0, .int .u64 0] 53))) := Hn (bl_trans B5.out (bl_alloc w5 _))
 have D6 := Hn (D4.out.keep B6.out)
 replace ZX := Hn (ZX.out.keep B6.out)
 replace ZY := Hn (ZY.out.keep B6.out)
 replace G3 := Hn (G3.out.trans (Gs.bl B6.out) K3.out)
 have CL := Hn (Less_desk D6.out ZX.out ZY.out (lv_wx _).1 (lv_wx _).2 3 (by omega) (by omega) (by rw [E1.out.2.2.1]; omega) (by rw [E1.out.2.1]; omega) (show 1 ≤ 40000 by omega) (show 1 ≤ 40000 by omega) lv_nz)
 rw [E2.out.1] at CL
 clear D4 B5 B6 G4 ZP D3
 have hq : ∀ w, (Op.equalIn 10000 53 (.agg #[.int .u64 15, .int .u64 0, .int .u64 0, .int .u64 0]) (.agg #[.int .u64 15, .int .u64 0, .int .u64 0, .int .u64 0])).run Tryz.prog w = .ok true w := fun w => eq4 ⟨15, 0, 0, 0⟩ ⟨15, 0, 0, 0⟩ w
 go_upto_region 12 with (go_at_call 34; refine CL.out.mono ?_; rintro e w7 ⟨S2, q7, b7, rfl, d7, g7, s7⟩; have D7 := Hn d7; have G7 := Hn (And.intro g7 s7); clear d7 g7 s7 CL)
 replace ZX := Hn (ZX.out.step G7.out.1 G7.out.2)
 replace ZY := Hn (ZY.out.step G7.out.1 G7.out.2)
 have K7 := Hn (K3.out.trans G7.out.2 G3.out.size)
 replace G3 := Hn (G3.out.trans G7.out.1 K3.out)
 clear D6 G7 K3
 have CS := Hn (dsystemD D7.out)
 rw [E2.out.2.1] at CS
 go_upto_region 13 with (go_at_call 14; refine CS.out.mono ?_; rintro e w8 ⟨q8, v8, vs8, rfl, sy8, hb⟩; have Y8 := Hn sy8; have B8 := Hn hb; clear sy8 hb CS)
 have CA := Hn (dassignD (D7.out.keep B8.out))
 go_upto_region 14 with (go_at_call 16; refine CA.out.mono ?_; rintro e w9 ⟨R9, rfl, ha, hr, hb⟩; have A9 := Hn (And.intro ha hr); have B9 := Hn hb; clear ha hr hb CA)
 have BA := bl_alloc w9 (.cells #[.slice (R9 0).p (R9 0).n (R9 0).c, .slice (R9 1).p (R9 1).n (R9 1).c, .slice (R9 2).p (R9 2).n (R9 2).c, .slice (R9 3).p (R9 3).n (R9 3).c] 43)
 have HB := Hn (heap_alloc_new w9 (.cells #[.slice (R9 0).p (R9 0).n (R9 0).c, .slice (R9 1).p (R9 1).n (R9 1).c, .slice (R9 2).p (R9 2).n (R9 2).c, .slice (R9 3).p (R9 3).n (R9 3).c] 43))
 have BX : Hid (Below w7.heap.size w7 (w9.alloc (.cells #[.slice (R9 0).p (R9 0).n (R9 0).c, .slice (R9 1).p (R9 1).n (R9 1).c, .slice (R9 2).p (R9 2).n (R9 2).c, .slice (R9 3).p (R9 3).n (R9 3).c] 43))) := Hn (bl_trans (bl_trans B8.out B9.out) BA)
 have YX := Hn ((Y8.out.keep B9.out).keep BA)
 have AX := Hn (fun j hj => ((A9.out.2 j hj).keep BA))
 have NB : Hid (¬ S2 w9.heap.size) := Hn (fun e => by have := D7.out.lt _ e; have := B8.out.size; have := B9.out.size; omega)
 have XL : Hid (w1.heap.size ≤ w9.heap.size) := Hn (by have := G3.out.size; have := B8.out.size; have := B9.out.size; omega)
 obtain ⟨xa, hxa⟩ : ∃ xa, w9.heap.size = xa := ⟨_, rfl⟩
 obtain ⟨x1, hx1⟩ : ∃ x1, w9.alloc (.cells #[.slice (R9 0).p (R9 0).n (R9 0).c, .slice (R9 1).p (R9 1).n (R9 1).c, .slice (R9 2).p (R9 2).n (R9 2).c, .slice (R9 3).p (R9 3).n (R9 3).c] 43) = x1 := ⟨_, rfl⟩
 rw [hx1] at HB BX YX AX ⊢
 rw [hxa] at HB NB XL
 simp only [hxa]
 clear hx1 hxa BA B8 B9 Y8
 have DX := Hn (D7.out.keep BX.out)
 replace ZX := Hn (ZX.out.keep BX.out)
 replace ZY := Hn (ZY.out.keep BX.out)
 replace G3 := Hn (G3.out.trans (Gs.bl BX.out) K7.out)
 have GG := Hn (Gates_any YX.out)
 have CH := Hn (holdsD YX.out DX.out.tb (by have := DX.out.wk; rw [E2.out.2.1] at this; exact this) A9.out.1 AX.out (by have := DX.out.ln; rw [E2.out.2.1] at this; exact this) 0 E2.out.2.2.2)
 have a0 := cell_of_row x1 xa 0 _ _ (0, 0) HB.out
 have a1 := cell_of_row x1 xa 1 _ _ (0, 0) HB.out
 have a2 := cell_of_row x1 xa 2 _ _ (0, 0) HB.out
 have a3 := cell_of_row x1 xa 3 _ _ (0, 0) HB.out
 clear D7 hq
 go_upto_region 16 with (first | (go_at_call 35; refine GG.out.mono ?_; rintro e w0 ⟨rfl, hw1⟩; have hw2 := hw1.symm; clear hw1; subst hw2; clear GG) | (go_at_call 26; refine CH.out.mono ?_; rintro e w10 ⟨rfl, hb⟩; have B10 := Hn hb; have CL := Hn (Less_desk (DX.out.keep hb) (ZY.out.keep hb) (ZX.out.keep hb) (lv_wx _).2 (lv_wx _).1 3 (by omega) (by omega) (by rw [E2.out.2.2.1]; omega) (by rw [E2.out.2.1]; omega) (show 1 ≤ 40000 by omega) (show 1 ≤ 40000 by omega) lv_nz); rw [E3.out.1] at CL; clear hb CH a0 a1 a2 a3) | (go_at_call 34; refine CL.out.mono ?_; rintro e w11 ⟨S3, q11, b11, rfl, d11, g11, s11⟩; have D11 := Hn d11; have G11 := Hn (And.intro g11 s11); clear d11 g11 s11 CL))
 have K11 : Hid (Sk S0 S3 w1) := Hn (K7.out.trans (Sk.trans Sk.refl G11.out.2 B10.out.size) G3.out.size)
 have N3 : Hid (¬ S3 xa) := Hn (out_sk NB.out G11.out.2 (Nat.lt_of_lt_of_le (Array.getElem?_eq_some_iff.1 HB.out).1 B10.out.size))
 have HB11 := Hn ((G11.out.1.block xa (Nat.lt_of_lt_of_le (Array.getElem?_eq_some_iff.1 HB.out).1 B10.out.size) NB.out).trans ((B10.out.block xa (Array.getElem?_eq_some_iff.1 HB.out).1).trans HB.out))
 replace G3 := Hn ((G3.out.trans (Gs.bl B10.out) K7.out).trans G11.out.1 K7.out)
 clear DX B10 G11 K7 AX A9 YX ZX ZY NB HB
 have CS2 := Hn (dsystemD D11.out)
 rw [E3.out.2.1] at CS2
 go_upto_region 17 with (go_at_call 14; refine CS2.out.mono ?_; rintro e w12 ⟨q12, v12, vs12, rfl, sy12, hb⟩; have Y12 := Hn sy12; have B12 := Hn hb; clear sy12 hb CS2)
 have CA2 := Hn (dassignD (D11.out.keep B12.out))
 go_upto_region 18 with (first | (go_at_call 16; refine CA2.out.mono ?_; rintro e w13 ⟨R13, rfl, ha, hr, hb⟩; have A13 := Hn (And.intro ha hr); have B13 := Hn (bl_trans B12.out hb); have Y13 := Hn (Y12.out.keep hb); have HB13 := Hn ((B13.out.block xa (Array.getElem?_eq_some_iff.1 HB11.out).1).trans HB11.out); clear ha hr hb CA2 Y12) | (refine wpList_stA rfl 43 _ _ rfl xa 0 [.slice (R13 0).p (R13 0).n (R13 0).c, .slice (R13 1).p (R13 1).n (R13 1).c, .slice (R13 2).p (R13 2).n (R13 2).c, .slice (R13 3).p (R13 3).n (R13 3).c] rfl rfl (there_row4 HB13.out) i4as (by simp [Value.oneCell']) rfl ?_; intro w14 hw; have HW := Hn hw; clear hw))
 have cs := World.rangeAt_setCells_same w13 xa 0 [.slice (R13 0).p (R13 0).n (R13 0).c, .slice (R13 1).p (R13 1).n (R13 1).c, .slice (R13 2).p (R13 2).n (R13 2).c, .slice (R13 3).p (R13 3).n (R13 3).c] (there_row4 HB13.out)
 have gb := gb_setCells xa [.slice (R13 0).p (R13 0).n (R13 0).c, .slice (R13 1).p (R13 1).n (R13 1).c, .slice (R13 2).p (R13 2).n (R13 2).c, .slice (R13 3).p (R13 3).n (R13 3).c] 0 w13
 rw [← HW.out] at cs gb
 have e0 := cs 0 _ rfl
 have e1 := cs 1 _ rfl
 have e2 := cs 2 _ rfl
 have e3 := cs 3 _ rfl
 simp only [Nat.zero_add] at e0 e1 e2 e3
 have D14 := Hn ((D11.out.keep B13.out).gb gb (fun k e => by
  have h9 := Option.some.inj e
  refine ⟨by rw [← h9]; exact N3.out, fun e2 => ?_⟩
  have := NT.out
  have := XL.out
  omega))
 have Y14 := Hn (Y13.out.zero.okd gb HB13.out (by decide) (by decide) (by decide))
 have A14 := Hn (fun j hj => (⟨own_setK2 (A13.out.2 j hj).own gb HB13.out (by decide), (A13.out.2 j hj).ok, (A13.out.2 j hj).n⟩ : Ro w14 (R13 j)))
 have GF := Hn ((G3.out.trans (Gs.bl B13.out) K11.out).up gb (fun k e => by rw [← Option.some.inj e]; exact XL.out))
 have CH2 := Hn (holdsD Y14.out D14.out.tb (by have := D14.out.wk; rw [E3.out.2.1] at this; exact this) A13.out.1 A14.out (by have := D14.out.ln; rw [E3.out.2.1] at this; exact this) 203 E3.out.2.2)
 clear cs gb
 go_wp2_with (go_at_call 26; refine CH2.out.mono ?_; rintro e w15 ⟨rfl, hb⟩; have B15 := Hn hb; clear hb CH2)
 have bb := bl_trans B0.out B1.out.1
 have gf := ((Gs.bl bb).trans GF.out Sk.refl).trans (Gs.bl (S := S0) B15.out) Sk.refl
 have b0 := B0.out.size
 exact bodyPost_ret (v := .bool true) (by simp [results, Tryz.results9, go_sem]) rfl ⟨rfl, gf.os, gf.tape, gf.output, gf.size, fun i hi => gf.block i hi (fun e => by have := B1.out.2 i e; omega)⟩
theorem live_any (x : World) (hT : Tb x) : Calls Tryz.prog 9 #[] x fun e w' => LiP x e w' :=
 live_walk lv1 lv2 lv3 rfl rfl rfl lv1_K lv2_K lv3_K lv1_Q lv2_Q lv1_n lv1_e lv2_h lv3_h x hT
end Ci
end Go.Proofs.YtljmgfclhbadjaaGreatDoor
