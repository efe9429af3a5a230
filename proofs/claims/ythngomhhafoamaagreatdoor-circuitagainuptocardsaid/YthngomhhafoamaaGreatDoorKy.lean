import Derived.Test.YthngomhhafoamaaGreatDoorKz
set_option linter.unusedVariables false
set_option linter.unusedSimpArgs false
set_option maxRecDepth 100000
set_option maxHeartbeats 8000000
namespace Go.Proofs.YthngomhhafoamaaGreatDoor
open Go.RowKit
open Cm (Wr Tm co bf Ls lf ins Eqm)
open Tr (Kp)
namespace Ci
def Sz0 (x : World) (s m K : Nat) : Prop := x.heap[s]? = some (.cells #[.int .i64 (m : Int), .int .i64 (K : Int), .slice none 0 0, .bool true] 72 (0, 0))
theorem Sz0.sy {x : World} {s m K : Nat} (h : Sz0 x s m K) : Sy 0 x s m K (.slice none 0 0) [] [] :=
 ⟨h, World.ownsRow_nil _ _ _ _, fun i X hX => by simp at hX, Nat.zero_le _, fun X hX => by simp at hX⟩
theorem Sz0.kp {x y : World} {s m K g : Nat} (h : Sz0 x s m K) (k : Kp g x y) (hs : s ≠ g) : Sz0 y s m K := (k.block s (Array.getElem?_eq_some_iff.1 h).1 hs).trans h
def RqP (w : World) (g q m K : Nat) (bs : List UInt8) (r : Ending) (w' : World) : Prop :=
 (∃ X b V, pX m K bs = some (X, b) ∧ r = .returned V ∧ w'.ownsRow w.heap.size 77 6 V X.length (tls X) ∧ Rb w' g q b 0 ∧ Kp g w w') ∨ (pX m K bs = none ∧ ∃ P n c b e, r = .returned (.slice P n c) ∧ e ≠ 0 ∧ Rb w' g q b e ∧ Kp g w w')
theorem rb_fail {w : World} {g q : Nat} {bs : List UInt8} (h : Rb w g q bs 0) (e' : Int) : Calls Tryz.prog 76 #[.pointer (some ⟨g, 0, none⟩), .int .i64 e'] w fun r w' => r = .returned (.tuple #[]) ∧ Rb w' g q bs e' ∧ Kp g w w' := by
 obtain ⟨P, c, h1, h2⟩ := h
 exact (Tr.fail_any h1 e').mono fun r w' ⟨a, b⟩ => ⟨a, by rw [b]; exact ⟨P, c, h1.fail e', h2⟩, by rw [b]; exact Tr.Kp.grown (Tr.grown_set _ _ _ _)⟩
theorem lt_nil (w : World) (f : Nat → Trm) : Lt w none 0 f := ⟨0, 0, fun h => absurd h (by omega), fun h => absurd h (by omega)⟩
theorem readReq_any (bs : List UInt8) (w : World) (g q s m K : Nat) (hT : Tb w) (htb : 0 ≠ g) (h : Rb w g q bs 0) (hS : Sz0 w s m K) (hsg : s ≠ g) (hq : q < w.heap.size) (hl : bs.length ≤ 2 ^ 40) :
  Calls Tryz.prog 45 #[.pointer (some ⟨s, 0, none⟩), .pointer (some ⟨g, 0, none⟩)] w fun e w' => RqP w g q m K bs e w' := by
 have CL := Hn (listT_any bs 3089 w g q hT htb h hq hl (by omega))
 have HS := Hn (And.intro hS hsg)
 clear hT htb h hS hsg hq hl
 go_enter Tryz.func45, Tryz.ntmps45
 go_upto_region 1 with fail
 go_cut [5] (fun v wx => Hid (RlP w g q 3089 bs (.returned v) wx))
 case first =>
  go_wp2_with (first | (go_at_call 73; refine CL.out.mono ?_; intro r w2 hr; have HR := Hn hr; obtain ⟨v, rfl⟩ : ∃ v, r = .returned v := (by rcases hr with ⟨_, _, V, _, h, _⟩ | ⟨_, h, _⟩; exact ⟨_, h⟩; exact ⟨_, h⟩); clear hr CL))
  go_meet
  exact HR
 case rest =>
 have HR := Hn hcut.out
 clear hcut CL
 rcases HR.out with ⟨X, b, V, hp, hv, ho, hr, hk⟩ | ⟨hp, hv, b, e, he, hr, hk⟩
 ·obtain rfl := Ending.returned.inj hv
  have OX := Hn (pL_some (f := tmB) (ok := okT) (fun _ _ _ h => pT_some h) hp)
  obtain ⟨P, c, hV, _, _⟩ := own_shT ho
  subst hV
  have LX := Hn (own_lts ho)
  have RX := Hn (And.intro hp (And.intro ho (And.intro hr hk)))
  clear hp ho hr hk hv HR
  have CI := Hn (isLeast_any P X.length c (ft X) wc LX.out (by have := OX.out.2.1; omega))
  have CN := Hn (fun y (hy : Below wc.heap.size wc y) => names_any ((HS.out.1.kp RX.out.2.2.2 HS.out.2).sy.keep hy) P X.length c (ft X) (by have := OX.out.2.1; omega) (LX.out.keep hy))
  have I1 := Hn (il_iff OX.out.2.2)
  have I2 := Hn (nmX_iff (m := m) (K := K) (X := X))
  have PX : Hid (pX m K bs = @ite _ (Ls Sm.L X ∧ ∀ x ∈ X, hs m K x.1 = true) (Classical.propDecidable _) (some (X, b)) none) := Hn (by unfold pX; rw [RX.out.1])
  generalize (!an (bdT (ft X)) X.length) = b1 at CI I1
  generalize Ci.nm m K X.length (ft X) = b2 at CN I2
  have FL := Hn (fun y (hy : Below wc.heap.size wc y) => rb_fail (RX.out.2.2.1.keep hy) 204)
  cases b1 with
  | false =>
   go_upto_region 4 with (first | (go_at_call 75; refine CI.out.mono ?_; rintro r w3 ⟨rfl, hb⟩; have B3 := Hn hb; clear hb CI) | (go_at_call 76; refine (FL.out _ B3.out).mono ?_; rintro r w4 ⟨rfl, hr, hk⟩; have R4 := Hn hr; have K4 := Hn ((RX.out.2.2.2.trans (Tr.Kp.of B3.out)).trans hk); clear hr hk FL))
   go_wp2_with fail
   exact bodyPost_ret (v := .slice P X.length c) (by simp [results, Tryz.results45, go_sem]) rfl (.inr ⟨by rw [PX.out, if_neg (fun h => by have := I1.out.2 h.1; cases this)], P, X.length, c, b, 204, rfl, by omega, R4.out, K4.out⟩)
  | true =>
   cases b2 with
   | false =>
    go_upto_region 4 with (first | (go_at_call 75; refine CI.out.mono ?_; rintro r w3 ⟨rfl, hb⟩; have B3 := Hn hb; clear hb CI) | (go_at_call 49; refine (CN.out _ B3.out).mono ?_; rintro r w4 ⟨rfl, hb⟩; have B4 := Hn (bl_trans B3.out hb); clear hb CN) | (go_at_call 76; refine (FL.out _ B4.out).mono ?_; rintro r w5 ⟨rfl, hr, hk⟩; have R5 := Hn hr; have K5 := Hn ((RX.out.2.2.2.trans (Tr.Kp.of B4.out)).trans hk); clear hr hk FL))
    go_wp2_with fail
    exact bodyPost_ret (v := .slice P X.length c) (by simp [results, Tryz.results45, go_sem]) rfl (.inr ⟨by rw [PX.out, if_neg (fun h => by have := I2.out.2 h.2; cases this)], P, X.length, c, b, 204, rfl, by omega, R5.out, K5.out⟩)
   | true =>
    go_upto_region 4 with (first | (go_at_call 75; refine CI.out.mono ?_; rintro r w3 ⟨rfl, hb⟩; have B3 := Hn hb; clear hb CI) | (go_at_call 49; refine (CN.out _ B3.out).mono ?_; rintro r w4 ⟨rfl, hb⟩; have B4 := Hn (bl_trans B3.out hb); clear hb CN))
    have OF := Hn (own_keepT RX.out.2.1 B4.out)
    have RF := Hn (RX.out.2.2.1.keep B4.out)
    have KF := Hn (RX.out.2.2.2.trans (Tr.Kp.of B4.out))
    go_wp2_with fail
    refine bodyPost_ret (v := .slice P X.length c) (by simp [results, Tryz.results45, go_sem]) rfl (.inl ⟨X, b, _, by rw [PX.out, if_pos ⟨I1.out.1 trivial, I2.out.1 trivial⟩], rfl, OF.out, RF.out, KF.out⟩)
 ·obtain rfl := Ending.returned.inj hv
  have PX : Hid (pX m K bs = none) := Hn (by unfold pX; rw [hp])
  have RX := Hn (And.intro he (And.intro hr hk))
  clear he hr hk hp hv HR
  have CI : Hid (Calls Tryz.prog 75 #[.slice none 0 0] wc fun e w' => e = .returned (.bool true) ∧ Below wc.heap.size wc w') := Hn (isLeast_any none 0 0 (fun _ => ⟨(0, 0), lst 0⟩) wc (lt_nil _ _) (by omega))
  have CN : Hid (∀ y, Below wc.heap.size wc y → Calls Tryz.prog 49 #[.pointer (some ⟨s, 0, none⟩), .slice none 0 0] y fun e w' => e = .returned (.bool true) ∧ Below y.heap.size y w') := Hn (fun y hy => names_any ((HS.out.1.kp RX.out.2.2 HS.out.2).sy.keep hy) none 0 0 (fun _ => ⟨(0, 0), lst 0⟩) (by omega) (lt_nil _ _))
  go_upto_region 4 with (first | (go_at_call 75; refine CI.out.mono ?_; rintro r w3 ⟨rfl, hb⟩; have B3 := Hn hb; clear hb CI) | (go_at_call 49; refine (CN.out _ B3.out).mono ?_; rintro r w4 ⟨rfl, hb⟩; have B4 := Hn (bl_trans B3.out hb); clear hb CN))
  go_wp2_with fail
  exact bodyPost_ret (v := .slice none 0 0) (by simp [results, Tryz.results45, go_sem]) rfl (.inr ⟨PX.out, none, 0, 0, b, e, rfl, RX.out.1, RX.out.2.1.keep B4.out, RX.out.2.2.trans (Tr.Kp.of B4.out)⟩)
end Ci
end Go.Proofs.YthngomhhafoamaaGreatDoor
namespace Go.Proofs.YthngomhhafoamaaGreatDoor
open Go.RowKit
open Cm (Wr Tm co bf Ls lf ins Eqm)
open Tr (Kp)
namespace Ci
theorem own_grL {x y : World} {b1 s1 b2 s2 : Nat} {e1 e2 : TypeId} {u1 u2 : Value} {n1 n2 : Nat} {xs1 xs2 : List Value} (h1 : x.ownsRow b1 e1 s1 u1 n1 xs1) (h2 : x.ownsRow b2 e2 s2 u2 n2 xs2) (hne : e1 ≠ e2) (hg : x.grownBy y u2.ownBlock) : y.ownsRow b1 e1 s1 u1 n1 xs1 := ⟨h1.1, by
 rcases h1.2 with h0 | ⟨g, c, cur, k1, k2, k3, k4⟩
 ·exact .inl h0
 ·refine .inr ⟨g, c, cur, k1, k2, (hg.block g (Array.getElem?_eq_some_iff.1 k3).1 (fun e => ?_)).trans k3, k4⟩
  rcases h2.2 with ⟨h3, _⟩ | ⟨g2, c2, cur2, j1, _, j3, _⟩
  ·rw [h3] at e; simp [Value.ownBlock] at e
  ·rw [j1] at e
   simp only [Value.ownBlock, Option.some.injEq] at e
   subst e
   rw [j3] at k3
   simp only [Option.some.injEq, Obj.cells.injEq] at k3
   exact hne k3.2.1.symm⟩
def Rws (x : World) (base : Nat) (Q : List (List Tm)) (vs : List Value) : Prop := ∀ (j : Nat) (X : List Tm), Q[j]? = some X → ∃ u, vs[j]? = some u ∧ x.ownsRow base 77 6 u X.length (tls X)
theorem Rws.keep {x y : World} {base : Nat} {Q : List (List Tm)} {vs : List Value} (h : Rws x base Q vs) (hb : Below x.heap.size x y) : Rws y base Q vs := fun j X hX => by
 obtain ⟨u, h1, h2⟩ := h j X hX
 exact ⟨u, h1, own_keepT h2 hb⟩
theorem Rws.kp {x y : World} {base g : Nat} {Q : List (List Tm)} {vs : List Value} (h : Rws x base Q vs) (hk : Kp g x y) (hg : g < base) : Rws y base Q vs := fun j X hX => by
 obtain ⟨u, h1, h2⟩ := h j X hX
 exact ⟨u, h1, hk.own h2 (fun e => by have := (h2.lt g e).1; omega)⟩
theorem Rws.gr {x y : World} {base b2 n2 : Nat} {Q : List (List Tm)} {vs : List Value} {v : Value} {xs : List Value} (h : Rws x base Q vs) (ho : x.ownsRow b2 24 1 v n2 xs) (hg : x.grownBy y v.ownBlock) : Rws y base Q vs := fun j X hX => by
 obtain ⟨u, h1, h2⟩ := h j X hX
 exact ⟨u, h1, own_grL h2 ho (by decide) hg⟩
theorem Rws.snoc {x : World} {base : Nat} {Q : List (List Tm)} {vs : List Value} {X : List Tm} {u : Value} (h : Rws x base Q vs) (hl : vs.length = Q.length) (ho : x.ownsRow base 77 6 u X.length (tls X)) : Rws x base (Q ++ [X]) (vs ++ [u]) := fun j Y hY => by
 by_cases hj : j < Q.length
 ·rw [List.getElem?_append_left hj] at hY
  obtain ⟨v, h1, h2⟩ := h j Y hY
  exact ⟨v, by rw [List.getElem?_append_left (by omega)]; exact h1, h2⟩
 ·have hlt := (List.getElem?_eq_some_iff.1 hY).1
  rw [List.length_append] at hlt
  simp at hlt
  obtain rfl : j = Q.length := by omega
  rw [List.getElem?_append_right (Nat.le_refl _)] at hY
  simp at hY
  subst hY
  exact ⟨u, by rw [← hl, List.getElem?_append_right (Nat.le_refl _)]; simp, ho⟩
structure Lt2 (w w3 : World) (g q S sb m K : Nat) (b1 : List UInt8) (i : Nat) (Q : List (List Tm)) (vs : List Value) (r : List UInt8) (v : Value) (x : World) : Prop where
 p : pR (pX m K) i b1 = some (Q, r)
 o : x.ownsRow w3.heap.size 24 1 v i vs
 ls : Rws x w.heap.size Q vs
 r : Rb x g q r 0
 k : Kp g w x
 c : x.cell? ⟨S + 1, 0, none⟩ = some (.func (.func 45) #[.pointer (some ⟨sb, 0, none⟩)] #[])
 s : w3.heap.size ≤ x.heap.size
def RsP (w : World) (g q m K most : Nat) (bs : List UInt8) (r : Ending) (w' : World) : Prop :=
 (∃ Q b V vs, pL (pX m K) most bs = some (Q, b) ∧ r = .returned V ∧ w'.ownsRow w.heap.size 24 1 V Q.length vs ∧ Rws w' w.heap.size Q vs ∧ Rb w' g q b 0 ∧ Kp g w w') ∨ (pL (pX m K) most bs = none ∧ r = .returned (.slice none 0 0) ∧ ∃ b e, e ≠ 0 ∧ Rb w' g q b e ∧ Kp g w w')
theorem listL_any (bs : List UInt8) (most : Nat) (w : World) (g q sb m K : Nat) (hT : Tb w) (htb : 0 ≠ g) (h : Rb w g q bs 0) (hS : Sz0 w sb m K) (hsg : sb ≠ g) (hq : q < w.heap.size) (hl : bs.length ≤ 2 ^ 40) (hm : most ≤ 1048576) :
  Calls Tryz.prog 44 #[.pointer (some ⟨g, 0, none⟩), .int .i64 (most : Int), .func (.func 45) #[.pointer (some ⟨sb, 0, none⟩)] #[]] w fun e w' => RsP w g q m K most bs e w' := by
 have hmf : ∀ (fn : Fn) (first cap : Array Value) (w : World), (Instr.makeFunc fn first cap).run Tryz.prog w = .ok (.func fn first cap) w := fun _ _ _ _ => rfl
 have hg := h.glt
 have HSZ := Hn (And.intro hS (And.intro hsg ((Array.getElem?_eq_some_iff.1 hS).1)))
 obtain ⟨P, c, h1, h2⟩ := h
 have b1 := bl_alloc w (.cells #[.int .i64 (most : Int)] 3)
 have b2 := bl_trans b1 (bl_alloc (w.alloc (.cells #[.int .i64 (most : Int)] 3)) (.cells #[.func (.func 45) #[.pointer (some ⟨sb, 0, none⟩)] #[]] 85))
 have hY : ((w.alloc (.cells #[.int .i64 (most : Int)] 3)).alloc (.cells #[.func (.func 45) #[.pointer (some ⟨sb, 0, none⟩)] #[]] 85)).cell? ⟨w.heap.size, 0, none⟩ = some (.int .i64 (most : Int)) := cell_keep (Tr.box_cell w _ _) (bl_alloc _ _)
 have hX : ((w.alloc (.cells #[.int .i64 (most : Int)] 3)).alloc (.cells #[.func (.func 45) #[.pointer (some ⟨sb, 0, none⟩)] #[]] 85)).cell? ⟨w.heap.size + 1, 0, none⟩ = some (.func (.func 45) #[.pointer (some ⟨sb, 0, none⟩)] #[]) := by rw [show w.heap.size + 1 = (w.alloc (.cells #[.int .i64 (most : Int)] 3)).heap.size by simp]; exact Tr.box_cell (w.alloc (.cells #[.int .i64 (most : Int)] 3)) (.func (.func 45) #[.pointer (some ⟨sb, 0, none⟩)] #[]) 85
 have RI := Hn (Tr.readI_bL sb most (h1.keep b2) (by omega) hX hY hm)
 have HX := Hn hX
 have KB := Hn (Tr.Kp.of (g := g) b2)
 have QB : Hid (∀ a, P = some a → a.block = q) := Hn h2
 have GQ : Hid (g < w.heap.size ∧ q < w.heap.size) := Hn ⟨hg, hq⟩
 have SZ : Hid (((w.alloc (.cells #[.int .i64 (most : Int)] 3)).alloc (.cells #[.func (.func 45) #[.pointer (some ⟨sb, 0, none⟩)] #[]] 85)).heap.size = w.heap.size + 2) := Hn (by simp)
 have CM := Hn (Tr.ct_most bs most)
 have CF := Hn (Tr.ct_fault bs most)
 have LM := Hn (show most ≤ 1048576 ∧ bs.length ≤ 2 ^ 40 from ⟨hm, hl⟩)
 have HT := Hn (And.intro hT htb)
 obtain ⟨x, hx⟩ : ∃ x, Tr.ct bs most = x := ⟨_, rfl⟩
 have PC : Hid (pC most bs = if x.2.2 = 0 then some (x.1, bs.drop x.2.1) else none) := Hn (by unfold pC; rw [hx])
 rw [hx] at RI CM CF
 clear h1 h2 hg hq hl hm b1 b2 hX hY hx hT htb hS hsg
 go_enter Tryz.func44, Tryz.ntmps44
 go_upto_region 3 with (first | (go_at_call 69; refine RI.out.mono ?_; rintro r w3 ⟨P', c', rfl, hr, hk, hp⟩; have R3 : Hid (Rb w3 g q (bs.drop x.2.1) (x.2.2 : Int)) := Hn ⟨P', c', hr, fun a ha => by (obtain ⟨a0, e0, e1⟩ := hp a ha; rw [e1]; exact QB.out a0 e0)⟩; have K3 := Hn (KB.out.trans hk); have H3 : Hid (w3.cell? ⟨w.heap.size + 1, 0, none⟩ = some (.func (.func 45) #[.pointer (some ⟨sb, 0, none⟩)] #[]) ∧ w.heap.size + 2 ≤ w3.heap.size) := Hn ⟨by (rw [World.cell?, hk.block (w.heap.size + 1) (by rw [SZ.out]; omega) (by have := GQ.out; omega)]; exact HX.out), by (have := hk.size; rw [SZ.out] at this; exact this)⟩; clear RI hr hk hp HX KB QB SZ))
 obtain ⟨S, hS⟩ : ∃ S, w.heap.size = S := ⟨_, rfl⟩
 have ES := Hn hS
 rw [hS] at H3 ⊢
 clear hS
 obtain ⟨n, s, er⟩ := x
 dsimp only at *
 obtain ⟨b1, hbs⟩ : ∃ b1, bs.drop s = b1 := ⟨_, rfl⟩
 rw [hbs] at R3 PC
 have LB : Hid (b1.length ≤ 2 ^ 40) := Hn (by rw [← hbs, List.length_drop]; have := LM.out; omega)
 clear hbs
 have nn0 : (0 : Int) ≤ (n : Int) := by omega
 by_cases he : er = 0
 case neg =>
  have hn := (CF.out he).1
  subst hn
  have PX : Hid (RsP w g q m K most bs (.returned (.slice none 0 0)) w3) := Hn (.inr ⟨by unfold pL; rw [PC.out, if_neg he], rfl, b1, (er : Int), by omega, R3.out, K3.out⟩)
  go_wp2_with fail
  go_loopw [8, 13] (fun v kv w' => v = .slice none 0 0 ∧ kv = .int .i64 0 ∧ Hid (w' = w3)) (fun _ _ _ => 0)
  case atStart => exact ⟨rfl, rfl, Hn rfl⟩
  case round =>
   obtain ⟨rfl, rfl, hk⟩ := hrel
   go_wp2_with fail
   go_ret
   rw [hk.out]
   exact PX.out
 subst he
 replace PC : Hid (pL (pX m K) most bs = pR (pX m K) n b1) := Hn (by unfold pL; rw [PC.out, if_pos rfl])
 go_wp2_with fail
 go_loopw [8, 13] (fun v kv w' => ∃ i : Nat, i ≤ n ∧ kv = .int .i64 (i : Int) ∧ Hid (∃ Q vs r, Lt2 w w3 g q S sb m K b1 i Q vs r v w')) (fun _ k _ => n - (intOf k).toNat)
 case atStart => exact ⟨0, by omega, rfl, Hn ⟨[], [], b1, rfl, World.ownsRow_nil _ _ _ _, fun j X hX => (by simp at hX), R3.out, K3.out, H3.out.1, Nat.le_refl _⟩⟩
 case round =>
  clear R3 K3
  obtain ⟨i, hi, rfl, hR⟩ := hrel
  obtain ⟨Q, vs, rr, hL⟩ := hR.out
  have LL := Hn hL
  have cX := hL.c
  have XL : Hid (Q.length = i ∧ vs.length = i) := Hn ⟨(pR_some (f := xsB) (ok := okX m K) (fun _ _ _ h => pX_some h) i b1 Q rr hL.p).2.1, by have := hL.o.1; omega⟩
  have RL : Hid (rr.length ≤ 2 ^ 40) := Hn (Nat.le_trans (pR_len (fun bs x r h => by obtain ⟨e1, _⟩ := pX_some h; rw [e1, List.length_append]; omega) i b1 Q rr hL.p) LB.out)
  clear hL hR
  by_cases hin : i < n
  ·have i0 : (0 : Int) ≤ (i : Int) := by omega
   have i1 : (i : Int) < (n : Int) := by omega
   have w9 : IntKind.i64.wrap ((i : Int) + 1) = (i : Int) + 1 := IntWalk.i64_in _ (by have := CM.out; have := LM.out; omega)
   have GG : Hid (g < w3.heap.size ∧ q < w3.heap.size ∧ S + 1 < w3.heap.size ∧ g ≠ S + 1 ∧ w.heap.size ≤ w3.heap.size ∧ g < w.heap.size) := Hn (by have := GQ.out; have := H3.out.2; have := ES.out; omega)
   have V1 := Hn (show ∀ k, u8.ownBlock = some k → w3.heap.size ≤ k from fun k hk => (LL.out.o.lt k hk).1)
   have RQ := readReq_any rr wr g q sb m K (HT.out.1.kp LL.out.k HT.out.2) HT.out.2 LL.out.r (HSZ.out.1.kp LL.out.k HSZ.out.2.1) HSZ.out.2.1 (by have := GG.out; have := LL.out.s; omega) RL.out
   have BN : Hid (i + 1 ≤ maxLen ∧ (i + 1) * 24 ≤ 140737488355328) := Hn (by have := CM.out; have := LM.out; unfold maxLen; omega)
   have HI : Hid ((Tryz.prog.info? 24) = some (Tryz.prog.info? 24).get!) := Hn (by kernel_rfl)
   have HZ0 : Hid ((Tryz.prog.info? 24).get!.zero = some (.slice none 0 0)) := Hn (by kernel_rfl)
   have HZ1 : Hid ((Tryz.prog.info? 24).get!.size = 1) := Hn (by kernel_rfl)
   have HZ2 : Hid ((Tryz.prog.info? 24).get!.bytes = 24) := Hn (by kernel_rfl)
   have T1 : Hid (Tryz.prog.underlying 70 = some (.slice 24)) := Hn (by kernel_rfl)
   cases hp : pX m K rr with
   | some y =>
    obtain ⟨X, r2⟩ := y
    have ON : Hid (Calls Tryz.prog 45 #[.pointer (some ⟨sb, 0, none⟩), .pointer (some ⟨g, 0, none⟩)] wr fun e w' => ∃ P c, e = .returned (.slice P X.length c) ∧ w'.ownsRow wr.heap.size 77 6 (.slice P X.length c) X.length (tls X) ∧ Rb w' g q r2 0 ∧ Kp g wr w') := Hn (RQ.mono fun e w' h => by rcases h with ⟨X', b, V, h1, h2, h3, h4, h5⟩ | ⟨h1, _⟩; rw [hp] at h1; simp only [Option.some.injEq, Prod.mk.injEq] at h1; obtain ⟨rfl, rfl⟩ := h1; obtain ⟨P, c, hV, _, _⟩ := own_shT h3; subst hV; exact ⟨P, c, h2, h3, h4, h5⟩; rw [hp] at h1; cases h1)
    have PS : Hid (pR (pX m K) (i + 1) b1 = some (Q ++ [X], r2)) := Hn (by rw [pR, LL.out.p]; simp only; rw [hp])
    generalize hxl : X.length = nx at ON
    have XN := Hn hxl
    clear RQ hp hxl
    go_upto_region 6 with (first | (go_at_call 45; refine ON.out.mono ?_; rintro r w4 ⟨Pv, cv, rfl, ho, hr, hk⟩; have O4 := Hn (hk.own LL.out.o (fun e => by (have := V1.out g e; have := GG.out; omega))); have L4 := Hn ((LL.out.ls.kp hk (by have := GG.out; omega))); have N4 := Hn (own_monoT ho (by have := LL.out.s; have := GG.out; omega)); have R4 := Hn hr; have K4 := Hn (LL.out.k.trans hk); have C4 : Hid (w4.cell? ⟨S + 1, 0, none⟩ = some (.func (.func 45) #[.pointer (some ⟨sb, 0, none⟩)] #[]) ∧ w3.heap.size ≤ w4.heap.size) := Hn ⟨by (rw [World.cell?, hk.block (S + 1) (by have := GG.out; have := LL.out.s; omega) (by have := GG.out; omega)]; exact LL.out.c), Nat.le_trans LL.out.s hk.size⟩; clear hr hk ON cX) | (at_builtin; have q1 := own_keepT O4.out (bl_alloc w4 (.cells #[.slice Pv nx cv] 24)); have q2 := cells_newT w4 [.slice Pv nx cv] 24; have q3 : ∀ u ∈ ([.slice Pv nx cv] : List Value), u.oneCell' = true := (by simp [Value.oneCell']); have q6 : w3.heap.size ≤ (w4.alloc (.cells #[.slice Pv nx cv] 24)).heap.size := (by have := C4.out.2; simp; omega); refine wpList_append_own_at _ rfl _ _ 70 rfl w3.heap.size 24 _ _ 1 24 T1.out HI.out HZ0.out HZ1.out HZ2.out rfl (by decide) _ i vs rfl q1 ⟨w4.heap.size, 0, none⟩ 1 1 [.slice Pv nx cv] rfl rfl q2 q3 BN.out.1 BN.out.2 q6 ?_; intro v5 w6 ho5 hg _ _; have O6 := Hn ho5; have L6 := Hn ((L4.out.keep (bl_alloc w4 (.cells #[.slice Pv nx cv] 24))).gr q1 hg); have N6 := Hn (own_grL (own_keepT N4.out (bl_alloc w4 (.cells #[.slice Pv nx cv] 24))) q1 (by decide) hg); have R6 := Hn (rb_grown (R4.out.keep (bl_alloc w4 (.cells #[.slice Pv nx cv] 24))) hg V1.out (by have := GG.out; omega) (by have := GG.out; omega)); have K6 := Hn (kp_grown (K4.out.trans (Tr.Kp.of (bl_alloc w4 (.cells #[.slice Pv nx cv] 24)))) hg V1.out (by have := GG.out; omega)); have C6 : Hid (w6.cell? ⟨S + 1, 0, none⟩ = some (.func (.func 45) #[.pointer (some ⟨sb, 0, none⟩)] #[]) ∧ w3.heap.size ≤ w6.heap.size) := Hn ⟨hg.cell (cell_keep C4.out.1 (bl_alloc w4 (.cells #[.slice Pv nx cv] 24))) (fun e => by have := V1.out (S + 1) e.symm; have := GG.out; omega), Nat.le_trans q6 hg.size⟩; clear ho5 hg q1 q2 q3 q6 O4 R4 K4 C4 L4))
    clear HI HZ0 HZ1 HZ2 T1
    have ER := Hn (rb_err R6.out)
    go_wp2_with (first | (go_at_call 72; refine ER.out.mono ?_; rintro r w7 ⟨rfl, hw7⟩; rw [hw7]; clear hw7 w7 ER))
    have PN : Hid (∃ Q vs r, Lt2 w w3 g q S sb m K b1 (i + 1) Q vs r v5 w6) := Hn ⟨_, _, _, PS.out, O6.out, L6.out.snoc (by have := XL.out; omega) (by rw [XN.out]; exact own_monoT N6.out GG.out.2.2.2.2.1), R6.out, K6.out, C6.out.1, C6.out.2⟩
    clear O6 R6 K6 C6 PS BN XL RL V1 N6 L6 LL XN
    go_roundw
    case rel => exact ⟨i + 1, by omega, by go_num, PN⟩
    case measure => simp [intOf]; omega
   | none =>
    have ON : Hid (Calls Tryz.prog 45 #[.pointer (some ⟨sb, 0, none⟩), .pointer (some ⟨g, 0, none⟩)] wr fun e w' => ∃ P n c b e2, e = .returned (.slice P n c) ∧ e2 ≠ 0 ∧ Rb w' g q b e2 ∧ Kp g wr w') := Hn (RQ.mono fun e w' h => by rcases h with ⟨X', b, V, h1, h2, h3, h4, h5⟩ | ⟨_, h⟩; rw [hp] at h1; cases h1; exact h)
    have PN : Hid (pL (pX m K) most bs = none) := Hn (by rw [PC.out]; exact pR_none (n := i + 1) (by rw [pR, LL.out.p]; simp only; rw [hp]) hin)
    clear RQ hp
    go_upto_region 6 with (first | (go_at_call 45; refine ON.out.mono ?_; rintro r w4 ⟨Pv, nv, cv, b2, e2, rfl, he2, hr, hk⟩; have EN := Hn he2; clear he2; have O4 := Hn (hk.own LL.out.o (fun e => by (have := V1.out g e; have := GG.out; omega))); have L4 := Hn ((LL.out.ls.kp hk (by have := GG.out; omega))); have R4 := Hn hr; have K4 := Hn (LL.out.k.trans hk); have C4 : Hid (w4.cell? ⟨S + 1, 0, none⟩ = some (.func (.func 45) #[.pointer (some ⟨sb, 0, none⟩)] #[]) ∧ w3.heap.size ≤ w4.heap.size) := Hn ⟨by (rw [World.cell?, hk.block (S + 1) (by have := GG.out; have := LL.out.s; omega) (by have := GG.out; omega)]; exact LL.out.c), Nat.le_trans LL.out.s hk.size⟩; clear hr hk ON cX) | (at_builtin; have q1 := own_keepT O4.out (bl_alloc w4 (.cells #[.slice Pv nv cv] 24)); have q2 := cells_newT w4 [.slice Pv nv cv] 24; have q3 : ∀ u ∈ ([.slice Pv nv cv] : List Value), u.oneCell' = true := (by simp [Value.oneCell']); have q6 : w3.heap.size ≤ (w4.alloc (.cells #[.slice Pv nv cv] 24)).heap.size := (by have := C4.out.2; simp; omega); refine wpList_append_own_at _ rfl _ _ 70 rfl w3.heap.size 24 _ _ 1 24 T1.out HI.out HZ0.out HZ1.out HZ2.out rfl (by decide) _ i vs rfl q1 ⟨w4.heap.size, 0, none⟩ 1 1 [.slice Pv nv cv] rfl rfl q2 q3 BN.out.1 BN.out.2 q6 ?_; intro v5 w6 ho5 hg _ _; have O6 := Hn ho5; have L6 := Hn ((L4.out.keep (bl_alloc w4 (.cells #[.slice Pv nv cv] 24))).gr q1 hg); have R6 := Hn (rb_grown (R4.out.keep (bl_alloc w4 (.cells #[.slice Pv nv cv] 24))) hg V1.out (by have := GG.out; omega) (by have := GG.out; omega)); have K6 := Hn (kp_grown (K4.out.trans (Tr.Kp.of (bl_alloc w4 (.cells #[.slice Pv nv cv] 24)))) hg V1.out (by have := GG.out; omega)); have C6 : Hid (w6.cell? ⟨S + 1, 0, none⟩ = some (.func (.func 45) #[.pointer (some ⟨sb, 0, none⟩)] #[]) ∧ w3.heap.size ≤ w6.heap.size) := Hn ⟨hg.cell (cell_keep C4.out.1 (bl_alloc w4 (.cells #[.slice Pv nv cv] 24))) (fun e => by have := V1.out (S + 1) e.symm; have := GG.out; omega), Nat.le_trans q6 hg.size⟩; clear ho5 hg q1 q2 q3 q6 O4 R4 K4 C4 L4))
    clear LL HI HZ0 HZ1 HZ2 T1
    have he3 : (e2 != 0) = true := by simpa using EN.out
    have ER := Hn (rb_err R6.out)
    go_wp2_with (first | (go_at_call 72; refine ER.out.mono ?_; rintro r w7 ⟨rfl, hw7⟩; rw [hw7]; clear hw7 w7 ER))
    go_ret
    exact .inr ⟨PN.out, rfl, b2, e2, EN.out, R6.out, K6.out⟩
  ·obtain rfl : i = n := by omega
   have lq : ¬ (i : Int) < (i : Int) := by omega
   clear cX
   go_wp2_with fail
   refine bodyPost_ret (v := u8) (by simp [results, Tryz.results44, go_sem]) rfl (.inl ⟨Q, rr, u8, vs, by rw [PC.out]; exact LL.out.p, rfl, ?_, LL.out.ls, LL.out.r, LL.out.k⟩)
   rw [XL.out.1]
   exact own_monoT LL.out.o (by have := H3.out.2; have := ES.out; omega)
end Ci
end Go.Proofs.YthngomhhafoamaaGreatDoor
