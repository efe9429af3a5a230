import Derived.Test.YtljmgfclhbadjaaGreatDoorTk
import Derived.Test.YtljmgfclhbadjaaGreatDoorDno
namespace Go.Proofs.YtljmgfclhbadjaaGreatDoor
open Go.RowKit
set_option linter.unusedVariables false
set_option linter.unusedSimpArgs false
open Cm (Wr Tm co bf Ls lf ins Eqm)
namespace Ci
set_option maxRecDepth 100000
set_option maxHeartbeats 16000000
theorem wk_0 : Wk 0 0 (enl 0) := by
 have e : enl 0 = [] := rfl
 rw [e]
 exact ⟨fun X hX => (by cases hX), fun X hX => (by cases hX), by simp, by omega, ⟨[], by rw [e]; rfl⟩, by omega⟩
def BnP (x : World) (e : Ending) (w' : World) : Prop := ∃ S d q b, e = .returned (.tuple #[.pointer (some ⟨d, 0, none⟩), .int .i64 0]) ∧ Ds S d 0 pz0 q b w' ∧ Below x.heap.size x w' ∧ ∀ k, S k → x.heap.size ≤ k
theorem Known_none (x : World) (hT : Tb x) : Calls Tryz.prog 30 #[.slice none 0 0] x fun e w' => BnP x e w' := by
 refine (Known_any ⟨none, 0, 0, fun _ => ⟨0, 0, 0, 0⟩⟩ (show 0 ≤ 16 by omega) wk_0 x ⟨⟨0, 0, fun h => absurd h (Nat.lt_irrefl 0), fun h => absurd h (Nat.lt_irrefl 0)⟩, fun k hk => absurd hk (Nat.not_lt_zero _)⟩ hT).mono (fun e w' k => ?_)
 obtain ⟨S, d, q, b, vv, vs, R, rfl, hz, hb, hS, hn, hg, hv⟩ := k
 have tl := World.block_lt_of_cell? x _ hT.1
 have rows : ∀ u ∈ vs, ∀ k, u.ownBlock = some k → k < w'.heap.size ∧ x.heap.size ≤ k := fun u hu k hk => by
  obtain ⟨n, xs, a2⟩ := hz.sy.us u hu
  exact ⟨(a2.lt k hk).2, hv u hu k hk⟩
 refine ⟨fun k => S k ∨ ∃ u ∈ vs, u.ownBlock = some k, d, q, b, rfl, ⟨⟨vv, vs, R, hz.more (fun k h => .inl h) (fun k h => ?_) (fun h => ?_), fun j hj => ⟨hn j hj, fun k hk => ?_⟩, fun u hu k hk => .inr ⟨u, hu, hk⟩⟩, fun j hj => rfl, rfl, by omega⟩, hb, fun k h => ?_⟩
 ·rcases h with h | ⟨u, hu, h⟩
  ·exact hz.ob.lt k h
  ·exact (rows u hu k h).1
 ·rcases h with h | ⟨u, hu, h⟩
  ·exact hz.tq.2 h
  ·have := (rows u hu _ h).2
   simp only at tl
   omega
 ·rw [hn j hj] at hk
  exact absurd hk (Nat.not_lt_zero _)
 ·rcases h with h | ⟨u, hu, h⟩
  ·exact hS k h
  ·exact (rows u hu k h).2
def ShfP (t : Bool) (x : World) (e : Ending) (w' : World) : Prop := e = .returned (.tuple #[.bool t, .bool true]) ∧ Below x.heap.size x w'
theorem shuffled_walk (a b : Sl) (x : World) (ha : a.at x) (hb : b.at x) (hT : Tb x) (hn : a.n ≤ 40) (he : b.n = a.n) (r : E4) (hr : r.ok) (c : Int) (hc : hoE (rG (pShN a.n r a.g b.g).G 0) (rG (pShN a.n r a.g b.g).G 1) (rG (pShN a.n r a.g b.g).G 2) (rG (pShN a.n r a.g b.g).G 3) 0 (pShN a.n r a.g b.g).K (pShN a.n r a.g b.g).Q = c) :
  Calls Tryz.prog 12 #[.slice a.p a.n a.c, .slice b.p b.n b.c, .agg #[.int .u64 r.x0, .int .u64 r.x1, .int .u64 r.x2, .int .u64 r.x3]] x fun e w' => ShfP (c == 0) x e w' := by
 obtain ⟨Pa, na, ca, ga⟩ := a
 obtain ⟨Pb, nb, cb, gb⟩ := b
 simp only at hn he hc
 subst he
 have BL := bl_alloc x (.cells #[.int .u64 r.x0, .int .u64 r.x1, .int .u64 r.x2, .int .u64 r.x3] 26)
 have HB := Hn (heap_alloc_new x (.cells #[.int .u64 r.x0, .int .u64 r.x1, .int .u64 r.x2, .int .u64 r.x3] 26))
 have C0 := Hn (Known_none _ (hT.keep BL))
 have B0 := Hn BL
 have HA := Hn (And.intro ha (And.intro hb (And.intro hn (And.intro hr hc))))
 generalize hp : pShN nb r ga gb = p2 at *
 have HP := Hn hp
 clear BL hT ha hb hn hr hc hp
 go_enter Tryz.func12, Tryz.ntmps12
 go_upto_region 4 with (go_at_call 30; refine C0.out.mono ?_; rintro e w1 ⟨S0, d, q, b, rfl, d0, hb, hS⟩; have D0 := Hn d0; have B1 := Hn (And.intro hb hS); clear d0 hb hS C0)
 have KB : ∀ k v, (#[.int .u64 r.x0, .int .u64 r.x1, .int .u64 r.x2, .int .u64 r.x3] : Array Value)[k]? = some v → w1.cell? ⟨x.heap.size, k, none⟩ = some v := fun k v hv => cell_keep (by rw [cell_of_row _ _ k _ _ (0, 0) HB.out]; exact hv) B1.out.1
 have NX : Hid (¬ S0 x.heap.size) := Hn (fun e => by have h9 := B1.out.2 _ e; simp at h9; omega)
 have BX := Hn (bl_trans B0.out B1.out.1)
 refine sf4 _ S0 d x.heap.size nb ca nb cb Pa Pb ga gb r p2 _ _ _ _ _ _ _ _ _ _ _ _ _ _ _ _ _ _ _ _ _ _ _ _ _ _ _ _ _ _ _ _ _ _ _ _ _ _ _ _ _ _ _ _ _ _ _ _ _ _ w1 (KB 0 _ rfl) (KB 1 _ rfl) (KB 2 _ rfl) (KB 3 _ rfl) NX (Hn (fun y hy => numbersA_any ⟨Pa, nb, ca, ga⟩ y (HA.out.1.keep (bl_trans BX.out hy)) (D0.out.keep hy).tb HA.out.2.2.1)) (Hn (fun y hy => numbersA_any ⟨Pb, nb, cb, gb⟩ y (HA.out.2.1.keep (bl_trans BX.out hy)) (D0.out.keep hy).tb HA.out.2.2.1)) (Hn (fun y v2 V2 v4 V4 hb h1 h2 => by rw [← HP.out]; exact shufD (D0.out.keep hb) (fun i hi => D0.out.lt i hi) h1 h2 HA.out.2.2.1 r HA.out.2.2.2.1)) (Hn ?_)
 intro wz v2 v4 hE
 obtain ⟨S6, q6, b6, d6, g6, k6⟩ := hE
 have D6 := Hn d6
 have G6 := Hn g6
 have K6 := Hn k6
 clear d6 g6 k6 D0 HB NX KB
 have CA := Hn (dassignD D6.out)
 go_upto_region 7 with (go_at_call 16; refine CA.out.mono ?_; rintro e w9 ⟨R9, rfl, ha, hr, hb⟩; have A9 := Hn (And.intro ha hr); have B9 := Hn hb; clear ha hr hb CA)
 have BA := bl_alloc w9 (.cells #[.slice (R9 0).p (R9 0).n (R9 0).c, .slice (R9 1).p (R9 1).n (R9 1).c, .slice (R9 2).p (R9 2).n (R9 2).c, .slice (R9 3).p (R9 3).n (R9 3).c] 43)
 have HB := Hn (heap_alloc_new w9 (.cells #[.slice (R9 0).p (R9 0).n (R9 0).c, .slice (R9 1).p (R9 1).n (R9 1).c, .slice (R9 2).p (R9 2).n (R9 2).c, .slice (R9 3).p (R9 3).n (R9 3).c] 43))
 have BZ : Hid (Below wz.heap.size wz (w9.alloc (.cells #[.slice (R9 0).p (R9 0).n (R9 0).c, .slice (R9 1).p (R9 1).n (R9 1).c, .slice (R9 2).p (R9 2).n (R9 2).c, .slice (R9 3).p (R9 3).n (R9 3).c] 43))) := Hn (bl_trans B9.out BA)
 have AX := Hn (fun j hj => ((A9.out.2 j hj).keep BA))
 obtain ⟨xa, hxa⟩ : ∃ xa, w9.heap.size = xa := ⟨_, rfl⟩
 obtain ⟨x1, hx1⟩ : ∃ x1, w9.alloc (.cells #[.slice (R9 0).p (R9 0).n (R9 0).c, .slice (R9 1).p (R9 1).n (R9 1).c, .slice (R9 2).p (R9 2).n (R9 2).c, .slice (R9 3).p (R9 3).n (R9 3).c] 43) = x1 := ⟨_, rfl⟩
 rw [hx1] at HB BZ AX ⊢
 rw [hxa] at HB
 simp only [hxa]
 clear hx1 hxa BA B9
 have CS := Hn (dsystemD (D6.out.keep BZ.out))
 go_upto_region 8 with (go_at_call 14; refine CS.out.mono ?_; rintro e w8 ⟨q8, v8, vs8, rfl, sy8, hb⟩; have Y8 := Hn sy8; have B8 := Hn hb; clear sy8 hb CS)
 have HB8 := (B8.out.block xa (Array.getElem?_eq_some_iff.1 HB.out).1).trans HB.out
 have a0 := cell_of_row w8 xa 0 _ _ (0, 0) HB8
 have a1 := cell_of_row w8 xa 1 _ _ (0, 0) HB8
 have a2 := cell_of_row w8 xa 2 _ _ (0, 0) HB8
 have a3 := cell_of_row w8 xa 3 _ _ (0, 0) HB8
 have D8 := Hn (D6.out.keep (bl_trans BZ.out B8.out))
 have CH := Hn (holdsD Y8.out D8.out.tb D8.out.wk A9.out.1 (fun j hj => (AX.out j hj).keep B8.out) D8.out.ln c HA.out.2.2.2.2)
 clear HB8
 go_wp2_with (go_at_call 26; refine CH.out.mono ?_; rintro e w10 ⟨rfl, hb⟩; have B10 := Hn hb; clear hb CH)
 have gf := (((Gs.bl BX.out).trans G6.out Sk.refl).trans (Gs.bl (S := S6) (bl_trans (bl_trans BZ.out B8.out) B10.out)) (Sk.trans Sk.refl K6.out BX.out.size))
 exact bodyPost_ret (v := .tuple #[.bool (c == 0), .bool true]) (by simp [results, Tryz.results12, go_sem]) rfl ⟨rfl, gf.os, gf.tape, gf.output, gf.size, fun i hi => gf.block i hi (fun e => by have := B1.out.2 i e; have := B0.out.size; omega)⟩
end Ci
end Go.Proofs.YtljmgfclhbadjaaGreatDoor
