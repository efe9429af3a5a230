import Derived.Test.YtebmaneogekhjaaGreatDoorDlu
namespace Go.Proofs.YtebmaneogekhjaaGreatDoor
open Go.RowKit
set_option linter.unusedVariables false
set_option linter.unusedSimpArgs false
open Cm (Wr Tm co bf Ls lf ins Eqm)
namespace Ci
set_option maxRecDepth 100000
set_option maxHeartbeats 16000000
def lsX (X Y : List Tm) : Nat → List Tm := fun j => if j = 0 then X else if j = 1 then Y else sbX (sbX Y X) unX
def pLess (m : Nat) (p : Pz) (X Y : List Tm) (n : Nat) : Pz := pBits m p (lsX X Y) n 3
theorem less1_any {S : Nat → Prop} {d m q b : Nat} {p : Pz} {x : World} (h : Ds S d m p q b x) (bx bd bn lb n : Nat) (cx : x.cell? ⟨bx, 0, none⟩ = some (.func (.func 91) #[] #[.pointer (some ⟨bd, 0, none⟩), .pointer (some ⟨bn, 0, none⟩)])) (cd : x.cell? ⟨bd, 0, none⟩ = some (.pointer (some ⟨d, 0, none⟩))) (cn : x.cell? ⟨bn, 0, none⟩ = some (.int .i64 (n : Int))) (nx : ¬ S bx) (nd : ¬ S bd) (nn : ¬ S bn) (V : Nat → Value) (X : Nat → List Tm) (hL : Zm S x lb 2 V X) (hn : 1 ≤ n) (hn2 : n ≤ 251) (hq : p.Q.length + 3 * (2 * n + 1) ≤ 4096) (hK : p.K + 3 * n ≤ 1024) (hX : ∀ j, j < 2 → ∀ z ∈ X j, hs m p.K z.1 = true) (hx9 : ∀ j, j < 2 → (X j).length ≤ 40000) (hnz : ∀ i, i < n → ∀ K : Nat, (tmX (wtS i) [((2, (K : Int)), 1)]).length = 1) :
  Calls Tryz.prog 81 #[.slice (some ⟨lb, 0, none⟩) 2 2, .pointer (some ⟨bx, 0, none⟩)] x fun e w' => SpP S d m (pLess m p (X 0) (X 1) n) q b (3 * n) x e w' := by
 obtain ⟨P0, c0, hv0, -⟩ := (hL.el 0 (by omega)).2.1.sh
 obtain ⟨P1, c1, hv1, -⟩ := (hL.el 1 (by omega)).2.1.sh
 have e0 := (hL.el 0 (by omega)).1
 have e1 := (hL.el 1 (by omega)).1
 have z0 := (hL.el 0 (by omega)).2
 have z1 := (hL.el 1 (by omega)).2
 rw [hv0] at e0 z0
 rw [hv1] at e1 z1
 have HD := hidden h
 have ZZ := hidden (And.intro z0 z1)
 have CC := hidden (And.intro cx (And.intro cd cn))
 have NC := hidden (And.intro nx (And.intro nd nn))
 have HN := hidden (And.intro hn (And.intro hn2 (And.intro hq hK)))
 have X0 := hx9 0 (by omega)
 have X1 := hx9 1 (by omega)
 have l5 : (sbX (X 1) (X 0)).length ≤ 80000 := by have := sbX_len (X 1) (X 0); omega
 have l7 : (sbX (sbX (X 1) (X 0)) unX).length ≤ 90000 := by have := sbX_len (sbX (X 1) (X 0)) unX; have := unX_len; omega
 have HX := hidden (And.intro (hX 0 (by omega)) (And.intro (hX 1 (by omega)) (And.intro X0 (And.intro X1 (And.intro l5 l7)))))
 have HZ := hidden hnz
 clear h hL cx cd cn nx nd nn hn hn2 hq hK hX hx9 hnz z0 z1 hv0 hv1 X0 X1 l5 l7
 unfold pLess lsX
 generalize X 0 = A at *
 generalize X 1 = B at *
 have E0 := hidden e0
 have E1 := hidden e1
 clear e0 e1
 go_enter Tryz.func81, Tryz.ntmps81
 go_upto_region 1 with fail
 refine ls1 _ lb A.length c0 B.length c1 P0 P1 _ _ _ _ _ _ _ _ _ _ _ _ _ _ _ _ _ _ _ _ _ x E0.out E1.out (hidden ?_)
 intro wz hw
 have BW : Hid (Below x.heap.size x wz) := hidden (by rw [hw]; exact bl_drew _)
 have D1 := hidden (HD.out.keep BW.out)
 have Z1 := hidden (And.intro (ZZ.out.1.keep BW.out) (ZZ.out.2.keep BW.out))
 clear hw
 go_upto_region 2 with fail
 refine ls2 _ S d m q b bx bd bn (3 * n) A.length c0 B.length c1 P0 P1 (pBits m p (lsX A B) n 3) (sbX B A) (sbX (sbX B A) unX) _ _ _ _ _ _ _ _ _ _ _ _ _ _ _ _ _ _ _ wz (cell_keep CC.out.1 BW.out) (hidden NC.out.1) (hidden (fun y hb => (subR (D1.out.keep hb).tb (Z1.out.2.keep hb).1.r (Z1.out.1.keep hb).1.r).mono (fun e w' h => LvP.s h))) (hidden (fun y hb => (unit_any y (D1.out.keep hb).tb).mono (fun e w' h => LvP.s h))) (hidden (fun y P5 c5 P6 c6 hb h5 h6 => (subR (D1.out.keep hb).tb ⟨own_monoT h5.1 (Nat.zero_le _), by have := HX.out; omega⟩ ⟨own_monoT h6.1 (Nat.zero_le _), by have := unX_len; omega⟩).mono (fun e w' h => LvP.s h))) (hidden (fun y tb P7 c7 hb htb hrg h7 => ?_)) (hidden ?_)
 ·have d9 := D1.out.keep hb
  have hs9 : ∀ i, S i → i < wz.heap.size := D1.out.lt
  refine bits1_any d9 bd bn (cell_keep (cell_keep CC.out.2.1 BW.out) hb) n 3 tb (cell_keep (cell_keep CC.out.2.2 BW.out) hb) NC.out.2.1 NC.out.2.2 (fun j => if j = 0 then .slice P0 A.length c0 else if j = 1 then .slice P1 B.length c1 else .slice P7 (sbX (sbX B A) unX).length c7) (lsX A B) ⟨fun e => by have := hs9 _ e; omega, range_lt hrg, fun j hj => ?_⟩ HN.out.1 HN.out.2.1 (by omega) HN.out.2.2.1 HN.out.2.2.2 (fun j hj => ?_) (fun j hj => ?_) HZ.out 3
  ·have hj3 : j = 0 ∨ j = 1 ∨ j = 2 := by omega
   rcases hj3 with rfl | rfl | rfl
   ·exact ⟨hrg 0 _ rfl, Z1.out.1.keep hb⟩
   ·exact ⟨hrg 1 _ rfl, Z1.out.2.keep hb⟩
   ·exact ⟨hrg 2 _ rfl, Zo.zn h7 hs9 (Nat.le_trans HX.out.2.2.2.2.2 (by omega))⟩
  ·have hj3 : j = 0 ∨ j = 1 ∨ j = 2 := by omega
   rcases hj3 with rfl | rfl | rfl
   ·exact HX.out.1
   ·exact HX.out.2.1
   ·exact hs_sb (hs_sb HX.out.2.1 HX.out.1) hs_un
  ·have hj3 : j = 0 ∨ j = 1 ∨ j = 2 := by omega
   have hx := HX.out
   rcases hj3 with rfl | rfl | rfl
   ·show A.length ≤ 90000; omega
   ·show B.length ≤ 90000; omega
   ·exact hx.2.2.2.2.2
 ·intro w9 v9 P5 P6 P7 c5 c6 c7 tb hsp
  have SP := hidden (SpP.from BW.out hsp)
  clear hsp
  go_wp2_with fail
  exact bodyPost_ret (v := v9) (by simp [results, Tryz.results81, go_sem]) rfl SP.out
end Ci
end Go.Proofs.YtebmaneogekhjaaGreatDoor
