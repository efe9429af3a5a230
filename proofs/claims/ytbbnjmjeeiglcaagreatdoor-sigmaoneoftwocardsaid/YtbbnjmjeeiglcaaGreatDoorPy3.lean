import Derived.Test.YtbbnjmjeeiglcaaGreatDoorPy2
import Derived.Test.YtbbnjmjeeiglcaaGreatDoorProg
import Derived.WalkKit
import Derived.WalkSpells
import Derived.WalkLawsBesides
import Derived.Deep.DeepCutAuto
import Derived.Deep.DeepMust
import Derived.Deep.RegionHeld3
import Derived.Deep.RegionLaw
import Derived.Deep.MidRow
import Derived.Deep.OwnRows
import Derived.Laws.OwnMore
import Derived.Laws.AppendOwn
import Derived.Laws.AppendOwnNone
import Derived.Laws.IdiomStrings
import Derived.Laws.MakeOwn
import Derived.Maps.AppendAt
import Derived.OwnWalk
import Derived.Lib.AppendStr
import Derived.Lib.ConvBytes
import Derived.Lib.SlBytesConst
import Derived.Lib.SliceRun
set_option maxRecDepth 100000
set_option maxHeartbeats 32000000
set_option linter.unusedVariables false
set_option linter.unusedSimpArgs false
namespace Go.Proofs.YtbbnjmjeeiglcaaGreatDoor.Li
open Go.RowKit
def pl5o_0 : Oper := { dst := some 12, op := Op.load 39 (Operand.tmp 3), type := 39, pos := "msm.go:43", after := #[], guard := none }
def pl5o_1 : Oper := { dst := some 13, op := Op.makeInterface 39 (Operand.tmp 12), type := 20, pos := "msm.go:43", after := #[{ on := 0, ground := Ground.data }], guard := none }
def pl5o_2 : Oper := { dst := some 14, op := Op.fieldAddr 106 (Operand.tmp 5) 1, type := 0, pos := "msm.go:43", after := #[], guard := none }
def pl5o_3 : Oper := { dst := some 15, op := Op.load 39 (Operand.tmp 14), type := 39, pos := "msm.go:43", after := #[{ on := 2, ground := Ground.data }], guard := none }
def pl5o_4 : Oper := { dst := some 16, op := Op.makeInterface 39 (Operand.tmp 15), type := 20, pos := "msm.go:43", after := #[{ on := 3, ground := Ground.data }], guard := none }
def pl5o_5 : Oper := { dst := some 17, op := Op.fieldAddr 106 (Operand.tmp 5) 0, type := 0, pos := "msm.go:43", after := #[], guard := none }
def pl5o_6 : Oper := { dst := some 18, op := Op.load 26 (Operand.tmp 17), type := 26, pos := "msm.go:43", after := #[{ on := 5, ground := Ground.data }], guard := none }
def pl5o_7 : Oper := { dst := some 19, op := Op.call { callee := Callee.invoke (Operand.tmp 16) "Times", args := #[Operand.tmp 18], argTypes := #[26] }, type := 39, pos := "msm.go:43", after := #[{ on := 4, ground := Ground.data }, { on := 6, ground := Ground.data }], guard := none }
def pl5o_8 : Oper := { dst := some 20, op := Op.call { callee := Callee.invoke (Operand.tmp 13) "Add", args := #[Operand.tmp 19], argTypes := #[39] }, type := 39, pos := "msm.go:43", after := #[{ on := 1, ground := Ground.data }, { on := 7, ground := Ground.data }, { on := 7, ground := Ground.chain }], guard := none }
def pl5o_9 : Oper := { dst := none, op := Op.store 39 (Operand.tmp 3) (Operand.tmp 20), type := 0, pos := "msm.go:43", after := #[{ on := 8, ground := Ground.data }, { on := 8, ground := Ground.chain }, { on := 0, ground := Ground.phase }, { on := 1, ground := Ground.phase }, { on := 2, ground := Ground.phase }, { on := 3, ground := Ground.phase }, { on := 4, ground := Ground.phase }, { on := 5, ground := Ground.phase }, { on := 6, ground := Ground.phase }, { on := 7, ground := Ground.phase }, { on := 8, ground := Ground.phase }], guard := none }
def pl5o : Array Oper := #[pl5o_0, pl5o_1, pl5o_2, pl5o_3, pl5o_4, pl5o_5, pl5o_6, pl5o_7, pl5o_8, pl5o_9]
theorem pl5 (Q : Exit → Act → World → Prop) (T3 T5 : Nat) (z k p u r : E4) (u0 u1 u2 u4 u6 u7 u8 u9 u10 u11 u12 u13 u14 u15 u16 u17 u18 u19 u20 u21 u22 : Value) (W : World)
  (ne5 : T5 ≠ T3) (rg : W.rangeAt T3 0 [.int .u64 z.x0, .int .u64 z.x1, .int .u64 z.x2, .int .u64 z.x3]) (th : W.there T3 0 4) (ck0 : W.cell? ⟨T5, 0, none⟩ = some (.int .u64 k.x0)) (ck1 : W.cell? ⟨T5, 1, none⟩ = some (.int .u64 k.x1)) (ck2 : W.cell? ⟨T5, 2, none⟩ = some (.int .u64 k.x2)) (ck3 : W.cell? ⟨T5, 3, none⟩ = some (.int .u64 k.x3)) (cp0 : W.cell? ⟨T5, 4, none⟩ = some (.int .u64 p.x0)) (cp1 : W.cell? ⟨T5, 5, none⟩ = some (.int .u64 p.x1)) (cp2 : W.cell? ⟨T5, 6, none⟩ = some (.int .u64 p.x2)) (cp3 : W.cell? ⟨T5, 7, none⟩ = some (.int .u64 p.x3))
  (mt : ∀ (p : E4) (w : World), (method 362 39 (.agg #[.int .u64 p.x0, .int .u64 p.x1, .int .u64 p.x2, .int .u64 p.x3]) "Times").run Tryz.prog w = .ok (133, .agg #[.int .u64 p.x0, .int .u64 p.x1, .int .u64 p.x2, .int .u64 p.x3]) w)
  (ma : ∀ (p : E4) (w : World), (method 362 39 (.agg #[.int .u64 p.x0, .int .u64 p.x1, .int .u64 p.x2, .int .u64 p.x3]) "Add").run Tryz.prog w = .ok (128, .agg #[.int .u64 p.x0, .int .u64 p.x1, .int .u64 p.x2, .int .u64 p.x3]) w)
  (C7 : Hid (∀ x, W.grownBy x (some T3) → Calls Tryz.prog 133 #[.agg #[.int .u64 p.x0, .int .u64 p.x1, .int .u64 p.x2, .int .u64 p.x3], .agg #[.int .u64 k.x0, .int .u64 k.x1, .int .u64 k.x2, .int .u64 k.x3]] x fun e w' => e = .returned (.agg #[.int .u64 u.x0, .int .u64 u.x1, .int .u64 u.x2, .int .u64 u.x3]) ∧ Below x.heap.size x w'))
  (C8 : Hid (∀ x, W.grownBy x (some T3) → Calls Tryz.prog 128 #[.agg #[.int .u64 z.x0, .int .u64 z.x1, .int .u64 z.x2, .int .u64 z.x3], .agg #[.int .u64 u.x0, .int .u64 u.x1, .int .u64 u.x2, .int .u64 u.x3]] x fun e w' => e = .returned (.agg #[.int .u64 r.x0, .int .u64 r.x1, .int .u64 r.x2, .int .u64 r.x3]) ∧ Below x.heap.size x w'))
  (HQ : Hid (∀ (wz : World), (∃ wy, W.grownBy wy (some T3) ∧ wy.there T3 0 4 ∧ wz = wy.setCells T3 0 [.int .u64 r.x0, .int .u64 r.x1, .int .u64 r.x2, .int .u64 r.x3]) → Q .normal ⟨#[u0, u1, u2, .pointer (some ⟨T3, 0, none⟩), u4, .pointer (some ⟨T5, 0, none⟩), u6, u7, u8, u9, u10, u11, .agg #[.int .u64 z.x0, .int .u64 z.x1, .int .u64 z.x2, .int .u64 z.x3], .iface 39 (.agg #[.int .u64 z.x0, .int .u64 z.x1, .int .u64 z.x2, .int .u64 z.x3]), .pointer (some ⟨T5, 4, none⟩), .agg #[.int .u64 p.x0, .int .u64 p.x1, .int .u64 p.x2, .int .u64 p.x3], .iface 39 (.agg #[.int .u64 p.x0, .int .u64 p.x1, .int .u64 p.x2, .int .u64 p.x3]), .pointer (some ⟨T5, 0, none⟩), .agg #[.int .u64 k.x0, .int .u64 k.x1, .int .u64 k.x2, .int .u64 k.x3], .agg #[.int .u64 u.x0, .int .u64 u.x1, .int .u64 u.x2, .int .u64 u.x3], .agg #[.int .u64 r.x0, .int .u64 r.x1, .int .u64 r.x2, .int .u64 r.x3], u21, u22], []⟩ wz)) : (Code.region 5 pl5o true).wp Tryz.prog Q ⟨#[u0, u1, u2, .pointer (some ⟨T3, 0, none⟩), u4, .pointer (some ⟨T5, 0, none⟩), u6, u7, u8, u9, u10, u11, u12, u13, u14, u15, u16, u17, u18, u19, u20, u21, u22], []⟩ W := by
 have RG := hidden (range_bl rg (bl_drew W))
 have TH := hidden (there_bl th (bl_drew W))
 clear rg th
 unfold pl5o
 refine wp_region_noPanic ?_
 refine wp_region_held_drew (S := fun x => W.grownBy x (some T3)) (by kernel_rfl) (gbI (bl_drew W) _) (fun hH0 => ?_)
 refine tk 2 pl5o_2 (.pointer (some ⟨T5, 4, none⟩)) rfl (by kernel_rfl) hH0 rfl (fun w0 hSw => ?_) ?_
 ·(unfold pl5o_2; clear hSw; go_simp)
 simp only [pl5o_2, Act.put, sA, sB, sC]
 refine tk 5 pl5o_5 (.pointer (some ⟨T5, 0, none⟩)) rfl (by kernel_rfl) hH0 rfl (fun w0 hSw => ?_) ?_
 ·(unfold pl5o_5; clear hSw; go_simp)
 simp only [pl5o_5, Act.put, sA, sB, sC]
 refine tk 3 pl5o_3 (.agg #[.int .u64 p.x0, .int .u64 p.x1, .int .u64 p.x2, .int .u64 p.x3]) rfl (by kernel_rfl) hH0 rfl (fun w0 hSw => ?_) ?_
 ·(unfold pl5o_3; have hS : W.grownBy w0 (some T3) := hSw; have a0 := hS.cell cp0 (fun e => ne5 (Option.some.inj e)); have a1 := hS.cell cp1 (fun e => ne5 (Option.some.inj e)); have a2 := hS.cell cp2 (fun e => ne5 (Option.some.inj e)); have a3 := hS.cell cp3 (fun e => ne5 (Option.some.inj e)); clear hS hSw; go_simp)
 simp only [pl5o_3, Act.put, sA, sB, sC]
 refine tk 6 pl5o_6 (.agg #[.int .u64 k.x0, .int .u64 k.x1, .int .u64 k.x2, .int .u64 k.x3]) rfl (by kernel_rfl) hH0 rfl (fun w0 hSw => ?_) ?_
 ·(unfold pl5o_6; have hS : W.grownBy w0 (some T3) := hSw; have a0 := hS.cell ck0 (fun e => ne5 (Option.some.inj e)); have a1 := hS.cell ck1 (fun e => ne5 (Option.some.inj e)); have a2 := hS.cell ck2 (fun e => ne5 (Option.some.inj e)); have a3 := hS.cell ck3 (fun e => ne5 (Option.some.inj e)); clear hS hSw; go_simp)
 simp only [pl5o_6, Act.put, sA, sB, sC]
 refine tk 4 pl5o_4 (.iface 39 (.agg #[.int .u64 p.x0, .int .u64 p.x1, .int .u64 p.x2, .int .u64 p.x3])) rfl (by kernel_rfl) hH0 rfl (fun w0 hSw => ?_) ?_
 ·(unfold pl5o_4; clear hSw; go_simp)
 simp only [pl5o_4, Act.put, sA, sB, sC]
 refine wpAnyH_ready (rs := [0, 7]) (by kernel_rfl) (by simp) ?_
 refine AllReadyH.cons (o := pl5o_0) rfl (fun K hK => ?_) (AllReadyH.cons (o := pl5o_7) rfl (fun K hK => ?_) AllReadyH.nil)
 ·unfold pl5o_0
  have HH := hidden hH0
  clear hH0
  refine wp_load_mid 39 _ rfl T3 0 (by rfl) [.int .u64 z.x0, .int .u64 z.x1, .int .u64 z.x2, .int .u64 z.x3] _ RG.out Tryz.underlying39 rfl i4_L ?_
  simp only [Act.put, sA, sB, sC]
  have SN := HH
  clear HH
  refine hK.out _ _ SN.out (fun hH1 => ?_)
  clear hK K SN
  refine tk 1 pl5o_1 (.iface 39 (.agg #[.int .u64 z.x0, .int .u64 z.x1, .int .u64 z.x2, .int .u64 z.x3])) rfl (by kernel_rfl) hH1 rfl (fun w0 hSw => ?_) ?_
  ·(unfold pl5o_1; clear hSw; go_simp)
  simp only [pl5o_1, Act.put, sA, sB, sC]
  refine wpAnyH_ready (rs := [7]) (by kernel_rfl) (by simp) ?_
  refine AllReadyH.cons (o := pl5o_7) rfl (fun K hK => ?_) AllReadyH.nil
  unfold pl5o_7
  have HH := hidden hH1
  clear hH1
  go_simp
  refine (C7.out _ HH.out).mono ?_
  rintro e wn2 ⟨rfl, hb⟩
  replace RG := hidden (range_bl RG.out hb)
  replace TH := hidden (there_bl TH.out hb)
  have SN := hidden (HH.out.trans (gbI hb _))
  clear HH C7 hb
  go_wp2_with fail
  refine hK.out _ _ SN.out (fun hH2 => ?_)
  clear hK K SN
  refine wpAnyH_ready (rs := [8]) (by kernel_rfl) (by simp) ?_
  refine AllReadyH.cons (o := pl5o_8) rfl (fun K hK => ?_) AllReadyH.nil
  unfold pl5o_8
  have HH := hidden hH2
  clear hH2
  go_simp
  refine (C8.out _ HH.out).mono ?_
  rintro e wn3 ⟨rfl, hb⟩
  replace RG := hidden (range_bl RG.out hb)
  replace TH := hidden (there_bl TH.out hb)
  have SN := hidden (HH.out.trans (gbI hb _))
  clear HH C8 hb
  go_wp2_with fail
  refine hK.out _ _ SN.out (fun hH3 => ?_)
  clear hK K SN
  refine wpAnyH_ready (rs := [9]) (by kernel_rfl) (by simp) ?_
  refine AllReadyH.cons (o := pl5o_9) rfl (fun K hK => ?_) AllReadyH.nil
  unfold pl5o_9
  have HH := hidden hH3
  clear hH3
  refine wp_storeE 39 _ _ rfl T3 0 ([.int .u64 r.x0, .int .u64 r.x1, .int .u64 r.x2, .int .u64 r.x3]) (by rfl) (by rfl) TH.out i4_L (one4 r) rfl (fun wn4 hw => ?_)
  have SN := hidden (HH.out.trans (gb_setCells T3 [.int .u64 r.x0, .int .u64 r.x1, .int .u64 r.x2, .int .u64 r.x3] 0 _))
  have FE := hidden ((⟨_, HH.out, TH.out, hw⟩ : ∃ wy, W.grownBy wy (some T3) ∧ wy.there T3 0 4 ∧ _ = wy.setCells T3 0 [.int .u64 r.x0, .int .u64 r.x1, .int .u64 r.x2, .int .u64 r.x3]))
  rw [← hw] at SN
  clear HH hw
  refine hK.out _ _ SN.out (fun hH4 => ?_)
  clear hK K SN
  have HH := hidden hH4
  have FQ := hidden (HQ.out _ FE.out)
  refine wpAnyH_done (by kernel_rfl) ?_ _
  refine NoPanic.normal ?_
  exact FQ.out
 ·unfold pl5o_7
  have HH := hidden hH0
  clear hH0
  go_simp
  refine (C7.out _ HH.out).mono ?_
  rintro e wn1 ⟨rfl, hb⟩
  replace RG := hidden (range_bl RG.out hb)
  replace TH := hidden (there_bl TH.out hb)
  have SN := hidden (HH.out.trans (gbI hb _))
  clear HH C7 hb
  go_wp2_with fail
  refine hK.out _ _ SN.out (fun hH1 => ?_)
  clear hK K SN
  refine wpAnyH_ready (rs := [0]) (by kernel_rfl) (by simp) ?_
  refine AllReadyH.cons (o := pl5o_0) rfl (fun K hK => ?_) AllReadyH.nil
  unfold pl5o_0
  have HH := hidden hH1
  clear hH1
  refine wp_load_mid 39 _ rfl T3 0 (by rfl) [.int .u64 z.x0, .int .u64 z.x1, .int .u64 z.x2, .int .u64 z.x3] _ RG.out Tryz.underlying39 rfl i4_L ?_
  simp only [Act.put, sA, sB, sC]
  have SN := HH
  clear HH
  refine hK.out _ _ SN.out (fun hH2 => ?_)
  clear hK K SN
  refine tk 1 pl5o_1 (.iface 39 (.agg #[.int .u64 z.x0, .int .u64 z.x1, .int .u64 z.x2, .int .u64 z.x3])) rfl (by kernel_rfl) hH2 rfl (fun w0 hSw => ?_) ?_
  ·(unfold pl5o_1; clear hSw; go_simp)
  simp only [pl5o_1, Act.put, sA, sB, sC]
  refine wpAnyH_ready (rs := [8]) (by kernel_rfl) (by simp) ?_
  refine AllReadyH.cons (o := pl5o_8) rfl (fun K hK => ?_) AllReadyH.nil
  unfold pl5o_8
  have HH := hidden hH2
  clear hH2
  go_simp
  refine (C8.out _ HH.out).mono ?_
  rintro e wn3 ⟨rfl, hb⟩
  replace RG := hidden (range_bl RG.out hb)
  replace TH := hidden (there_bl TH.out hb)
  have SN := hidden (HH.out.trans (gbI hb _))
  clear HH C8 hb
  go_wp2_with fail
  refine hK.out _ _ SN.out (fun hH3 => ?_)
  clear hK K SN
  refine wpAnyH_ready (rs := [9]) (by kernel_rfl) (by simp) ?_
  refine AllReadyH.cons (o := pl5o_9) rfl (fun K hK => ?_) AllReadyH.nil
  unfold pl5o_9
  have HH := hidden hH3
  clear hH3
  refine wp_storeE 39 _ _ rfl T3 0 ([.int .u64 r.x0, .int .u64 r.x1, .int .u64 r.x2, .int .u64 r.x3]) (by rfl) (by rfl) TH.out i4_L (one4 r) rfl (fun wn4 hw => ?_)
  have SN := hidden (HH.out.trans (gb_setCells T3 [.int .u64 r.x0, .int .u64 r.x1, .int .u64 r.x2, .int .u64 r.x3] 0 _))
  have FE := hidden ((⟨_, HH.out, TH.out, hw⟩ : ∃ wy, W.grownBy wy (some T3) ∧ wy.there T3 0 4 ∧ _ = wy.setCells T3 0 [.int .u64 r.x0, .int .u64 r.x1, .int .u64 r.x2, .int .u64 r.x3]))
  rw [← hw] at SN
  clear HH hw
  refine hK.out _ _ SN.out (fun hH4 => ?_)
  clear hK K SN
  have HH := hidden hH4
  have FQ := hidden (HQ.out _ FE.out)
  refine wpAnyH_done (by kernel_rfl) ?_ _
  refine NoPanic.normal ?_
  exact FQ.out
theorem plain1 (L lo cap : Nat) (k p u r : E4) (w : World) (hT : Tb w) (hk : k.ok) (hp : p.ok) (hu : u = lst (p.n * k.n)) (hr : r = lst (zero4.n + u.n)) (ck : w.rangeAt L lo [.int .u64 k.x0, .int .u64 k.x1, .int .u64 k.x2, .int .u64 k.x3]) (cp : w.rangeAt L (lo + 4) [.int .u64 p.x0, .int .u64 p.x1, .int .u64 p.x2, .int .u64 p.x3]) :
  Calls Tryz.prog 54 #[.slice (some ⟨L, lo, none⟩) 1 cap] w fun e w' => e = .returned (.agg #[.int .u64 r.x0, .int .u64 r.x1, .int .u64 r.x2, .int .u64 r.x3]) ∧ Below w.heap.size w w' := by
 have B2 := bl_alloc2 w (.cells #[.int .u64 0, .int .u64 0, .int .u64 0, .int .u64 0] 39) (.cells #[.int .u64 0, .int .u64 0, .int .u64 0, .int .u64 0] 39)
 have a0 : ((w.alloc (.cells #[.int .u64 0, .int .u64 0, .int .u64 0, .int .u64 0] 39)).alloc (.cells #[.int .u64 0, .int .u64 0, .int .u64 0, .int .u64 0] 39)).cell? ⟨w.heap.size, 0, none⟩ = some (.int .u64 0) := by go_simp
 have z0 : ((w.alloc (.cells #[.int .u64 0, .int .u64 0, .int .u64 0, .int .u64 0] 39)).alloc (.cells #[.int .u64 0, .int .u64 0, .int .u64 0, .int .u64 0] 39)).frozen? ⟨w.heap.size, 0, none⟩ = false := by go_simp
 have b0 : ((w.alloc (.cells #[.int .u64 0, .int .u64 0, .int .u64 0, .int .u64 0] 39)).alloc (.cells #[.int .u64 0, .int .u64 0, .int .u64 0, .int .u64 0] 39)).cell? ⟨w.heap.size + 1, 0, none⟩ = some (.int .u64 0) := by go_simp
 have y0 : ((w.alloc (.cells #[.int .u64 0, .int .u64 0, .int .u64 0, .int .u64 0] 39)).alloc (.cells #[.int .u64 0, .int .u64 0, .int .u64 0, .int .u64 0] 39)).frozen? ⟨w.heap.size + 1, 0, none⟩ = false := by go_simp
 have a1 : ((w.alloc (.cells #[.int .u64 0, .int .u64 0, .int .u64 0, .int .u64 0] 39)).alloc (.cells #[.int .u64 0, .int .u64 0, .int .u64 0, .int .u64 0] 39)).cell? ⟨w.heap.size, 1, none⟩ = some (.int .u64 0) := by go_simp
 have z1 : ((w.alloc (.cells #[.int .u64 0, .int .u64 0, .int .u64 0, .int .u64 0] 39)).alloc (.cells #[.int .u64 0, .int .u64 0, .int .u64 0, .int .u64 0] 39)).frozen? ⟨w.heap.size, 1, none⟩ = false := by go_simp
 have b1 : ((w.alloc (.cells #[.int .u64 0, .int .u64 0, .int .u64 0, .int .u64 0] 39)).alloc (.cells #[.int .u64 0, .int .u64 0, .int .u64 0, .int .u64 0] 39)).cell? ⟨w.heap.size + 1, 1, none⟩ = some (.int .u64 0) := by go_simp
 have y1 : ((w.alloc (.cells #[.int .u64 0, .int .u64 0, .int .u64 0, .int .u64 0] 39)).alloc (.cells #[.int .u64 0, .int .u64 0, .int .u64 0, .int .u64 0] 39)).frozen? ⟨w.heap.size + 1, 1, none⟩ = false := by go_simp
 have a2 : ((w.alloc (.cells #[.int .u64 0, .int .u64 0, .int .u64 0, .int .u64 0] 39)).alloc (.cells #[.int .u64 0, .int .u64 0, .int .u64 0, .int .u64 0] 39)).cell? ⟨w.heap.size, 2, none⟩ = some (.int .u64 0) := by go_simp
 have z2 : ((w.alloc (.cells #[.int .u64 0, .int .u64 0, .int .u64 0, .int .u64 0] 39)).alloc (.cells #[.int .u64 0, .int .u64 0, .int .u64 0, .int .u64 0] 39)).frozen? ⟨w.heap.size, 2, none⟩ = false := by go_simp
 have b2 : ((w.alloc (.cells #[.int .u64 0, .int .u64 0, .int .u64 0, .int .u64 0] 39)).alloc (.cells #[.int .u64 0, .int .u64 0, .int .u64 0, .int .u64 0] 39)).cell? ⟨w.heap.size + 1, 2, none⟩ = some (.int .u64 0) := by go_simp
 have y2 : ((w.alloc (.cells #[.int .u64 0, .int .u64 0, .int .u64 0, .int .u64 0] 39)).alloc (.cells #[.int .u64 0, .int .u64 0, .int .u64 0, .int .u64 0] 39)).frozen? ⟨w.heap.size + 1, 2, none⟩ = false := by go_simp
 have a3 : ((w.alloc (.cells #[.int .u64 0, .int .u64 0, .int .u64 0, .int .u64 0] 39)).alloc (.cells #[.int .u64 0, .int .u64 0, .int .u64 0, .int .u64 0] 39)).cell? ⟨w.heap.size, 3, none⟩ = some (.int .u64 0) := by go_simp
 have z3 : ((w.alloc (.cells #[.int .u64 0, .int .u64 0, .int .u64 0, .int .u64 0] 39)).alloc (.cells #[.int .u64 0, .int .u64 0, .int .u64 0, .int .u64 0] 39)).frozen? ⟨w.heap.size, 3, none⟩ = false := by go_simp
 have b3 : ((w.alloc (.cells #[.int .u64 0, .int .u64 0, .int .u64 0, .int .u64 0] 39)).alloc (.cells #[.int .u64 0, .int .u64 0, .int .u64 0, .int .u64 0] 39)).cell? ⟨w.heap.size + 1, 3, none⟩ = some (.int .u64 0) := by go_simp
 have y3 : ((w.alloc (.cells #[.int .u64 0, .int .u64 0, .int .u64 0, .int .u64 0] 39)).alloc (.cells #[.int .u64 0, .int .u64 0, .int .u64 0, .int .u64 0] 39)).frozen? ⟨w.heap.size + 1, 3, none⟩ = false := by go_simp
 have SZ : Hid (((w.alloc (.cells #[.int .u64 0, .int .u64 0, .int .u64 0, .int .u64 0] 39)).alloc (.cells #[.int .u64 0, .int .u64 0, .int .u64 0, .int .u64 0] 39)).heap.size = w.heap.size + 1 + 1) := hidden (by simp only [World.size_alloc])
 have k0 : ((w.alloc (.cells #[.int .u64 0, .int .u64 0, .int .u64 0, .int .u64 0] 39)).alloc (.cells #[.int .u64 0, .int .u64 0, .int .u64 0, .int .u64 0] 39)).cell? ⟨L, lo, none⟩ = some (.int .u64 k.x0) := cell_keep (ck 0 _ rfl) B2
 have k1 : ((w.alloc (.cells #[.int .u64 0, .int .u64 0, .int .u64 0, .int .u64 0] 39)).alloc (.cells #[.int .u64 0, .int .u64 0, .int .u64 0, .int .u64 0] 39)).cell? ⟨L, lo + 1, none⟩ = some (.int .u64 k.x1) := cell_keep (ck 1 _ rfl) B2
 have k2 : ((w.alloc (.cells #[.int .u64 0, .int .u64 0, .int .u64 0, .int .u64 0] 39)).alloc (.cells #[.int .u64 0, .int .u64 0, .int .u64 0, .int .u64 0] 39)).cell? ⟨L, lo + 2, none⟩ = some (.int .u64 k.x2) := cell_keep (ck 2 _ rfl) B2
 have k3 : ((w.alloc (.cells #[.int .u64 0, .int .u64 0, .int .u64 0, .int .u64 0] 39)).alloc (.cells #[.int .u64 0, .int .u64 0, .int .u64 0, .int .u64 0] 39)).cell? ⟨L, lo + 3, none⟩ = some (.int .u64 k.x3) := cell_keep (ck 3 _ rfl) B2
 have p0 : ((w.alloc (.cells #[.int .u64 0, .int .u64 0, .int .u64 0, .int .u64 0] 39)).alloc (.cells #[.int .u64 0, .int .u64 0, .int .u64 0, .int .u64 0] 39)).cell? ⟨L, lo + 4, none⟩ = some (.int .u64 p.x0) := cell_keep (cp 0 _ rfl) B2
 have p1 : ((w.alloc (.cells #[.int .u64 0, .int .u64 0, .int .u64 0, .int .u64 0] 39)).alloc (.cells #[.int .u64 0, .int .u64 0, .int .u64 0, .int .u64 0] 39)).cell? ⟨L, lo + 5, none⟩ = some (.int .u64 p.x1) := cell_keep (cp 1 _ rfl) B2
 have p2 : ((w.alloc (.cells #[.int .u64 0, .int .u64 0, .int .u64 0, .int .u64 0] 39)).alloc (.cells #[.int .u64 0, .int .u64 0, .int .u64 0, .int .u64 0] 39)).cell? ⟨L, lo + 6, none⟩ = some (.int .u64 p.x2) := cell_keep (cp 2 _ rfl) B2
 have p3 : ((w.alloc (.cells #[.int .u64 0, .int .u64 0, .int .u64 0, .int .u64 0] 39)).alloc (.cells #[.int .u64 0, .int .u64 0, .int .u64 0, .int .u64 0] 39)).cell? ⟨L, lo + 7, none⟩ = some (.int .u64 p.x3) := cell_keep (cp 3 _ rfl) B2
 have RG : Hid (((w.alloc (.cells #[.int .u64 0, .int .u64 0, .int .u64 0, .int .u64 0] 39)).alloc (.cells #[.int .u64 0, .int .u64 0, .int .u64 0, .int .u64 0] 39)).rangeAt (w.heap.size + 1) 0 [.int .u64 (⟨0, 0, 0, 0⟩ : E4).x0, .int .u64 (⟨0, 0, 0, 0⟩ : E4).x1, .int .u64 (⟨0, 0, 0, 0⟩ : E4).x2, .int .u64 (⟨0, 0, 0, 0⟩ : E4).x3] ∧ ((w.alloc (.cells #[.int .u64 0, .int .u64 0, .int .u64 0, .int .u64 0] 39)).alloc (.cells #[.int .u64 0, .int .u64 0, .int .u64 0, .int .u64 0] 39)).there (w.heap.size + 1) 0 4) := hidden (by
  have q : ((w.alloc (.cells #[.int .u64 0, .int .u64 0, .int .u64 0, .int .u64 0] 39)).alloc (.cells #[.int .u64 0, .int .u64 0, .int .u64 0, .int .u64 0] 39)).rangeAt (w.heap.size + 1) 0 [.int .u64 (⟨0, 0, 0, 0⟩ : E4).x0, .int .u64 (⟨0, 0, 0, 0⟩ : E4).x1, .int .u64 (⟨0, 0, 0, 0⟩ : E4).x2, .int .u64 (⟨0, 0, 0, 0⟩ : E4).x3] := range4 (p := (⟨0, 0, 0, 0⟩ : E4)) b0 b1 b2 b3
  refine ⟨q, there4 q (fun j hj => ?_)⟩
  match j, hj with
  | 0, _ => exact y0
  | 1, _ => exact y1
  | 2, _ => exact y2
  | 3, _ => exact y3)
 have ZR : Hid (((w.alloc (.cells #[.int .u64 0, .int .u64 0, .int .u64 0, .int .u64 0] 39)).alloc (.cells #[.int .u64 0, .int .u64 0, .int .u64 0, .int .u64 0] 39)).rangeAt (w.heap.size) 0 [.int .u64 (⟨0, 0, 0, 0⟩ : E4).x0, .int .u64 (⟨0, 0, 0, 0⟩ : E4).x1, .int .u64 (⟨0, 0, 0, 0⟩ : E4).x2, .int .u64 (⟨0, 0, 0, 0⟩ : E4).x3] ∧ ((w.alloc (.cells #[.int .u64 0, .int .u64 0, .int .u64 0, .int .u64 0] 39)).alloc (.cells #[.int .u64 0, .int .u64 0, .int .u64 0, .int .u64 0] 39)).there (w.heap.size) 0 4) := hidden (by
  have q : ((w.alloc (.cells #[.int .u64 0, .int .u64 0, .int .u64 0, .int .u64 0] 39)).alloc (.cells #[.int .u64 0, .int .u64 0, .int .u64 0, .int .u64 0] 39)).rangeAt (w.heap.size) 0 [.int .u64 (⟨0, 0, 0, 0⟩ : E4).x0, .int .u64 (⟨0, 0, 0, 0⟩ : E4).x1, .int .u64 (⟨0, 0, 0, 0⟩ : E4).x2, .int .u64 (⟨0, 0, 0, 0⟩ : E4).x3] := range4 (p := (⟨0, 0, 0, 0⟩ : E4)) a0 a1 a2 a3
  refine ⟨q, there4 q (fun j hj => ?_)⟩
  match j, hj with
  | 0, _ => exact z0
  | 1, _ => exact z1
  | 2, _ => exact z2
  | 3, _ => exact z3)
 have HT := hidden hT
 have HO : Hid (k.ok ∧ p.ok ∧ u = lst (p.n * k.n) ∧ r = lst (zero4.n + u.n)) := hidden ⟨hk, hp, hu, hr⟩
 clear hT hk hp hu hr ck cp a0 a1 a2 a3 b0 b1 b2 b3 z0 z1 z2 z3 y0 y1 y2 y3
 go_enter Tryz.func54, Tryz.ntmps54
 go_upto_region 2 with fail
 generalize ((w.alloc (.cells #[.int .u64 0, .int .u64 0, .int .u64 0, .int .u64 0] 39)).alloc (.cells #[.int .u64 0, .int .u64 0, .int .u64 0, .int .u64 0] 39)) = w2 at *
 go_wp2_with fail
 go_loopw [8] (fun iv w' => ∃ i : Nat, (i = 0 ∧ w' = w2 ∨ i = 1 ∧ Hid (w'.rangeAt (w.heap.size + 1) 0 [.int .u64 r.x0, .int .u64 r.x1, .int .u64 r.x2, .int .u64 r.x3] ∧ w'.rangeAt (w.heap.size) 0 [.int .u64 (⟨0, 0, 0, 0⟩ : E4).x0, .int .u64 (⟨0, 0, 0, 0⟩ : E4).x1, .int .u64 (⟨0, 0, 0, 0⟩ : E4).x2, .int .u64 (⟨0, 0, 0, 0⟩ : E4).x3] ∧ w'.there (w.heap.size) 0 4 ∧ Below w.heap.size w w')) ∧ iv = .int .i64 i) (fun i _ => 1 - (intOf i).toNat)
 case atStart => exact ⟨0, .inl ⟨rfl, rfl⟩, rfl⟩
 case round =>
  obtain ⟨i, ⟨rfl, rfl⟩ | ⟨rfl, hP⟩, rfl⟩ := hrel
  ·have BN := bl_alloc wr (.cells #[.int .u64 k.x0, .int .u64 k.x1, .int .u64 k.x2, .int .u64 k.x3, .int .u64 p.x0, .int .u64 p.x1, .int .u64 p.x2, .int .u64 p.x3] 106)
   have g0 : (wr.alloc (.cells #[.int .u64 k.x0, .int .u64 k.x1, .int .u64 k.x2, .int .u64 k.x3, .int .u64 p.x0, .int .u64 p.x1, .int .u64 p.x2, .int .u64 p.x3] 106)).cell? ⟨wr.heap.size, 0, none⟩ = some (.int .u64 k.x0) := by go_simp
   have g1 : (wr.alloc (.cells #[.int .u64 k.x0, .int .u64 k.x1, .int .u64 k.x2, .int .u64 k.x3, .int .u64 p.x0, .int .u64 p.x1, .int .u64 p.x2, .int .u64 p.x3] 106)).cell? ⟨wr.heap.size, 1, none⟩ = some (.int .u64 k.x1) := by go_simp
   have g2 : (wr.alloc (.cells #[.int .u64 k.x0, .int .u64 k.x1, .int .u64 k.x2, .int .u64 k.x3, .int .u64 p.x0, .int .u64 p.x1, .int .u64 p.x2, .int .u64 p.x3] 106)).cell? ⟨wr.heap.size, 2, none⟩ = some (.int .u64 k.x2) := by go_simp
   have g3 : (wr.alloc (.cells #[.int .u64 k.x0, .int .u64 k.x1, .int .u64 k.x2, .int .u64 k.x3, .int .u64 p.x0, .int .u64 p.x1, .int .u64 p.x2, .int .u64 p.x3] 106)).cell? ⟨wr.heap.size, 3, none⟩ = some (.int .u64 k.x3) := by go_simp
   have g4 : (wr.alloc (.cells #[.int .u64 k.x0, .int .u64 k.x1, .int .u64 k.x2, .int .u64 k.x3, .int .u64 p.x0, .int .u64 p.x1, .int .u64 p.x2, .int .u64 p.x3] 106)).cell? ⟨wr.heap.size, 4, none⟩ = some (.int .u64 p.x0) := by go_simp
   have g5 : (wr.alloc (.cells #[.int .u64 k.x0, .int .u64 k.x1, .int .u64 k.x2, .int .u64 k.x3, .int .u64 p.x0, .int .u64 p.x1, .int .u64 p.x2, .int .u64 p.x3] 106)).cell? ⟨wr.heap.size, 5, none⟩ = some (.int .u64 p.x1) := by go_simp
   have g6 : (wr.alloc (.cells #[.int .u64 k.x0, .int .u64 k.x1, .int .u64 k.x2, .int .u64 k.x3, .int .u64 p.x0, .int .u64 p.x1, .int .u64 p.x2, .int .u64 p.x3] 106)).cell? ⟨wr.heap.size, 6, none⟩ = some (.int .u64 p.x2) := by go_simp
   have g7 : (wr.alloc (.cells #[.int .u64 k.x0, .int .u64 k.x1, .int .u64 k.x2, .int .u64 k.x3, .int .u64 p.x0, .int .u64 p.x1, .int .u64 p.x2, .int .u64 p.x3] 106)).cell? ⟨wr.heap.size, 7, none⟩ = some (.int .u64 p.x3) := by go_simp
   go_upto_region 5 with fail
   have SZ1 := SZ.out
   have RG2 := range_bl RG.out.1 BN
   have TH2 := there_bl RG.out.2 BN
   have SN2 : (wr.alloc (.cells #[.int .u64 k.x0, .int .u64 k.x1, .int .u64 k.x2, .int .u64 k.x3, .int .u64 p.x0, .int .u64 p.x1, .int .u64 p.x2, .int .u64 p.x3] 106)).heap.size = wr.heap.size + 1 := by simp only [World.size_alloc]
   have ZR2 := And.intro (range_bl ZR.out.1 BN) (there_bl ZR.out.2 BN)
   have B3 := bl_trans B2 BN
   generalize (wr.alloc (.cells #[.int .u64 k.x0, .int .u64 k.x1, .int .u64 k.x2, .int .u64 k.x3, .int .u64 p.x0, .int .u64 p.x1, .int .u64 p.x2, .int .u64 p.x3] 106)) = w3 at *
   have AL : ∀ x, w3.grownBy x (some (w.heap.size + 1)) → Below w.heap.size w x := fun x hx => B3.grown hx B3.size (fun j hj => by obtain rfl := Option.some.inj hj; omega)
   obtain ⟨hk, hp, hu, hr⟩ := HO.out
   have C7 := hidden (fun x (hx : w3.grownBy x (some (w.heap.size + 1))) => lTimes_any p k hp hk x (HT.out.keep (AL x hx)))
   have C8 := hidden (fun x (hx : w3.grownBy x (some (w.heap.size + 1))) => lAdd_any zero4 u z4ok (hu ▸ lst_ok _) x (HT.out.keep (AL x hx)))
   rw [← hu] at C7
   rw [← hr] at C8
   refine pl5 _ (w.heap.size + 1) wr.heap.size (⟨0, 0, 0, 0⟩ : E4) k p u r _ _ _ _ _ _ _ _ _ _ _ _ _ _ _ _ _ _ _ _ _ w3 (by omega) RG2 TH2 g0 g1 g2 g3 g4 g5 g6 g7 mt_Times mt_Add C7 C8 (hidden ?_)
   intro wz hz
   have PN : Hid (wz.rangeAt (w.heap.size + 1) 0 [.int .u64 r.x0, .int .u64 r.x1, .int .u64 r.x2, .int .u64 r.x3] ∧ wz.rangeAt (w.heap.size) 0 [.int .u64 (⟨0, 0, 0, 0⟩ : E4).x0, .int .u64 (⟨0, 0, 0, 0⟩ : E4).x1, .int .u64 (⟨0, 0, 0, 0⟩ : E4).x2, .int .u64 (⟨0, 0, 0, 0⟩ : E4).x3] ∧ wz.there (w.heap.size) 0 4 ∧ Below w.heap.size w wz) := hidden (by
    obtain ⟨wy, hy, hty, rfl⟩ := hz
    have g := gb_setCells (w.heap.size + 1) [.int .u64 r.x0, .int .u64 r.x1, .int .u64 r.x2, .int .u64 r.x3] 0 wy
    exact ⟨World.rangeAt_setCells_same wy (w.heap.size + 1) 0 [.int .u64 r.x0, .int .u64 r.x1, .int .u64 r.x2, .int .u64 r.x3] hty, range_gb (range_gb ZR2.1 hy (by omega)) g (by omega), there_gb (there_gb ZR2.2 hy (by omega)) g (by omega), (AL wy hy).grown g (AL wy hy).size (fun j hj => by obtain rfl := Option.some.inj hj; omega)⟩)
   clear C7 C8 RG2 TH2 ZR2 AL hz g0 g1 g2 g3 g4 g5 g6 g7
   go_wp2_with fail
   go_roundw
   case rel => exact ⟨1, .inr ⟨rfl, PN⟩, by go_num⟩
   case measure => simp [intOf]
  ·obtain ⟨q1, q2, q3, q4⟩ := hP.out
   have s0 : wr.cell? ⟨w.heap.size + 1, 0, none⟩ = some (.int .u64 r.x0) := q1 0 _ rfl
   have s1 : wr.cell? ⟨w.heap.size + 1, 1, none⟩ = some (.int .u64 r.x1) := q1 1 _ rfl
   have s2 : wr.cell? ⟨w.heap.size + 1, 2, none⟩ = some (.int .u64 r.x2) := q1 2 _ rfl
   have s3 : wr.cell? ⟨w.heap.size + 1, 3, none⟩ = some (.int .u64 r.x3) := q1 3 _ rfl
   have t0 : wr.cell? ⟨w.heap.size, 0, none⟩ = some (.int .u64 0) := q2 0 _ rfl
   have t1 : wr.cell? ⟨w.heap.size, 1, none⟩ = some (.int .u64 0) := q2 1 _ rfl
   have t2 : wr.cell? ⟨w.heap.size, 2, none⟩ = some (.int .u64 0) := q2 2 _ rfl
   have t3 : wr.cell? ⟨w.heap.size, 3, none⟩ = some (.int .u64 0) := q2 3 _ rfl
   have v0 : wr.frozen? ⟨w.heap.size, 0, none⟩ = false := (q3 0 (by omega)).2
   have v1 : wr.frozen? ⟨w.heap.size, 1, none⟩ = false := (q3 1 (by omega)).2
   have v2 : wr.frozen? ⟨w.heap.size, 2, none⟩ = false := (q3 2 (by omega)).2
   have v3 : wr.frozen? ⟨w.heap.size, 3, none⟩ = false := (q3 3 (by omega)).2
   have Q4 := hidden q4
   clear q1 q2 q3 q4
   go_wp2_with fail
   refine bodyPost_ret (v := .agg #[.int .u64 r.x0, .int .u64 r.x1, .int .u64 r.x2, .int .u64 r.x3]) (by simp [results, Tryz.results54, go_sem, t0, t1, t2, t3]) rfl ⟨rfl, (((Q4.out.setCell (Nat.le_refl _) _).setCell (Nat.le_refl _) _).setCell (Nat.le_refl _) _).setCell (Nat.le_refl _) _⟩
theorem total1 (L lo cap : Nat) (k p u r : E4) (w : World) (hT : Tb w) (hk : k.ok) (hp : p.ok) (hu : u = lst (p.n * k.n)) (hr : r = lst (zero4.n + u.n)) (ck : w.rangeAt L lo [.int .u64 k.x0, .int .u64 k.x1, .int .u64 k.x2, .int .u64 k.x3]) (cp : w.rangeAt L (lo + 4) [.int .u64 p.x0, .int .u64 p.x1, .int .u64 p.x2, .int .u64 p.x3]) :
  Calls Tryz.prog 46 #[.slice (some ⟨L, lo, none⟩) 1 cap] w fun e w' => e = .returned (.agg #[.int .u64 r.x0, .int .u64 r.x1, .int .u64 r.x2, .int .u64 r.x3]) ∧ Below w.heap.size w w' := by
 have B1 := bl_alloc w (.cells #[.int .u64 0, .int .u64 0, .int .u64 0, .int .u64 0] 39)
 have a0 : (w.alloc (.cells #[.int .u64 0, .int .u64 0, .int .u64 0, .int .u64 0] 39)).cell? ⟨w.heap.size, 0, none⟩ = some (.int .u64 0) := by go_simp
 have z0 : (w.alloc (.cells #[.int .u64 0, .int .u64 0, .int .u64 0, .int .u64 0] 39)).frozen? ⟨w.heap.size, 0, none⟩ = false := by go_simp
 have a1 : (w.alloc (.cells #[.int .u64 0, .int .u64 0, .int .u64 0, .int .u64 0] 39)).cell? ⟨w.heap.size, 1, none⟩ = some (.int .u64 0) := by go_simp
 have z1 : (w.alloc (.cells #[.int .u64 0, .int .u64 0, .int .u64 0, .int .u64 0] 39)).frozen? ⟨w.heap.size, 1, none⟩ = false := by go_simp
 have a2 : (w.alloc (.cells #[.int .u64 0, .int .u64 0, .int .u64 0, .int .u64 0] 39)).cell? ⟨w.heap.size, 2, none⟩ = some (.int .u64 0) := by go_simp
 have z2 : (w.alloc (.cells #[.int .u64 0, .int .u64 0, .int .u64 0, .int .u64 0] 39)).frozen? ⟨w.heap.size, 2, none⟩ = false := by go_simp
 have a3 : (w.alloc (.cells #[.int .u64 0, .int .u64 0, .int .u64 0, .int .u64 0] 39)).cell? ⟨w.heap.size, 3, none⟩ = some (.int .u64 0) := by go_simp
 have z3 : (w.alloc (.cells #[.int .u64 0, .int .u64 0, .int .u64 0, .int .u64 0] 39)).frozen? ⟨w.heap.size, 3, none⟩ = false := by go_simp
 have SM := hidden (plain1 L lo cap k p u r (w.alloc (.cells #[.int .u64 0, .int .u64 0, .int .u64 0, .int .u64 0] 39)) (hT.keep B1) hk hp hu hr (range_bl ck B1) (range_bl cp B1))
 clear hT hk hp hu hr ck cp
 go_enter Tryz.func46, Tryz.ntmps46
 go_upto_region 1 with fail
 generalize (w.alloc (.cells #[.int .u64 0, .int .u64 0, .int .u64 0, .int .u64 0] 39)) = w1 at *
 go_wp2_with (first | (go_at_call 54; refine SM.out.mono ?_; rintro e wc ⟨rfl, hc⟩; have lt := World.block_lt_of_cell? _ _ a0; have c0 := cell_keep a0 hc; have c1 := cell_keep a1 hc; have c2 := cell_keep a2 hc; have c3 := cell_keep a3 hc; have y0 := ((bcell hc).2 _ 0 lt).trans z0; have y1 := ((bcell hc).2 _ 1 lt).trans z1; have y2 := ((bcell hc).2 _ 2 lt).trans z2; have y3 := ((bcell hc).2 _ 3 lt).trans z3; have HX := hidden hc; clear hc SM lt a0 a1 a2 a3 z0 z1 z2 z3))
 refine bodyPost_ret (v := .agg #[.int .u64 r.x0, .int .u64 r.x1, .int .u64 r.x2, .int .u64 r.x3]) (by simp [results, Tryz.results46, go_sem, c0, c1, c2, c3]) rfl ⟨rfl, ((((bl_trans B1 HX.out).setCell (Nat.le_refl _) _).setCell (Nat.le_refl _) _).setCell (Nat.le_refl _) _).setCell (Nat.le_refl _) _⟩
open Go.RowKit
theorem made1 (w : World) (t : TypeId) : (w.alloc (.cells (madeCells #[.int .u64 0, .int .u64 0, .int .u64 0, .int .u64 0] 4) t)).rangeAt w.heap.size 0 [.int .u64 (⟨0, 0, 0, 0⟩ : E4).x0, .int .u64 (⟨0, 0, 0, 0⟩ : E4).x1, .int .u64 (⟨0, 0, 0, 0⟩ : E4).x2, .int .u64 (⟨0, 0, 0, 0⟩ : E4).x3] ∧ (w.alloc (.cells (madeCells #[.int .u64 0, .int .u64 0, .int .u64 0, .int .u64 0] 4) t)).there w.heap.size 0 4 := by
 have h := Rm.made w 1 t
 rw [Nat.one_mul] at h
 have q := Rm.range h (show 0 < 1 by omega)
 exact ⟨q, there4 q (fun j hj => h.fr _ (by omega))⟩
theorem first1 (R I g cR cI cn cx : Nat) (Px : Option Addr) (ks gs : Nat → E4) (u r : E4) (w : World) (hT : Tb w) (hl : Lm w Px 1 ks) (ok : (ks 0).ok) (og : (gs 0).ok) (hr : w.cell? ⟨R, 0, none⟩ = some (.slice (some ⟨g, 0, none⟩) 1 cn)) (hg : Rl w g 0 1 gs) (hu : u = lst ((gs 0).n * (ks 0).n)) (hrr : r = lst (zero4.n + u.n)) :
  Calls Tryz.prog 28 #[.agg #[.slice (some ⟨R, 0, none⟩) 1 cR, .slice (some ⟨I, 0, none⟩) 1 cI, .int .u64 0, .int .u64 0, .int .u64 0, .int .u64 0, .slice Px 1 cx]] w fun e w' => ∃ D : Nat, e = .returned (.slice (some ⟨D, 0, none⟩) 1 1) ∧ w.heap.size ≤ D ∧ w'.rangeAt D 0 [.int .u64 r.x0, .int .u64 r.x1, .int .u64 r.x2, .int .u64 r.x3] ∧ Below w.heap.size w w' := by
 obtain ⟨i0, hi, hz0, hz1, hz2⟩ := info_parts linfo
 have hmk := fun w => run_make (P := Tryz.prog) w 41 39 i0 (.agg #[.int .u64 0, .int .u64 0, .int .u64 0, .int .u64 0]) (by kernel_rfl) hi hz0 .i64 .i64 1 1 (by omega) (Int.le_refl _) (by rw [hz2]; omega) (by omega)
 simp only [show ((1 : Int)).toNat = 1 from rfl, hz1, Value.cells, Nat.one_mul] at hmk
 clear hi hz0 hz1 hz2
 have B1 := bl_alloc w (.cells #[.slice (some ⟨R, 0, none⟩) 1 cR, .slice (some ⟨I, 0, none⟩) 1 cI, .int .u64 0, .int .u64 0, .int .u64 0, .int .u64 0, .slice Px 1 cx] 73)
 have B2 := bl_trans B1 (bl_alloc (w.alloc (.cells #[.slice (some ⟨R, 0, none⟩) 1 cR, .slice (some ⟨I, 0, none⟩) 1 cI, .int .u64 0, .int .u64 0, .int .u64 0, .int .u64 0, .slice Px 1 cx] 73)) (.cells (madeCells #[.int .u64 0, .int .u64 0, .int .u64 0, .int .u64 0] 4) 39))
 have e0 : ((w.alloc (.cells #[.slice (some ⟨R, 0, none⟩) 1 cR, .slice (some ⟨I, 0, none⟩) 1 cI, .int .u64 0, .int .u64 0, .int .u64 0, .int .u64 0, .slice Px 1 cx] 73)).alloc (.cells (madeCells #[.int .u64 0, .int .u64 0, .int .u64 0, .int .u64 0] 4) 39)).cell? ⟨w.heap.size, 0, none⟩ = some (.slice (some ⟨R, 0, none⟩) 1 cR) := cell_keep (by go_simp) (bl_alloc _ _)
 have e6 : ((w.alloc (.cells #[.slice (some ⟨R, 0, none⟩) 1 cR, .slice (some ⟨I, 0, none⟩) 1 cI, .int .u64 0, .int .u64 0, .int .u64 0, .int .u64 0, .slice Px 1 cx] 73)).alloc (.cells (madeCells #[.int .u64 0, .int .u64 0, .int .u64 0, .int .u64 0] 4) 39)).cell? ⟨w.heap.size, 6, none⟩ = some (.slice Px 1 cx) := cell_keep (by go_simp) (bl_alloc _ _)
 have M1 := made1 (w.alloc (.cells #[.slice (some ⟨R, 0, none⟩) 1 cR, .slice (some ⟨I, 0, none⟩) 1 cI, .int .u64 0, .int .u64 0, .int .u64 0, .int .u64 0, .slice Px 1 cx] 73)) 39
 simp only [World.size_alloc] at M1
 have HM := hidden M1
 have rr := cell_keep hr B2
 have SZ2 : Hid (((w.alloc (.cells #[.slice (some ⟨R, 0, none⟩) 1 cR, .slice (some ⟨I, 0, none⟩) 1 cI, .int .u64 0, .int .u64 0, .int .u64 0, .int .u64 0, .slice Px 1 cx] 73)).alloc (.cells (madeCells #[.int .u64 0, .int .u64 0, .int .u64 0, .int .u64 0] 4) 39)).heap.size = w.heap.size + 1 + 1) := hidden (by simp only [World.size_alloc])
 clear M1
 go_enter Tryz.func28, Tryz.ntmps28
 go_upto_region 2 with fail
 generalize ((w.alloc (.cells #[.slice (some ⟨R, 0, none⟩) 1 cR, .slice (some ⟨I, 0, none⟩) 1 cI, .int .u64 0, .int .u64 0, .int .u64 0, .int .u64 0, .slice Px 1 cx] 73)).alloc (.cells (madeCells #[.int .u64 0, .int .u64 0, .int .u64 0, .int .u64 0] 4) 39)) = w2 at *
 clear hmk
 have ZC := hidden (zip_any Px g 1 cx cn ks gs w2 (by omega) (hl.keep B2) (hg.keep B2))
 have TC := hidden (fun (x : World) (t cap : Nat) (hx : Below w2.heap.size w2 x) (h : x.rowIs t 106 (1 * 8) (tvl ks gs)) => total1 t 0 cap (ks 0) (gs 0) u r x (hT.keep (bl_trans B2 hx)) ok og hu hrr (range4 (by rw [h.cell (by omega)]; exact congrArg some (tvl0 ks gs 0)) (by rw [h.cell (by omega)]; exact congrArg some (tvl1 ks gs 0)) (by rw [h.cell (by omega)]; exact congrArg some (tvl2 ks gs 0)) (by rw [h.cell (by omega)]; exact congrArg some (tvl3 ks gs 0))) (range4 (by rw [h.cell (by omega)]; exact congrArg some (tvl4 ks gs 0)) (by rw [h.cell (by omega)]; exact congrArg some (tvl5 ks gs 0)) (by rw [h.cell (by omega)]; exact congrArg some (tvl6 ks gs 0)) (by rw [h.cell (by omega)]; exact congrArg some (tvl7 ks gs 0))))
 have HB2 := hidden B2
 clear hT hl ok og hr hg hu hrr
 go_wp2_with fail
 go_loopw [17] (fun iv w' => ∃ i : Nat, (i = 0 ∧ w' = w2 ∨ i = 1 ∧ Hid (w'.rangeAt (w.heap.size + 1) 0 [.int .u64 r.x0, .int .u64 r.x1, .int .u64 r.x2, .int .u64 r.x3] ∧ Below w.heap.size w w')) ∧ iv = .int .i64 i) (fun i _ => 1 - (intOf i).toNat)
 case atStart => exact ⟨0, .inl ⟨rfl, rfl⟩, rfl⟩
 case round =>
  obtain ⟨i, ⟨rfl, rfl⟩ | ⟨rfl, hP⟩, rfl⟩ := hrel
  ·go_wp2_with (first
    | (go_at_call 45; refine ZC.out.mono ?_; rintro e wa ⟨tl, rfl, hl0, rl, ba⟩; have HA := hidden (And.intro rl ba); clear hl0 rl ba ZC)
    | (go_at_call 46; refine (TC.out _ tl 1 HA.out.2 HA.out.1).mono ?_; rintro e wb ⟨rfl, hb⟩; have BW := bl_trans HA.out.2 hb; have rb := range_bl HM.out.1 BW; have tb := there_bl HM.out.2 BW; have s0 : wb.cell? ⟨w.heap.size + 1, 0, none⟩ = some (.int .u64 0) := rb 0 _ rfl; have s1 : wb.cell? ⟨w.heap.size + 1, 1, none⟩ = some (.int .u64 0) := rb 1 _ rfl; have s2 : wb.cell? ⟨w.heap.size + 1, 2, none⟩ = some (.int .u64 0) := rb 2 _ rfl; have s3 : wb.cell? ⟨w.heap.size + 1, 3, none⟩ = some (.int .u64 0) := rb 3 _ rfl; have v0 : wb.frozen? ⟨w.heap.size + 1, 0, none⟩ = false := (tb 0 (by omega)).2; have v1 : wb.frozen? ⟨w.heap.size + 1, 1, none⟩ = false := (tb 1 (by omega)).2; have v2 : wb.frozen? ⟨w.heap.size + 1, 2, none⟩ = false := (tb 2 (by omega)).2; have v3 : wb.frozen? ⟨w.heap.size + 1, 3, none⟩ = false := (tb 3 (by omega)).2; have PN : Hid ((setS wb (w.heap.size + 1) 0 r).rangeAt (w.heap.size + 1) 0 [.int .u64 r.x0, .int .u64 r.x1, .int .u64 r.x2, .int .u64 r.x3] ∧ Below w.heap.size w (setS wb (w.heap.size + 1) 0 r)) := hidden ⟨World.rangeAt_setCells_same wb (w.heap.size + 1) 0 [.int .u64 r.x0, .int .u64 r.x1, .int .u64 r.x2, .int .u64 r.x3] tb, setS_bel (bl_trans HB2.out BW) (by omega)⟩; unfold setS at PN; clear hb BW rb tb TC))
   go_roundw
   case rel => exact ⟨1, .inr ⟨rfl, PN⟩, by go_num⟩
   case measure => simp [intOf]
  ·go_wp2_with fail
   obtain ⟨q1, q4⟩ := hP.out
   refine bodyPost_ret (v := .slice (some ⟨w.heap.size + 1, 0, none⟩) 1 1) (by simp [results, Tryz.results28, go_sem]) rfl ⟨w.heap.size + 1, rfl, by omega, q1, q4⟩
theorem First1 (R I g cR cI cn cx : Nat) (Px : Option Addr) (ks gs : Nat → E4) (u r : E4) (w : World) (hT : Tb w) (hl : Lm w Px 1 ks) (ok : (ks 0).ok) (og : (gs 0).ok) (hr : w.cell? ⟨R, 0, none⟩ = some (.slice (some ⟨g, 0, none⟩) 1 cn)) (hg : Rl w g 0 1 gs) (hu : u = lst ((gs 0).n * (ks 0).n)) (hrr : r = lst (zero4.n + u.n)) :
  Calls Tryz.prog 20 #[.agg #[.slice (some ⟨R, 0, none⟩) 1 cR, .slice (some ⟨I, 0, none⟩) 1 cI], .slice Px 1 cx] w fun e w' => ∃ D : Nat, e = .returned (.tuple #[.slice (some ⟨D, 0, none⟩) 1 1, .int .i64 0]) ∧ w.heap.size ≤ D ∧ w'.rangeAt D 0 [.int .u64 r.x0, .int .u64 r.x1, .int .u64 r.x2, .int .u64 r.x3] ∧ Below w.heap.size w w' := by
 have B3 : Below w.heap.size w ((w.alloc (.cells #[.slice (some ⟨R, 0, none⟩) 1 cR, .slice (some ⟨I, 0, none⟩) 1 cI] 43)).alloc (.cells #[.slice Px 1 cx] 23)) := bl_trans (bl_alloc w _) (bl_alloc _ _)
 have e0 : ((w.alloc (.cells #[.slice (some ⟨R, 0, none⟩) 1 cR, .slice (some ⟨I, 0, none⟩) 1 cI] 43)).alloc (.cells #[.slice Px 1 cx] 23)).cell? ⟨w.heap.size, 0, none⟩ = some (.slice (some ⟨R, 0, none⟩) 1 cR) := by go_simp
 have e1 : ((w.alloc (.cells #[.slice (some ⟨R, 0, none⟩) 1 cR, .slice (some ⟨I, 0, none⟩) 1 cI] 43)).alloc (.cells #[.slice Px 1 cx] 23)).cell? ⟨w.heap.size, 1, none⟩ = some (.slice (some ⟨I, 0, none⟩) 1 cI) := by go_simp
 have t0 : ((w.alloc (.cells #[.slice (some ⟨R, 0, none⟩) 1 cR, .slice (some ⟨I, 0, none⟩) 1 cI] 43)).alloc (.cells #[.slice Px 1 cx] 23)).cell? ⟨w.heap.size + 1, 0, none⟩ = some (.slice Px 1 cx) := by go_simp
 have CF := hidden (fits_L R I g 1 cR cI cn (w.heap.size + 1) cx Px ((w.alloc (.cells #[.slice (some ⟨R, 0, none⟩) 1 cR, .slice (some ⟨I, 0, none⟩) 1 cI] 43)).alloc (.cells #[.slice Px 1 cx] 23)) (by omega) (cell_keep hr B3) t0)
 have CS := hidden (fun (x : World) (hx : Below w.heap.size w x) => first1 R I g cR cI cn cx Px ks gs u r x (hT.keep hx) (hl.keep hx) ok og (cell_keep hr hx) (hg.keep hx) hu hrr)
 clear hT hl hr hg ok og hu hrr
 go_enter Tryz.func20, Tryz.ntmps20
 go_wp2_with (first
  | (go_at_call 25; refine CF.out.mono ?_; rintro e wa ⟨rfl, ha⟩; have a0 := cell_keep e0 ha; have a1 := cell_keep e1 ha; have BA := hidden (bl_trans B3 ha); clear ha CF)
  | (go_at_call 28; refine (CS.out _ BA.out).mono ?_; rintro e wb ⟨D, rfl, hD, q1, hb⟩; have RR := hidden (And.intro hD (And.intro q1 hb)); clear hD q1 hb CS))
 obtain ⟨hD, q1, hb⟩ := RR.out
 have := BA.out.size
 refine bodyPost_ret (v := .tuple #[.slice (some ⟨D, 0, none⟩) 1 1, .int .i64 0]) (by simp [results, Tryz.results20, go_sem]) rfl ⟨D, rfl, by omega, q1, bl_trans BA.out hb⟩
def an7o_0 : Oper := { dst := some 26, op := Op.move (Operand.tmp 8), type := 23, pos := "sigma.go:45", after := #[], guard := none }
def an7o_1 : Oper := { dst := some 27, op := Op.move (Operand.tmp 9), type := 3, pos := "sigma.go:45", after := #[], guard := none }
def an7o_2 : Oper := { dst := some 28, op := Op.move (Operand.tmp 0), type := 23, pos := "sigma.go:45", after := #[], guard := none }
def an7o_3 : Oper := { dst := some 29, op := Op.move (Operand.tmp 9), type := 3, pos := "sigma.go:45", after := #[], guard := none }
def an7o_4 : Oper := { dst := some 30, op := Op.indexAddr 23 (Operand.tmp 28) (Operand.tmp 29), type := 0, pos := "sigma.go:45", after := #[{ on := 2, ground := Ground.data }, { on := 3, ground := Ground.data }], guard := none }
def an7o_5 : Oper := { dst := some 31, op := Op.load 26 (Operand.tmp 30), type := 26, pos := "sigma.go:45", after := #[{ on := 4, ground := Ground.data }], guard := none }
def an7o_6 : Oper := { dst := some 32, op := Op.load 26 (Operand.tmp 5), type := 26, pos := "sigma.go:45", after := #[], guard := none }
def an7o_7 : Oper := { dst := some 33, op := Op.load 26 (Operand.tmp 10), type := 26, pos := "sigma.go:45", after := #[], guard := none }
def an7o_8 : Oper := { dst := some 34, op := Op.call { callee := Callee.value (Operand.func 17), args := #[Operand.tmp 32, Operand.tmp 33], argTypes := #[26, 26] }, type := 26, pos := "sigma.go:45", after := #[{ on := 6, ground := Ground.data }, { on := 7, ground := Ground.data }], guard := none }
def an7o_9 : Oper := { dst := some 35, op := Op.call { callee := Callee.value (Operand.func 13), args := #[Operand.tmp 31, Operand.tmp 34], argTypes := #[26, 26] }, type := 26, pos := "sigma.go:45", after := #[{ on := 5, ground := Ground.data }, { on := 8, ground := Ground.data }, { on := 8, ground := Ground.chain }], guard := none }
def an7o_10 : Oper := { dst := some 36, op := Op.indexAddr 23 (Operand.tmp 26) (Operand.tmp 27), type := 0, pos := "sigma.go:45", after := #[{ on := 0, ground := Ground.data }, { on := 1, ground := Ground.data }, { on := 0, ground := Ground.phase }, { on := 1, ground := Ground.phase }, { on := 2, ground := Ground.phase }, { on := 3, ground := Ground.phase }, { on := 4, ground := Ground.phase }, { on := 5, ground := Ground.phase }, { on := 6, ground := Ground.phase }, { on := 7, ground := Ground.phase }, { on := 8, ground := Ground.phase }, { on := 9, ground := Ground.phase }], guard := none }
def an7o_11 : Oper := { dst := none, op := Op.store 26 (Operand.tmp 36) (Operand.tmp 35), type := 0, pos := "sigma.go:45", after := #[{ on := 10, ground := Ground.data }, { on := 9, ground := Ground.data }, { on := 9, ground := Ground.chain }, { on := 0, ground := Ground.phase }, { on := 1, ground := Ground.phase }, { on := 2, ground := Ground.phase }, { on := 3, ground := Ground.phase }, { on := 4, ground := Ground.phase }, { on := 5, ground := Ground.phase }, { on := 6, ground := Ground.phase }, { on := 7, ground := Ground.phase }, { on := 8, ground := Ground.phase }, { on := 9, ground := Ground.phase }], guard := none }
def an7o : Array Oper := #[an7o_0, an7o_1, an7o_2, an7o_3, an7o_4, an7o_5, an7o_6, an7o_7, an7o_8, an7o_9, an7o_10, an7o_11]
theorem an7 (Q : Exit → Act → World → Prop) (A D T5 T10 cA : Nat) (a ch x u r : E4) (u1 u2 u3 u4 u6 u7 u11 u12 u13 u14 u15 u16 u17 u18 u19 u20 u21 u22 u23 u24 u25 u26 u27 u28 u29 u30 u31 u32 u33 u34 u35 u36 u37 u38 : Value) (W : World)
  (neA : A ≠ D) (ne5 : T5 ≠ D) (neX : T10 ≠ D) (th : W.there D 0 4) (ca0 : W.cell? ⟨A, 0, none⟩ = some (.int .u64 a.x0)) (ca1 : W.cell? ⟨A, 1, none⟩ = some (.int .u64 a.x1)) (ca2 : W.cell? ⟨A, 2, none⟩ = some (.int .u64 a.x2)) (ca3 : W.cell? ⟨A, 3, none⟩ = some (.int .u64 a.x3)) (cc0 : W.cell? ⟨T5, 0, none⟩ = some (.int .u64 ch.x0)) (cc1 : W.cell? ⟨T5, 1, none⟩ = some (.int .u64 ch.x1)) (cc2 : W.cell? ⟨T5, 2, none⟩ = some (.int .u64 ch.x2)) (cc3 : W.cell? ⟨T5, 3, none⟩ = some (.int .u64 ch.x3)) (cx0 : W.cell? ⟨T10, 0, none⟩ = some (.int .u64 x.x0)) (cx1 : W.cell? ⟨T10, 1, none⟩ = some (.int .u64 x.x1)) (cx2 : W.cell? ⟨T10, 2, none⟩ = some (.int .u64 x.x2)) (cx3 : W.cell? ⟨T10, 3, none⟩ = some (.int .u64 x.x3))
  (C8 : Hid (∀ y, W.grownBy y (some D) → Calls Tryz.prog 17 #[.agg #[.int .u64 ch.x0, .int .u64 ch.x1, .int .u64 ch.x2, .int .u64 ch.x3], .agg #[.int .u64 x.x0, .int .u64 x.x1, .int .u64 x.x2, .int .u64 x.x3]] y fun e w' => e = .returned (.agg #[.int .u64 u.x0, .int .u64 u.x1, .int .u64 u.x2, .int .u64 u.x3]) ∧ Below y.heap.size y w'))
  (C9 : Hid (∀ y, W.grownBy y (some D) → Calls Tryz.prog 13 #[.agg #[.int .u64 a.x0, .int .u64 a.x1, .int .u64 a.x2, .int .u64 a.x3], .agg #[.int .u64 u.x0, .int .u64 u.x1, .int .u64 u.x2, .int .u64 u.x3]] y fun e w' => e = .returned (.agg #[.int .u64 r.x0, .int .u64 r.x1, .int .u64 r.x2, .int .u64 r.x3]) ∧ Below y.heap.size y w'))
  (HQ : Hid (∀ (wz : World), (∃ wy, W.grownBy wy (some D) ∧ wy.there D 0 4 ∧ wz = wy.setCells D 0 [.int .u64 r.x0, .int .u64 r.x1, .int .u64 r.x2, .int .u64 r.x3]) → Q .normal ⟨#[.slice (some ⟨A, 0, none⟩) 1 cA, u1, u2, u3, u4, .pointer (some ⟨T5, 0, none⟩), u6, u7, .slice (some ⟨D, 0, none⟩) 1 1, .int .i64 0, .pointer (some ⟨T10, 0, none⟩), u11, u12, u13, u14, u15, u16, u17, u18, u19, u20, u21, u22, u23, u24, u25, .slice (some ⟨D, 0, none⟩) 1 1, .int .i64 0, .slice (some ⟨A, 0, none⟩) 1 cA, .int .i64 0, .pointer (some ⟨A, 0, none⟩), .agg #[.int .u64 a.x0, .int .u64 a.x1, .int .u64 a.x2, .int .u64 a.x3], .agg #[.int .u64 ch.x0, .int .u64 ch.x1, .int .u64 ch.x2, .int .u64 ch.x3], .agg #[.int .u64 x.x0, .int .u64 x.x1, .int .u64 x.x2, .int .u64 x.x3], .agg #[.int .u64 u.x0, .int .u64 u.x1, .int .u64 u.x2, .int .u64 u.x3], .agg #[.int .u64 r.x0, .int .u64 r.x1, .int .u64 r.x2, .int .u64 r.x3], .pointer (some ⟨D, 0, none⟩), u37, u38], []⟩ wz)) : (Code.region 7 an7o true).wp Tryz.prog Q ⟨#[.slice (some ⟨A, 0, none⟩) 1 cA, u1, u2, u3, u4, .pointer (some ⟨T5, 0, none⟩), u6, u7, .slice (some ⟨D, 0, none⟩) 1 1, .int .i64 0, .pointer (some ⟨T10, 0, none⟩), u11, u12, u13, u14, u15, u16, u17, u18, u19, u20, u21, u22, u23, u24, u25, u26, u27, u28, u29, u30, u31, u32, u33, u34, u35, u36, u37, u38], []⟩ W := by
 have TH := hidden (there_bl th (bl_drew W))
 clear th
 unfold an7o
 refine wp_region_noPanic ?_
 refine wp_region_held_drew (S := fun x => W.grownBy x (some D)) (by kernel_rfl) (gbI (bl_drew W) _) (fun hH0 => ?_)
 refine tk 0 an7o_0 (.slice (some ⟨D, 0, none⟩) 1 1) rfl (by kernel_rfl) hH0 rfl (fun w0 hSw => ?_) ?_
 ·(unfold an7o_0; clear hSw; go_simp)
 simp only [an7o_0, Act.put, sA, sB, sC]
 refine tk 1 an7o_1 (.int .i64 0) rfl (by kernel_rfl) hH0 rfl (fun w0 hSw => ?_) ?_
 ·(unfold an7o_1; clear hSw; go_simp)
 simp only [an7o_1, Act.put, sA, sB, sC]
 refine tk 2 an7o_2 (.slice (some ⟨A, 0, none⟩) 1 cA) rfl (by kernel_rfl) hH0 rfl (fun w0 hSw => ?_) ?_
 ·(unfold an7o_2; clear hSw; go_simp)
 simp only [an7o_2, Act.put, sA, sB, sC]
 refine tk 3 an7o_3 (.int .i64 0) rfl (by kernel_rfl) hH0 rfl (fun w0 hSw => ?_) ?_
 ·(unfold an7o_3; clear hSw; go_simp)
 simp only [an7o_3, Act.put, sA, sB, sC]
 refine tk 6 an7o_6 (.agg #[.int .u64 ch.x0, .int .u64 ch.x1, .int .u64 ch.x2, .int .u64 ch.x3]) rfl (by kernel_rfl) hH0 rfl (fun w0 hSw => ?_) ?_
 ·(unfold an7o_6; have hS : W.grownBy w0 (some D) := hSw; have a0 := hS.cell cc0 (fun e => ne5 (Option.some.inj e)); have a1 := hS.cell cc1 (fun e => ne5 (Option.some.inj e)); have a2 := hS.cell cc2 (fun e => ne5 (Option.some.inj e)); have a3 := hS.cell cc3 (fun e => ne5 (Option.some.inj e)); clear hS hSw; go_simp)
 simp only [an7o_6, Act.put, sA, sB, sC]
 refine tk 7 an7o_7 (.agg #[.int .u64 x.x0, .int .u64 x.x1, .int .u64 x.x2, .int .u64 x.x3]) rfl (by kernel_rfl) hH0 rfl (fun w0 hSw => ?_) ?_
 ·(unfold an7o_7; have hS : W.grownBy w0 (some D) := hSw; have a0 := hS.cell cx0 (fun e => neX (Option.some.inj e)); have a1 := hS.cell cx1 (fun e => neX (Option.some.inj e)); have a2 := hS.cell cx2 (fun e => neX (Option.some.inj e)); have a3 := hS.cell cx3 (fun e => neX (Option.some.inj e)); clear hS hSw; go_simp)
 simp only [an7o_7, Act.put, sA, sB, sC]
 refine tk 4 an7o_4 (.pointer (some ⟨A, 0, none⟩)) rfl (by kernel_rfl) hH0 rfl (fun w0 hSw => ?_) ?_
 ·(unfold an7o_4; clear hSw; go_simp)
 simp only [an7o_4, Act.put, sA, sB, sC]
 refine tk 5 an7o_5 (.agg #[.int .u64 a.x0, .int .u64 a.x1, .int .u64 a.x2, .int .u64 a.x3]) rfl (by kernel_rfl) hH0 rfl (fun w0 hSw => ?_) ?_
 ·(unfold an7o_5; have hS : W.grownBy w0 (some D) := hSw; have a0 := hS.cell ca0 (fun e => neA (Option.some.inj e)); have a1 := hS.cell ca1 (fun e => neA (Option.some.inj e)); have a2 := hS.cell ca2 (fun e => neA (Option.some.inj e)); have a3 := hS.cell ca3 (fun e => neA (Option.some.inj e)); clear hS hSw; go_simp)
 simp only [an7o_5, Act.put, sA, sB, sC]
 refine wpAnyH_ready (rs := [8]) (by kernel_rfl) (by simp) ?_
 refine AllReadyH.cons (o := an7o_8) rfl (fun K hK => ?_) AllReadyH.nil
 unfold an7o_8
 have HH := hidden hH0
 clear hH0
 go_simp
 refine (C8.out _ HH.out).mono ?_
 rintro e wn1 ⟨rfl, hb⟩
 replace TH := hidden (there_bl TH.out hb)
 have SN := hidden (HH.out.trans (gbI hb _))
 clear HH C8 hb
 go_wp2_with fail
 refine hK.out _ _ SN.out (fun hH1 => ?_)
 clear hK K SN
 refine wpAnyH_ready (rs := [9]) (by kernel_rfl) (by simp) ?_
 refine AllReadyH.cons (o := an7o_9) rfl (fun K hK => ?_) AllReadyH.nil
 unfold an7o_9
 have HH := hidden hH1
 clear hH1
 go_simp
 refine (C9.out _ HH.out).mono ?_
 rintro e wn2 ⟨rfl, hb⟩
 replace TH := hidden (there_bl TH.out hb)
 have SN := hidden (HH.out.trans (gbI hb _))
 clear HH C9 hb
 go_wp2_with fail
 refine hK.out _ _ SN.out (fun hH2 => ?_)
 clear hK K SN
 refine tk 10 an7o_10 (.pointer (some ⟨D, 0, none⟩)) rfl (by kernel_rfl) hH2 rfl (fun w0 hSw => ?_) ?_
 ·(unfold an7o_10; clear hSw; go_simp)
 simp only [an7o_10, Act.put, sA, sB, sC]
 refine wpAnyH_ready (rs := [11]) (by kernel_rfl) (by simp) ?_
 refine AllReadyH.cons (o := an7o_11) rfl (fun K hK => ?_) AllReadyH.nil
 unfold an7o_11
 have HH := hidden hH2
 clear hH2
 refine wp_storeE 26 _ _ rfl D 0 ([.int .u64 r.x0, .int .u64 r.x1, .int .u64 r.x2, .int .u64 r.x3]) (by rfl) (by rfl) TH.out i4_s (one4 r) rfl (fun wn3 hw => ?_)
 have SN := hidden (HH.out.trans (gb_setCells D [.int .u64 r.x0, .int .u64 r.x1, .int .u64 r.x2, .int .u64 r.x3] 0 _))
 have FE := hidden ((⟨_, HH.out, TH.out, hw⟩ : ∃ wy, W.grownBy wy (some D) ∧ wy.there D 0 4 ∧ _ = wy.setCells D 0 [.int .u64 r.x0, .int .u64 r.x1, .int .u64 r.x2, .int .u64 r.x3]))
 rw [← hw] at SN
 clear HH hw
 refine hK.out _ _ SN.out (fun hH3 => ?_)
 clear hK K SN
 have HH := hidden hH3
 have FQ := hidden (HQ.out _ FE.out)
 refine wpAnyH_done (by kernel_rfl) ?_ _
 refine NoPanic.normal ?_
 exact FQ.out
theorem Answer1 (A X cA cX : Nat) (a x ch u r : E4) (w : World) (hT : Tb w) (oa : a.ok) (ox : x.ok) (oc : ch.ok) (ha : w.rangeAt A 0 [.int .u64 a.x0, .int .u64 a.x1, .int .u64 a.x2, .int .u64 a.x3]) (hx : w.rangeAt X 0 [.int .u64 x.x0, .int .u64 x.x1, .int .u64 x.x2, .int .u64 x.x3]) (hu : u = lst (ch.n * x.n)) (hr : r = lst (a.n + u.n)) :
  Calls Tryz.prog 21 #[.slice (some ⟨A, 0, none⟩) 1 cA, .slice (some ⟨X, 0, none⟩) 1 cX, .agg #[.int .u64 ch.x0, .int .u64 ch.x1, .int .u64 ch.x2, .int .u64 ch.x3]] w fun e w' => ∃ D : Nat, e = .returned (.tuple #[.slice (some ⟨D, 0, none⟩) 1 1, .int .i64 0]) ∧ w.heap.size ≤ D ∧ w'.rangeAt D 0 [.int .u64 r.x0, .int .u64 r.x1, .int .u64 r.x2, .int .u64 r.x3] ∧ Below w.heap.size w w' := by
 obtain ⟨i0, hi, hz0, hz1, hz2⟩ := info_parts sinfoG
 have hmk := fun w => run_make (P := Tryz.prog) w 23 26 i0 (.agg #[.int .u64 0, .int .u64 0, .int .u64 0, .int .u64 0]) (by kernel_rfl) hi hz0 .i64 .i64 1 1 (by omega) (Int.le_refl _) (by rw [hz2]; omega) (by omega)
 simp only [show ((1 : Int)).toNat = 1 from rfl, hz1, Value.cells, Nat.one_mul] at hmk
 clear hi hz0 hz1 hz2
 have B2 := bl_trans (bl_alloc w (.cells #[.int .u64 ch.x0, .int .u64 ch.x1, .int .u64 ch.x2, .int .u64 ch.x3] 26)) (bl_alloc (w.alloc (.cells #[.int .u64 ch.x0, .int .u64 ch.x1, .int .u64 ch.x2, .int .u64 ch.x3] 26)) (.cells (madeCells #[.int .u64 0, .int .u64 0, .int .u64 0, .int .u64 0] 4) 26))
 have c0 : ((w.alloc (.cells #[.int .u64 ch.x0, .int .u64 ch.x1, .int .u64 ch.x2, .int .u64 ch.x3] 26)).alloc (.cells (madeCells #[.int .u64 0, .int .u64 0, .int .u64 0, .int .u64 0] 4) 26)).cell? ⟨w.heap.size, 0, none⟩ = some (.int .u64 ch.x0) := cell_keep (by go_simp) (bl_alloc _ _)
 have c1 : ((w.alloc (.cells #[.int .u64 ch.x0, .int .u64 ch.x1, .int .u64 ch.x2, .int .u64 ch.x3] 26)).alloc (.cells (madeCells #[.int .u64 0, .int .u64 0, .int .u64 0, .int .u64 0] 4) 26)).cell? ⟨w.heap.size, 1, none⟩ = some (.int .u64 ch.x1) := cell_keep (by go_simp) (bl_alloc _ _)
 have c2 : ((w.alloc (.cells #[.int .u64 ch.x0, .int .u64 ch.x1, .int .u64 ch.x2, .int .u64 ch.x3] 26)).alloc (.cells (madeCells #[.int .u64 0, .int .u64 0, .int .u64 0, .int .u64 0] 4) 26)).cell? ⟨w.heap.size, 2, none⟩ = some (.int .u64 ch.x2) := cell_keep (by go_simp) (bl_alloc _ _)
 have c3 : ((w.alloc (.cells #[.int .u64 ch.x0, .int .u64 ch.x1, .int .u64 ch.x2, .int .u64 ch.x3] 26)).alloc (.cells (madeCells #[.int .u64 0, .int .u64 0, .int .u64 0, .int .u64 0] 4) 26)).cell? ⟨w.heap.size, 3, none⟩ = some (.int .u64 ch.x3) := cell_keep (by go_simp) (bl_alloc _ _)
 have M1 := made1 (w.alloc (.cells #[.int .u64 ch.x0, .int .u64 ch.x1, .int .u64 ch.x2, .int .u64 ch.x3] 26)) 26
 simp only [World.size_alloc] at M1
 have HM := hidden M1
 have SZ2 : Hid (((w.alloc (.cells #[.int .u64 ch.x0, .int .u64 ch.x1, .int .u64 ch.x2, .int .u64 ch.x3] 26)).alloc (.cells (madeCells #[.int .u64 0, .int .u64 0, .int .u64 0, .int .u64 0] 4) 26)).heap.size = w.heap.size + 1 + 1) := hidden (by simp only [World.size_alloc])
 have x0 : ((w.alloc (.cells #[.int .u64 ch.x0, .int .u64 ch.x1, .int .u64 ch.x2, .int .u64 ch.x3] 26)).alloc (.cells (madeCells #[.int .u64 0, .int .u64 0, .int .u64 0, .int .u64 0] 4) 26)).cell? ⟨X, 0, none⟩ = some (.int .u64 x.x0) := cell_keep (hx 0 _ rfl) B2
 have x1 : ((w.alloc (.cells #[.int .u64 ch.x0, .int .u64 ch.x1, .int .u64 ch.x2, .int .u64 ch.x3] 26)).alloc (.cells (madeCells #[.int .u64 0, .int .u64 0, .int .u64 0, .int .u64 0] 4) 26)).cell? ⟨X, 1, none⟩ = some (.int .u64 x.x1) := cell_keep (hx 1 _ rfl) B2
 have x2 : ((w.alloc (.cells #[.int .u64 ch.x0, .int .u64 ch.x1, .int .u64 ch.x2, .int .u64 ch.x3] 26)).alloc (.cells (madeCells #[.int .u64 0, .int .u64 0, .int .u64 0, .int .u64 0] 4) 26)).cell? ⟨X, 2, none⟩ = some (.int .u64 x.x2) := cell_keep (hx 2 _ rfl) B2
 have x3 : ((w.alloc (.cells #[.int .u64 ch.x0, .int .u64 ch.x1, .int .u64 ch.x2, .int .u64 ch.x3] 26)).alloc (.cells (madeCells #[.int .u64 0, .int .u64 0, .int .u64 0, .int .u64 0] 4) 26)).cell? ⟨X, 3, none⟩ = some (.int .u64 x.x3) := cell_keep (hx 3 _ rfl) B2
 have lA := World.block_lt_of_cell? w _ (ha 0 _ rfl)
 have HH := hidden (And.intro hT (And.intro oa (And.intro ox (And.intro oc (And.intro ha (And.intro hu hr))))))
 clear M1 hx hT oa ox oc ha hu hr
 go_enter Tryz.func21, Tryz.ntmps21
 go_upto_region 4 with fail
 generalize ((w.alloc (.cells #[.int .u64 ch.x0, .int .u64 ch.x1, .int .u64 ch.x2, .int .u64 ch.x3] 26)).alloc (.cells (madeCells #[.int .u64 0, .int .u64 0, .int .u64 0, .int .u64 0] 4) 26)) = w2 at *
 clear hmk
 go_wp2_with fail
 go_loopw [21] (fun iv w' => ∃ i : Nat, (i = 0 ∧ w' = w2 ∨ i = 1 ∧ Hid (w'.rangeAt (w.heap.size + 1) 0 [.int .u64 r.x0, .int .u64 r.x1, .int .u64 r.x2, .int .u64 r.x3] ∧ Below w.heap.size w w')) ∧ iv = .int .i64 i) (fun i _ => 1 - (intOf i).toNat)
 case atStart => exact ⟨0, .inl ⟨rfl, rfl⟩, rfl⟩
 case round =>
  obtain ⟨i, ⟨rfl, rfl⟩ | ⟨rfl, hP⟩, rfl⟩ := hrel
  ·have BN := bl_alloc wr (.cells #[.int .u64 x.x0, .int .u64 x.x1, .int .u64 x.x2, .int .u64 x.x3] 26)
   have g0 : (wr.alloc (.cells #[.int .u64 x.x0, .int .u64 x.x1, .int .u64 x.x2, .int .u64 x.x3] 26)).cell? ⟨wr.heap.size, 0, none⟩ = some (.int .u64 x.x0) := by go_simp
   have g1 : (wr.alloc (.cells #[.int .u64 x.x0, .int .u64 x.x1, .int .u64 x.x2, .int .u64 x.x3] 26)).cell? ⟨wr.heap.size, 1, none⟩ = some (.int .u64 x.x1) := by go_simp
   have g2 : (wr.alloc (.cells #[.int .u64 x.x0, .int .u64 x.x1, .int .u64 x.x2, .int .u64 x.x3] 26)).cell? ⟨wr.heap.size, 2, none⟩ = some (.int .u64 x.x2) := by go_simp
   have g3 : (wr.alloc (.cells #[.int .u64 x.x0, .int .u64 x.x1, .int .u64 x.x2, .int .u64 x.x3] 26)).cell? ⟨wr.heap.size, 3, none⟩ = some (.int .u64 x.x3) := by go_simp
   go_upto_region 7 with fail
   have SZ1 := SZ2.out
   have B3 := bl_trans B2 BN
   have TH2 := there_bl HM.out.2 BN
   obtain ⟨hT, oa, ox, oc, ha, hu, hr⟩ := HH.out
   have d0 := cell_keep c0 BN
   have d1 := cell_keep c1 BN
   have d2 := cell_keep c2 BN
   have d3 := cell_keep c3 BN
   generalize (wr.alloc (.cells #[.int .u64 x.x0, .int .u64 x.x1, .int .u64 x.x2, .int .u64 x.x3] 26)) = w3 at *
   have AL : ∀ y, w3.grownBy y (some (w.heap.size + 1)) → Below w.heap.size w y := fun y hy => B3.grown hy B3.size (fun j hj => by obtain rfl := Option.some.inj hj; omega)
   have C8 := hidden (fun y (hy : w3.grownBy y (some (w.heap.size + 1))) => fix (R := lst (ch.n * x.n)) (Mul_any ch x y (hT.keep (AL y hy)) oc ox) rfl)
   have C9 := hidden (fun y (hy : w3.grownBy y (some (w.heap.size + 1))) => fix (R := lst (a.n + u.n)) (Add_any a u y (hT.keep (AL y hy)) oa (hu ▸ lst_ok _)) rfl)
   rw [← hu] at C8
   rw [← hr] at C9
   refine an7 _ A (w.heap.size + 1) w.heap.size wr.heap.size cA a ch x u r _ _ _ _ _ _ _ _ _ _ _ _ _ _ _ _ _ _ _ _ _ _ _ _ _ _ _ _ _ _ _ _ _ _ w3 (by omega) (by omega) (by omega) TH2 (cell_keep (ha 0 _ rfl) B3) (cell_keep (ha 1 _ rfl) B3) (cell_keep (ha 2 _ rfl) B3) (cell_keep (ha 3 _ rfl) B3) d0 d1 d2 d3 g0 g1 g2 g3 C8 C9 (hidden ?_)
   intro wz hz
   have PN : Hid (wz.rangeAt (w.heap.size + 1) 0 [.int .u64 r.x0, .int .u64 r.x1, .int .u64 r.x2, .int .u64 r.x3] ∧ Below w.heap.size w wz) := hidden (by
    obtain ⟨wy, hy, hty, rfl⟩ := hz
    exact ⟨World.rangeAt_setCells_same wy (w.heap.size + 1) 0 [.int .u64 r.x0, .int .u64 r.x1, .int .u64 r.x2, .int .u64 r.x3] hty, (AL wy hy).grown (gb_setCells _ _ 0 _) (AL wy hy).size (fun j hj => by obtain rfl := Option.some.inj hj; omega)⟩)
   clear C8 C9 TH2 AL hz g0 g1 g2 g3 d0 d1 d2 d3
   go_wp2_with fail
   go_roundw
   case rel => exact ⟨1, .inr ⟨rfl, PN⟩, by go_num⟩
   case measure => simp [intOf]
  ·go_wp2_with fail
   obtain ⟨q1, q4⟩ := hP.out
   refine bodyPost_ret (v := .tuple #[.slice (some ⟨w.heap.size + 1, 0, none⟩) 1 1, .int .i64 0]) (by simp [results, Tryz.results21, go_sem]) rfl ⟨w.heap.size + 1, rfl, by omega, q1, q4⟩
theorem Key1 (p q : E4) (w : World) :
  Calls Tryz.prog 19 #[.agg #[.int .u64 p.x0, .int .u64 p.x1, .int .u64 p.x2, .int .u64 p.x3], .agg #[.int .u64 q.x0, .int .u64 q.x1, .int .u64 q.x2, .int .u64 q.x3]] w fun e w' => ∃ R I g : Nat, e = .returned (.agg #[.slice (some ⟨R, 0, none⟩) 1 1, .slice (some ⟨I, 0, none⟩) 1 1]) ∧ w'.cell? ⟨R, 0, none⟩ = some (.slice (some ⟨g, 0, none⟩) 1 1) ∧ Rl w' g 0 1 (fun _ => p) ∧ w'.rangeAt I 0 [.int .u64 q.x0, .int .u64 q.x1, .int .u64 q.x2, .int .u64 q.x3] ∧ Below w.heap.size w w' := by
 go_enter Tryz.func19, Tryz.ntmps19
 go_wp2_with fail
 refine bodyPost_ret (v := .agg #[.slice (some ⟨w.heap.size + 1 + 1 + 1 + 1, 0, none⟩) 1 1, .slice (some ⟨w.heap.size + 1 + 1 + 1 + 1 + 1, 0, none⟩) 1 1]) (by simp [results, Tryz.results19, go_sem]) rfl ⟨w.heap.size + 1 + 1 + 1 + 1, w.heap.size + 1 + 1 + 1 + 1 + 1, w.heap.size + 1 + 1 + 1, rfl, ?_, ?_, ?_, ?_⟩
 ·go_simp
 ·refine ⟨fun i hi => ?_, fun i hi => ?_, fun i hi => ?_, fun i hi => ?_⟩ <;> (obtain rfl : i = 0 := by omega) <;> go_simp
 ·exact range4 (by go_simp) (by go_simp) (by go_simp) (by go_simp)
 ·first | exact bl_trans (bl_trans (bl_trans (bl_trans (bl_trans (bl_alloc w _) (bl_alloc _ _)) (bl_alloc _ _)) (bl_alloc _ _)) (bl_alloc _ _)) (bl_alloc _ _) | exact ((bl_trans (bl_trans (bl_trans (bl_trans (bl_trans (bl_alloc w _) (bl_alloc _ _)) (bl_alloc _ _)) (bl_alloc _ _)) (bl_alloc _ _)) (bl_alloc _ _)).setCell (by simp only; omega) _).setCell (by simp only; omega) _
end Go.Proofs.YtbbnjmjeeiglcaaGreatDoor.Li
namespace Go.Proofs.YtbbnjmjeeiglcaaGreatDoor
namespace Sg
open Go.RowKit
structure Cl (w : World) (R I r n : Nat) (g cn : Nat → Nat) (gs : Nat → Nat → E4) (im : Nat → E4) : Prop where
 row : ∀ i, i < r → w.cell? ⟨R, i, none⟩ = some (.slice (some ⟨g i, 0, none⟩) n (cn i))
 rl : ∀ i, i < r → Rl w (g i) 0 n (gs i)
 ri : Rl w I 0 r im
 ok : ∀ i, i < r → ∀ j, j < n → (gs i j).ok
 oi : ∀ i, i < r → (im i).ok
theorem Cl.keep {w w' : World} {R I r n : Nat} {g cn : Nat → Nat} {gs : Nat → Nat → E4} {im : Nat → E4} (h : Cl w R I r n g cn gs im) (hb : Below w.heap.size w w') : Cl w' R I r n g cn gs im :=
 ⟨fun i hi => cell_keep (h.row i hi) hb, fun i hi => (h.rl i hi).keep hb, h.ri.keep hb, h.ok, h.oi⟩
theorem stands_any (R I r n cR cI : Nat) (g cn : Nat → Nat) (gs : Nat → Nat → E4) (im : Nat → E4) (w : World) (hr1 : 1 ≤ r) (hr2 : r ≤ 64) (hn : 1 ≤ n) (hC : Cl w R I r n g cn gs im) :
  Calls Tryz.prog 44 #[.agg #[.slice (some ⟨R, 0, none⟩) r cR, .slice (some ⟨I, 0, none⟩) r cI]] w fun e w' => e = .returned (.bool true) ∧ Below w.heap.size w w' := by
 have B0 := bl_alloc w (.cells #[.slice (some ⟨R, 0, none⟩) r cR, .slice (some ⟨I, 0, none⟩) r cI] 43)
 have e0 : (w.alloc (.cells #[.slice (some ⟨R, 0, none⟩) r cR, .slice (some ⟨I, 0, none⟩) r cI] 43)).cell? ⟨w.heap.size, 0, none⟩ = some (.slice (some ⟨R, 0, none⟩) r cR) := by go_simp
 have e1 : (w.alloc (.cells #[.slice (some ⟨R, 0, none⟩) r cR, .slice (some ⟨I, 0, none⟩) r cI] 43)).cell? ⟨w.heap.size, 1, none⟩ = some (.slice (some ⟨I, 0, none⟩) r cI) := by go_simp
 have K := hidden (hC.keep B0)
 have r0 := K.out.row 0 (by omega)
 have n0 : ¬ (n : Int) = 0 := by omega
 have n1 : ¬ n = 0 := by omega
 have m0 : ¬ (r : Int) = 0 := by omega
 have m1 : ¬ r = 0 := by omega
 have m2 : (0 : Int) < (r : Int) := by omega
 have HR := hidden hr2
 clear hC
 go_enter Tryz.func44, Tryz.ntmps44
 go_upto_region 1 with fail
 generalize (w.alloc (.cells #[.slice (some ⟨R, 0, none⟩) r cR, .slice (some ⟨I, 0, none⟩) r cI] 43)) = w1 at *
 go_wp2_with fail
 simp only [show ((r : Int) == 0) = false from by simpa using m0]
 go_loopw [21] (fun iv w' => ∃ i : Nat, i ≤ r ∧ iv = .int .i64 i ∧ w' = w1) (fun i _ => r - (intOf i).toNat)
 case atStart => exact ⟨0, by omega, rfl, rfl⟩
 case round =>
  obtain ⟨i, hi, rfl, rfl⟩ := hrel
  by_cases hin : i < r
  ·have i0 : (0 : Int) ≤ (i : Int) := by omega
   have i1 : (i : Int) < (r : Int) := by omega
   have w9 : IntKind.i64.wrap ((i : Int) + 1) = (i : Int) + 1 := IntWalk.i64_in _ (by have := HR.out; omega)
   have ri := K.out.row i hin
   generalize g i = gi at *
   generalize cn i = ci at *
   go_wp2_with fail
   go_roundw
   case rel => exact ⟨i + 1, by omega, by go_num, by first | exact rfl | trivial⟩
   case measure => simp [intOf]; omega
  ·obtain rfl : i = r := by omega
   have lq : ¬ (i : Int) < (i : Int) := by omega
   go_wp2_with fail
   refine bodyPost_ret (v := .bool true) (by simp [results, Tryz.results44, go_sem]) rfl ⟨rfl, B0⟩
theorem fits_any (R I r n cR cI T k cT : Nat) (g cn : Nat → Nat) (gs : Nat → Nat → E4) (im : Nat → E4) (Px : Nat → Option Addr) (cx : Nat → Nat) (w : World) (hr1 : 1 ≤ r) (hr2 : r ≤ 64) (hn : 1 ≤ n) (hk : k ≤ 8) (hC : Cl w R I r n g cn gs im) (ht : ∀ j, j < k → w.cell? ⟨T, j, none⟩ = some (.slice (Px j) n (cx j))) :
  Calls Tryz.prog 25 #[.agg #[.slice (some ⟨R, 0, none⟩) r cR, .slice (some ⟨I, 0, none⟩) r cI], .slice (some ⟨T, 0, none⟩) k cT] w fun e w' => e = .returned (.bool true) ∧ Below w.heap.size w w' := by
 have B0 := bl_alloc w (.cells #[.slice (some ⟨R, 0, none⟩) r cR, .slice (some ⟨I, 0, none⟩) r cI] 43)
 have e0 : (w.alloc (.cells #[.slice (some ⟨R, 0, none⟩) r cR, .slice (some ⟨I, 0, none⟩) r cI] 43)).cell? ⟨w.heap.size, 0, none⟩ = some (.slice (some ⟨R, 0, none⟩) r cR) := by go_simp
 have e1 : (w.alloc (.cells #[.slice (some ⟨R, 0, none⟩) r cR, .slice (some ⟨I, 0, none⟩) r cI] 43)).cell? ⟨w.heap.size, 1, none⟩ = some (.slice (some ⟨I, 0, none⟩) r cI) := by go_simp
 have K := hidden (hC.keep B0)
 have SC := hidden (stands_any R I r n cR cI g cn gs im (w.alloc (.cells #[.slice (some ⟨R, 0, none⟩) r cR, .slice (some ⟨I, 0, none⟩) r cI] 43)) hr1 hr2 hn K.out)
 have TT := hidden (fun j hj => cell_keep (ht j hj) B0)
 have m2 : (0 : Int) < (r : Int) := by omega
 have HK := hidden hk
 have HR1 := hidden hr1
 clear hC ht
 go_enter Tryz.func25, Tryz.ntmps25
 go_upto_region 1 with fail
 generalize (w.alloc (.cells #[.slice (some ⟨R, 0, none⟩) r cR, .slice (some ⟨I, 0, none⟩) r cI] 43)) = w1 at *
 go_wp2_with (first | (go_at_call 44; refine SC.out.mono ?_; rintro e wa ⟨rfl, ha⟩; have a0 := cell_keep e0 ha; have KA := hidden (K.out.keep ha); have TA := hidden (fun j hj => cell_keep (TT.out j hj) ha); have BA := hidden (bl_trans B0 ha); clear SC ha e0 e1 K TT))
 have r0 := KA.out.row 0 (by have := HR1.out; omega)
 go_loopw [12] (fun iv w' => ∃ i : Nat, i ≤ k ∧ iv = .int .i64 i ∧ w' = wa) (fun i _ => k - (intOf i).toNat)
 case atStart => exact ⟨0, by omega, rfl, rfl⟩
 case round =>
  obtain ⟨i, hi, rfl, rfl⟩ := hrel
  by_cases hin : i < k
  ·have i0 : (0 : Int) ≤ (i : Int) := by omega
   have i1 : (i : Int) < (k : Int) := by omega
   have w9 : IntKind.i64.wrap ((i : Int) + 1) = (i : Int) + 1 := IntWalk.i64_in _ (by have := HK.out; omega)
   have ti := TA.out i hin
   generalize Px i = pi at *
   generalize cx i = ci at *
   go_wp2_with fail
   go_roundw
   case rel => exact ⟨i + 1, by omega, by go_num, by first | exact rfl | trivial⟩
   case measure => simp [intOf]; omega
  ·obtain rfl : i = k := by omega
   have lq : ¬ (i : Int) < (i : Int) := by omega
   go_wp2_with fail
   refine bodyPost_ret (v := .bool true) (by simp [results, Tryz.results25, go_sem]) rfl ⟨rfl, BA.out⟩
theorem equal_any (A B r cA cB : Nat) (p q : Nat → E4) (w : World) (hT : Tb w) (hr : r ≤ 64) (hA : Rl w A 0 r p) (hB : Rl w B 0 r q) (op : ∀ i, i < r → (p i).ok) (oq : ∀ i, i < r → (q i).ok) (hs : ∀ i, i < r → lst (p i).n = lst (q i).n) :
  Calls Tryz.prog 43 #[.slice (some ⟨A, 0, none⟩) r cA, .slice (some ⟨B, 0, none⟩) r cB, .func (.methodOf 39 "Same") #[] #[]] w fun e w' => e = .returned (.bool true) ∧ Below w.heap.size w w' := by
 have HT := hidden hT
 have HA := hidden hA
 have HB := hidden hB
 have HR := hidden hr
 have SM := hidden (fun i (hi : i < r) (x : World) (hx : Below w.heap.size w x) => lSame_any (p i) (q i) x (hT.keep hx) (op i hi) (oq i hi))
 have HS := hidden hs
 clear hT hA hB hr op oq hs
 go_enter Tryz.func43, Tryz.ntmps43
 go_wp2_with fail
 go_loopw [17] (fun iv w' => ∃ i : Nat, i ≤ r ∧ iv = .int .i64 i ∧ Hid (Below w.heap.size w w')) (fun i _ => r - (intOf i).toNat)
 case atStart => exact ⟨0, by omega, rfl, hidden (Below.refl _ _)⟩
 case round =>
  obtain ⟨i, hi, rfl, hb⟩ := hrel
  by_cases hin : i < r
  ·have i0 : (0 : Int) ≤ (i : Int) := by omega
   have i1 : (i : Int) < (r : Int) := by omega
   have w9 : IntKind.i64.wrap ((i : Int) + 1) = (i : Int) + 1 := IntWalk.i64_in _ (by have := HR.out; omega)
   have ra := HA.out.keep hb.out
   have rb := HB.out.keep hb.out
   have a0 := ra.c0 i hin
   have a1 := ra.c1 i hin
   have a2 := ra.c2 i hin
   have a3 := ra.c3 i hin
   have b0 := rb.c0 i hin
   have b1 := rb.c1 i hin
   have b2 := rb.c2 i hin
   have b3 := rb.c3 i hin
   have SI := SM.out i hin
   rw [HS.out i hin, E4.same_self] at SI
   generalize p i = x at *
   generalize q i = y at *
   have B2 := bl_alloc2 wr (.cells #[.int .u64 x.x0, .int .u64 x.x1, .int .u64 x.x2, .int .u64 x.x3] 39) (.cells #[.int .u64 y.x0, .int .u64 y.x1, .int .u64 y.x2, .int .u64 y.x3] 39)
   have CS := hidden (SI _ (bl_trans hb.out B2))
   have m1 := mt_SameL x
   have kb0 := cell_keep b0 (bl_alloc wr (.cells #[.int .u64 x.x0, .int .u64 x.x1, .int .u64 x.x2, .int .u64 x.x3] 39))
   have kb1 := cell_keep b1 (bl_alloc wr (.cells #[.int .u64 x.x0, .int .u64 x.x1, .int .u64 x.x2, .int .u64 x.x3] 39))
   have kb2 := cell_keep b2 (bl_alloc wr (.cells #[.int .u64 x.x0, .int .u64 x.x1, .int .u64 x.x2, .int .u64 x.x3] 39))
   have kb3 := cell_keep b3 (bl_alloc wr (.cells #[.int .u64 x.x0, .int .u64 x.x1, .int .u64 x.x2, .int .u64 x.x3] 39))
   simp only [Nat.zero_add] at a0 a1 a2 a3 kb0 kb1 kb2 kb3
   clear SI ra rb b0 b1 b2 b3
   go_wp2_with (first | (go_at_call 132; refine CS.out.mono ?_; rintro e wa ⟨rfl, hc⟩; have BA := hidden (bl_trans hb.out (bl_trans B2 hc)); clear hc CS))
   go_roundw
   case rel => exact ⟨i + 1, by omega, by go_num, BA⟩
   case measure => simp [intOf]; omega
  ·obtain rfl : i = r := by omega
   have lq : ¬ (i : Int) < (i : Int) := by omega
   go_wp2_with fail
   refine bodyPost_ret (v := .bool true) (by simp [results, Tryz.results43, go_sem]) rfl ⟨rfl, hb.out⟩
open Go.RowKit
def q4 (z : E4) : List Value := [.int .u64 z.x0, .int .u64 z.x1, .int .u64 z.x2, .int .u64 z.x3]
def Bk (B : Nat) (W : World) (D i : Nat) (f : Nat → E4) (x : World) : Prop := Below B W x ∧ ∀ j, j < i → x.rangeAt D (j * 4) (q4 (f j))
section
variable {B : Nat} {W : World} {D i : Nat} {f : Nat → E4} {x x' : World}
theorem range_bl {b o : Nat} {cs : List Value} (h : x.rangeAt b o cs) (hb : Below x.heap.size x x') : x'.rangeAt b o cs := fun j u hu => cell_keep (h j u hu) hb
theorem there_part {w : World} {b o n : Nat} (h : w.there b 0 n) (ho : o + 4 ≤ n) : w.there b o 4 := fun j hj => by
 have := h (o + j) (by omega)
 rwa [Nat.zero_add] at this
theorem there_set {w : World} {b n : Nat} (h : w.there b 0 n) (c o : Nat) (vs : List Value) : (w.setCells c o vs).there b 0 n := fun j hj =>
 ⟨World.isSome_setCells c vs o w _ (h j hj).1, by rw [World.frozen?_setCells]; exact (h j hj).2⟩
theorem Bk.start (hB : B ≤ W.heap.size) (hd : ∀ j, j < i → W.rangeAt D (j * 4) (q4 (f j))) : Bk B W D i f W.drew := ⟨below_less (bl_drew W) hB, fun j hj => range_bl (hd j hj) (bl_drew W)⟩
theorem Bk.call (h : Bk B W D i f x) (hB : B ≤ W.heap.size) (hb : Below x.heap.size x x') : Bk B W D i f x' := ⟨h.1.trans (below_less hb (Nat.le_trans hB h.1.size)), fun j hj => range_bl (h.2 j hj) hb⟩
theorem Bk.app {b : Nat} (h : Bk B W D i f x) (hB : B ≤ W.heap.size) (hg : x.grownBy x' (some b)) (hk : ∀ k, some b = some k → B ≤ k) (hn : D ≠ b) : Bk B W D i f x' := ⟨below_trans h.1 (below_grown hg (Nat.le_trans hB h.1.size) hk), fun j hj d u hu => hg.cell (h.2 j hj d u hu) (fun e => hn (Option.some.inj e))⟩
theorem Bk.sto (h : Bk B W D i f x) (hB : B ≤ W.heap.size) (hD : B ≤ D) (r : E4) : Bk B W D i f (x.setCells D (i * 4) [.int .u64 r.x0, .int .u64 r.x1, .int .u64 r.x2, .int .u64 r.x3]) := ⟨below_trans h.1 (below_grown (gb_setCells D [.int .u64 r.x0, .int .u64 r.x1, .int .u64 r.x2, .int .u64 r.x3] (i * 4) _) (Nat.le_trans hB h.1.size) (fun k hk => by have := Option.some.inj hk; omega)), fun j hj => World.rangeAt_setCells_apart (h.2 j hj) _ _ _ (.inr (by simp [q4]; omega))⟩
end
theorem sim6 (Q : Exit → Act → World → Prop) (B T1 I D tl n cI rr i : Nat) (f : Nat → E4) (ch nz : E4) (xs : List Value) (im r : E4) (u0 u2 u5 u7 u8 u9 u10 u11 u12 u13 u14 u15 u16 u17 u18 u19 u20 u21 u22 u23 u24 u25 u26 u27 u28 u29 u30 u31 u32 u33 u34 u35 u36 u37 u38 u39 u40 u41 u42 u43 u44 u45 u46 u47 : Value) (W : World)
  (i0 : (0 : Int) ≤ (i : Int)) (i1 : (i : Int) < (rr : Int)) (hd : ∀ j, j < i → W.rangeAt D (j * 4) (q4 (f j))) (hBW : B ≤ W.heap.size) (hn : n ≤ 20) (l1 : T1 < B) (lI : I < B) (cc0 : W.cell? ⟨T1, 2, none⟩ = some (.int .u64 ch.x0)) (cc1 : W.cell? ⟨T1, 3, none⟩ = some (.int .u64 ch.x1)) (cc2 : W.cell? ⟨T1, 4, none⟩ = some (.int .u64 ch.x2)) (cc3 : W.cell? ⟨T1, 5, none⟩ = some (.int .u64 ch.x3)) (cI1 : W.cell? ⟨T1, 1, none⟩ = some (.slice (some ⟨I, 0, none⟩) rr cI)) (im0 : W.cell? ⟨I, i * 4, none⟩ = some (.int .u64 im.x0)) (im1 : W.cell? ⟨I, i * 4 + 1, none⟩ = some (.int .u64 im.x1)) (im2 : W.cell? ⟨I, i * 4 + 2, none⟩ = some (.int .u64 im.x2)) (im3 : W.cell? ⟨I, i * 4 + 3, none⟩ = some (.int .u64 im.x3))
  (ol : W.ownsRow B 106 8 (.slice (some ⟨tl, 0, none⟩) n n) n xs) (th : W.there D 0 (rr * 4)) (hBD : B ≤ D) (neD : D ≠ tl)
  (C5 : Hid (∀ x, Below B W x → Calls Tryz.prog 47 #[.agg #[.int .u64 ch.x0, .int .u64 ch.x1, .int .u64 ch.x2, .int .u64 ch.x3]] x fun e w' => e = .returned (.agg #[.int .u64 nz.x0, .int .u64 nz.x1, .int .u64 nz.x2, .int .u64 nz.x3]) ∧ Below x.heap.size x w'))
  (C15 : Hid (∀ (x : World) (v2 : Value), Below B W x → x.ownsRow B 106 8 v2 (n + 1) (xs ++ [.int .u64 nz.x0, .int .u64 nz.x1, .int .u64 nz.x2, .int .u64 nz.x3, .int .u64 im.x0, .int .u64 im.x1, .int .u64 im.x2, .int .u64 im.x3]) → Calls Tryz.prog 46 #[v2] x fun e w' => e = .returned (.agg #[.int .u64 r.x0, .int .u64 r.x1, .int .u64 r.x2, .int .u64 r.x3]) ∧ Below x.heap.size x w'))
  (HQ : Hid (∀ (v2 : Value) (tb : Nat) (wz : World), (∃ wy, Bk B W D i f wy ∧ wy.there D 0 (rr * 4) ∧ wz = wy.setCells D (i * 4) [.int .u64 r.x0, .int .u64 r.x1, .int .u64 r.x2, .int .u64 r.x3]) → Q .normal ⟨#[u0, .pointer (some ⟨T1, 0, none⟩), u2, .slice (some ⟨D, 0, none⟩) rr rr, .int .i64 (i : Int), u5, .slice (some ⟨tl, 0, none⟩) n n, u7, u8, u9, u10, u11, u12, u13, u14, u15, u16, u17, u18, u19, u20, u21, u22, u23, u24, u25, u26, u27, u28, .slice (some ⟨D, 0, none⟩) rr rr, .int .i64 (i : Int), .slice (some ⟨tl, 0, none⟩) n n, .pointer (some ⟨T1, 2, none⟩), .agg #[.int .u64 ch.x0, .int .u64 ch.x1, .int .u64 ch.x2, .int .u64 ch.x3], .agg #[.int .u64 nz.x0, .int .u64 nz.x1, .int .u64 nz.x2, .int .u64 nz.x3], .pointer (some ⟨T1, 0, none⟩), .pointer (some ⟨T1, 1, none⟩), .slice (some ⟨I, 0, none⟩) rr cI, .int .i64 (i : Int), .pointer (some ⟨I, i * 4, none⟩), .agg #[.int .u64 im.x0, .int .u64 im.x1, .int .u64 im.x2, .int .u64 im.x3], .agg #[.int .u64 nz.x0, .int .u64 nz.x1, .int .u64 nz.x2, .int .u64 nz.x3, .int .u64 im.x0, .int .u64 im.x1, .int .u64 im.x2, .int .u64 im.x3], .slice (some ⟨tb, 0, none⟩) 1 1, v2, .agg #[.int .u64 r.x0, .int .u64 r.x1, .int .u64 r.x2, .int .u64 r.x3], .pointer (some ⟨D, i * 4, none⟩), u46, u47], []⟩ wz)) : (Code.region 6 Li.si6o true).wp Tryz.prog Q ⟨#[u0, .pointer (some ⟨T1, 0, none⟩), u2, .slice (some ⟨D, 0, none⟩) rr rr, .int .i64 (i : Int), u5, .slice (some ⟨tl, 0, none⟩) n n, u7, u8, u9, u10, u11, u12, u13, u14, u15, u16, u17, u18, u19, u20, u21, u22, u23, u24, u25, u26, u27, u28, u29, u30, u31, u32, u33, u34, u35, u36, u37, u38, u39, u40, u41, u42, u43, u44, u45, u46, u47], []⟩ W := by
 obtain ⟨i0, hi, hz0, hz1, hz2⟩ := info_parts Li.tinfoL
 have HI := hidden hi
 have HZ0 := hidden hz0
 have HZ1 := hidden hz1
 have HZ2 := hidden hz2
 have HU : Hid (Tryz.prog.underlying 101 = some (.slice 106)) := hidden (by kernel_rfl)
 have H5 : Hid (∀ u ∈ ([.int .u64 nz.x0, .int .u64 nz.x1, .int .u64 nz.x2, .int .u64 nz.x3, .int .u64 im.x0, .int .u64 im.x1, .int .u64 im.x2, .int .u64 im.x3] : List Value), u.oneCell' = true) := hidden (by simp [Value.oneCell'])
 have OL := hidden ol.drew
 have TH := hidden (Li.there_bl th (bl_drew W))
 clear hi hz0 hz1 hz2 ol th
 unfold Li.si6o
 refine wp_region_noPanic ?_
 refine wp_region_held_drew (S := fun x => Bk B W D i f x) (by kernel_rfl) (Bk.start hBW hd) (fun hH0 => ?_)
 refine wpAnyH_take (i := 0) (oi := { dst := some 29, op := Op.move (Operand.tmp 3), type := 41, pos := "sigma.go:111", after := #[], guard := none }) (v := .slice (some ⟨D, 0, none⟩) rr rr) rfl (by kernel_rfl) (by kernel_rfl) (by kernel_rfl) (fun _ _ _ h => h) (Or.inl ⟨by rfl, fun w0 hSw => ?_⟩) hH0 ?_
 ·(clear hSw; go_simp)
 simp only [Act.put, sA, sB, sC]
 refine wpAnyH_take (i := 1) (oi := { dst := some 30, op := Op.move (Operand.tmp 4), type := 3, pos := "sigma.go:111", after := #[], guard := none }) (v := .int .i64 (i : Int)) rfl (by kernel_rfl) (by kernel_rfl) (by kernel_rfl) (fun _ _ _ h => h) (Or.inl ⟨by rfl, fun w0 hSw => ?_⟩) hH0 ?_
 ·(clear hSw; go_simp)
 simp only [Act.put, sA, sB, sC]
 refine wpAnyH_take (i := 2) (oi := { dst := some 31, op := Op.move (Operand.tmp 6), type := 101, pos := "sigma.go:111", after := #[], guard := none }) (v := .slice (some ⟨tl, 0, none⟩) n n) rfl (by kernel_rfl) (by kernel_rfl) (by kernel_rfl) (fun _ _ _ h => h) (Or.inl ⟨by rfl, fun w0 hSw => ?_⟩) hH0 ?_
 ·(clear hSw; go_simp)
 simp only [Act.put, sA, sB, sC]
 refine wpAnyH_take (i := 3) (oi := { dst := some 32, op := Op.fieldAddr 73 (Operand.tmp 1) 1, type := 0, pos := "sigma.go:111", after := #[], guard := none }) (v := .pointer (some ⟨T1, 2, none⟩)) rfl (by kernel_rfl) (by kernel_rfl) (by kernel_rfl) (fun _ _ _ h => h) (Or.inl ⟨by rfl, fun w0 hSw => ?_⟩) hH0 ?_
 ·(clear hSw; go_simp)
 simp only [Act.put, sA, sB, sC]
 refine wpAnyH_take (i := 6) (oi := { dst := some 35, op := Op.fieldAddr 73 (Operand.tmp 1) 0, type := 0, pos := "sigma.go:111", after := #[], guard := none }) (v := .pointer (some ⟨T1, 0, none⟩)) rfl (by kernel_rfl) (by kernel_rfl) (by kernel_rfl) (fun _ _ _ h => h) (Or.inl ⟨by rfl, fun w0 hSw => ?_⟩) hH0 ?_
 ·(clear hSw; go_simp)
 simp only [Act.put, sA, sB, sC]
 refine wpAnyH_take (i := 9) (oi := { dst := some 38, op := Op.move (Operand.tmp 4), type := 3, pos := "sigma.go:111", after := #[], guard := none }) (v := .int .i64 (i : Int)) rfl (by kernel_rfl) (by kernel_rfl) (by kernel_rfl) (fun _ _ _ h => h) (Or.inl ⟨by rfl, fun w0 hSw => ?_⟩) hH0 ?_
 ·(clear hSw; go_simp)
 simp only [Act.put, sA, sB, sC]
 refine wpAnyH_take (i := 4) (oi := { dst := some 33, op := Op.load 26 (Operand.tmp 32), type := 26, pos := "sigma.go:111", after := #[{ on := 3, ground := Ground.data }], guard := none }) (v := .agg #[.int .u64 ch.x0, .int .u64 ch.x1, .int .u64 ch.x2, .int .u64 ch.x3]) rfl (by kernel_rfl) (by kernel_rfl) (by kernel_rfl) (fun _ _ _ h => h) (Or.inl ⟨by rfl, fun w0 hSw => ?_⟩) hH0 ?_
 ·(have hS : Below B W w0 := hSw.1; have a0 := (hS.cell (p := ⟨T1, 2, none⟩) l1).trans cc0; have a1 := (hS.cell (p := ⟨T1, 3, none⟩) l1).trans cc1; have a2 := (hS.cell (p := ⟨T1, 4, none⟩) l1).trans cc2; have a3 := (hS.cell (p := ⟨T1, 5, none⟩) l1).trans cc3; clear hS hSw; go_simp)
 simp only [Act.put, sA, sB, sC]
 refine wpAnyH_take (i := 7) (oi := { dst := some 36, op := Op.fieldAddr 43 (Operand.tmp 35) 1, type := 0, pos := "sigma.go:111", after := #[{ on := 6, ground := Ground.data }], guard := none }) (v := .pointer (some ⟨T1, 1, none⟩)) rfl (by kernel_rfl) (by kernel_rfl) (by kernel_rfl) (fun _ _ _ h => h) (Or.inl ⟨by rfl, fun w0 hSw => ?_⟩) hH0 ?_
 ·(clear hSw; go_simp)
 simp only [Act.put, sA, sB, sC]
 refine wpAnyH_take (i := 8) (oi := { dst := some 37, op := Op.load 41 (Operand.tmp 36), type := 41, pos := "sigma.go:111", after := #[{ on := 7, ground := Ground.data }], guard := none }) (v := .slice (some ⟨I, 0, none⟩) rr cI) rfl (by kernel_rfl) (by kernel_rfl) (by kernel_rfl) (fun _ _ _ h => h) (Or.inl ⟨by rfl, fun w0 hSw => ?_⟩) hH0 ?_
 ·(have hS : Below B W w0 := hSw.1; have a0 := (hS.cell (p := ⟨T1, 1, none⟩) l1).trans cI1; clear hS hSw; go_simp)
 simp only [Act.put, sA, sB, sC]
 refine wpAnyH_take (i := 10) (oi := { dst := some 39, op := Op.indexAddr 41 (Operand.tmp 37) (Operand.tmp 38), type := 0, pos := "sigma.go:111", after := #[{ on := 8, ground := Ground.data }, { on := 9, ground := Ground.data }], guard := none }) (v := .pointer (some ⟨I, i * 4, none⟩)) rfl (by kernel_rfl) (by kernel_rfl) (by kernel_rfl) (fun _ _ _ h => h) (Or.inl ⟨by rfl, fun w0 hSw => ?_⟩) hH0 ?_
 ·(clear hSw; go_simp)
 simp only [Act.put, sA, sB, sC]
 refine wpAnyH_take (i := 11) (oi := { dst := some 40, op := Op.load 39 (Operand.tmp 39), type := 39, pos := "sigma.go:111", after := #[{ on := 10, ground := Ground.data }], guard := none }) (v := .agg #[.int .u64 im.x0, .int .u64 im.x1, .int .u64 im.x2, .int .u64 im.x3]) rfl (by kernel_rfl) (by kernel_rfl) (by kernel_rfl) (fun _ _ _ h => h) (Or.inl ⟨by rfl, fun w0 hSw => ?_⟩) hH0 ?_
 ·(have hS : Below B W w0 := hSw.1; have a0 := (hS.cell (p := ⟨I, i * 4, none⟩) lI).trans im0; have a1 := (hS.cell (p := ⟨I, i * 4 + 1, none⟩) lI).trans im1; have a2 := (hS.cell (p := ⟨I, i * 4 + 2, none⟩) lI).trans im2; have a3 := (hS.cell (p := ⟨I, i * 4 + 3, none⟩) lI).trans im3; clear hS hSw; go_simp)
 simp only [Act.put, sA, sB, sC]
 refine wpAnyH_ready (rs := [5]) (by kernel_rfl) (by simp) ?_
 refine AllReadyH.cons (o := { dst := some 34, op := Op.call { callee := Callee.value (Operand.func 47), args := #[Operand.tmp 33], argTypes := #[26] }, type := 26, pos := "sigma.go:111", after := #[{ on := 4, ground := Ground.data }], guard := none }) rfl (fun K hK => ?_) AllReadyH.nil
 have HH := hidden hH0
 clear hH0
 go_simp
 refine (C5.out _ HH.out.1).mono ?_
 rintro e wn1 ⟨rfl, hb⟩
 replace OL := hidden (own_keep5 OL.out hb)
 replace TH := hidden (Li.there_bl TH.out hb)
 have SN := hidden (HH.out.call hBW hb)
 clear HH C5 hb
 go_wp2_with fail
 refine hK.out _ _ SN.out (fun hH1 => ?_)
 clear hK K SN
 refine wpAnyH_take (i := 12) (oi := { dst := some 41, op := Op.build 106 #[(0, Operand.tmp 34), (1, Operand.tmp 40)], type := 106, pos := "sigma.go:111", after := #[{ on := 5, ground := Ground.data }, { on := 11, ground := Ground.data }], guard := none }) (v := .agg #[.int .u64 nz.x0, .int .u64 nz.x1, .int .u64 nz.x2, .int .u64 nz.x3, .int .u64 im.x0, .int .u64 im.x1, .int .u64 im.x2, .int .u64 im.x3]) rfl (by kernel_rfl) (by kernel_rfl) (by kernel_rfl) (fun _ _ _ h => h) (Or.inl ⟨by rfl, fun w0 hSw => ?_⟩) hH1 ?_
 ·(clear hSw; go_simp)
 simp only [Act.put, sA, sB, sC]
 refine wpAnyH_ready (rs := [13]) (by kernel_rfl) (by simp) ?_
 refine AllReadyH.cons (o := { dst := some 42, op := Op.buildSlice 101 1 #[(0, Operand.tmp 41)], type := 101, pos := "sigma.go:111", after := #[{ on := 12, ground := Ground.data }], guard := none }) rfl (fun K hK => ?_) AllReadyH.nil
 have HH := hidden hH1
 clear hH1
 refine Li.wp_buildT (.tmp 41) rfl nz im rfl (fun tb wn2 htb hb hcb => ?_)
 replace OL := hidden (own_keep5 OL.out hb)
 replace TH := hidden (Li.there_bl TH.out hb)
 have CB := hidden (hcb)
 have SN := hidden (HH.out.call hBW hb)
 clear HH htb hb hcb
 simp only [Act.put, sA, sB, sC]
 refine hK.out _ _ SN.out (fun hH2 => ?_)
 clear hK K SN
 refine wpAnyH_ready (rs := [14]) (by kernel_rfl) (by simp) ?_
 refine AllReadyH.cons (o := { dst := some 43, op := Op.call { callee := Callee.builtin Builtin.append, args := #[Operand.tmp 31, Operand.tmp 42], argTypes := #[101, 101] }, type := 101, pos := "sigma.go:111", after := #[{ on := 2, ground := Ground.data }, { on := 13, ground := Ground.data }, { on := 5, ground := Ground.chain }], guard := none }) rfl (fun K hK => ?_) AllReadyH.nil
 have HH := hidden hH2
 clear hH2
 refine wp_append_own _ (.tmp 31) (.tmp 42) 101 rfl B 106 i0 (.agg #[.int .u64 0, .int .u64 0, .int .u64 0, .int .u64 0, .int .u64 0, .int .u64 0, .int .u64 0, .int .u64 0]) 8 64 HU.out HI.out HZ0.out HZ1.out HZ2.out rfl (by decide) (.slice (some ⟨tl, 0, none⟩) n n) n xs rfl OL.out ⟨tb, 0, none⟩ 1 1 [.int .u64 nz.x0, .int .u64 nz.x1, .int .u64 nz.x2, .int .u64 nz.x3, .int .u64 im.x0, .int .u64 im.x1, .int .u64 im.x2, .int .u64 im.x3] rfl (by simp) CB.out H5.out (by unfold maxLen; omega) (by omega) (Nat.le_trans hBW HH.out.1.size) (fun v2 wn3 hO hG _ => ?_)
 have O2 := hidden (hO)
 replace TH := hidden (there_gb TH.out hG neD)
 have SN := hidden (HH.out.app hBW hG (fun k hk => (OL.out.lt k hk).1) neD)
 clear HH OL CB hO hG
 simp only [Act.put, sA, sB, sC]
 refine hK.out _ _ SN.out (fun hH3 => ?_)
 clear hK K SN
 refine wpAnyH_ready (rs := [15]) (by kernel_rfl) (by simp) ?_
 refine AllReadyH.cons (o := { dst := some 44, op := Op.call { callee := Callee.value (Operand.func 46), args := #[Operand.tmp 43], argTypes := #[101] }, type := 39, pos := "sigma.go:111", after := #[{ on := 14, ground := Ground.data }, { on := 14, ground := Ground.chain }], guard := none }) rfl (fun K hK => ?_) AllReadyH.nil
 have HH := hidden hH3
 clear hH3
 go_simp
 refine (C15.out _ v2 HH.out.1 O2.out).mono ?_
 rintro e wn4 ⟨rfl, hb⟩
 replace TH := hidden (Li.there_bl TH.out hb)
 have SN := hidden (HH.out.call hBW hb)
 clear HH C15 hb O2
 go_wp2_with fail
 refine hK.out _ _ SN.out (fun hH4 => ?_)
 clear hK K SN
 refine wpAnyH_take (i := 16) (oi := { dst := some 45, op := Op.indexAddr 41 (Operand.tmp 29) (Operand.tmp 30), type := 0, pos := "sigma.go:111", after := #[{ on := 0, ground := Ground.data }, { on := 1, ground := Ground.data }, { on := 0, ground := Ground.phase }, { on := 1, ground := Ground.phase }, { on := 2, ground := Ground.phase }, { on := 3, ground := Ground.phase }, { on := 4, ground := Ground.phase }, { on := 5, ground := Ground.phase }, { on := 6, ground := Ground.phase }, { on := 7, ground := Ground.phase }, { on := 8, ground := Ground.phase }, { on := 9, ground := Ground.phase }, { on := 10, ground := Ground.phase }, { on := 11, ground := Ground.phase }, { on := 12, ground := Ground.phase }, { on := 13, ground := Ground.phase }, { on := 14, ground := Ground.phase }, { on := 15, ground := Ground.phase }], guard := none }) (v := .pointer (some ⟨D, i * 4, none⟩)) rfl (by kernel_rfl) (by kernel_rfl) (by kernel_rfl) (fun _ _ _ h => h) (Or.inl ⟨by rfl, fun w0 hSw => ?_⟩) hH4 ?_
 ·(clear hSw; go_simp)
 simp only [Act.put, sA, sB, sC]
 refine wpAnyH_ready (rs := [17]) (by kernel_rfl) (by simp) ?_
 refine AllReadyH.cons (o := { dst := none, op := Op.store 39 (Operand.tmp 45) (Operand.tmp 44), type := 0, pos := "sigma.go:111", after := #[{ on := 16, ground := Ground.data }, { on := 15, ground := Ground.data }, { on := 15, ground := Ground.chain }, { on := 0, ground := Ground.phase }, { on := 1, ground := Ground.phase }, { on := 2, ground := Ground.phase }, { on := 3, ground := Ground.phase }, { on := 4, ground := Ground.phase }, { on := 5, ground := Ground.phase }, { on := 6, ground := Ground.phase }, { on := 7, ground := Ground.phase }, { on := 8, ground := Ground.phase }, { on := 9, ground := Ground.phase }, { on := 10, ground := Ground.phase }, { on := 11, ground := Ground.phase }, { on := 12, ground := Ground.phase }, { on := 13, ground := Ground.phase }, { on := 14, ground := Ground.phase }, { on := 15, ground := Ground.phase }], guard := none }) rfl (fun K hK => ?_) AllReadyH.nil
 have HH := hidden hH4
 clear hH4
 refine wp_storeE 39 _ _ rfl D (i * 4) ([.int .u64 r.x0, .int .u64 r.x1, .int .u64 r.x2, .int .u64 r.x3]) (by rfl) (by rfl) (there_part TH.out (by omega)) Li.i4_L (one4 r) rfl (fun wn5 hw => ?_)
 have SN := hidden (HH.out.sto hBW hBD r)
 have FE := hidden ((⟨_, HH.out, TH.out, hw⟩ : ∃ wy, Bk B W D i f wy ∧ wy.there D 0 (rr * 4) ∧ _ = wy.setCells D (i * 4) [.int .u64 r.x0, .int .u64 r.x1, .int .u64 r.x2, .int .u64 r.x3]))
 rw [← hw] at SN
 clear HH hw
 refine hK.out _ _ SN.out (fun hH5 => ?_)
 clear hK K SN
 have HH := hidden hH5
 have FQ := hidden (HQ.out v2 tb _ FE.out)
 refine wpAnyH_done (by kernel_rfl) ?_ _
 refine NoPanic.normal ?_
 exact FQ.out
open Go.RowKit
def Fs (n : Nat) (ks : Nat → E4) (gs : Nat → Nat → E4) (ch : E4) (im : Nat → E4) (i : Nat) : E4 := lst (tot (fun q => (ks q).n * (gs i q).n) n + -ch.n * (im i).n)
def St (B : Nat) (w2 : World) (D r i : Nat) (F : Nat → E4) (x : World) : Prop := Below B w2 x ∧ x.there D 0 (r * 4) ∧ ∀ j, j < i → x.rangeAt D (j * 4) (q4 (F j))
theorem St.next {B D r i : Nat} {w2 wa wy : World} {F : Nat → E4} {z : E4} (hy : Bk B wa D i F wy) (ht : wy.there D 0 (r * 4)) (ba : Below B w2 wa) (hB : B ≤ wa.heap.size ∧ B ≤ D) (hi : i < r) (hz : F i = z) : St B w2 D r (i + 1) F (wy.setCells D (i * 4) [.int .u64 z.x0, .int .u64 z.x1, .int .u64 z.x2, .int .u64 z.x3]) := by
 have h := hy.sto hB.1 hB.2 z
 refine ⟨below_trans ba h.1, there_set ht D (i * 4) _, fun j hj => ?_⟩
 by_cases q : j < i
 ·exact h.2 j q
 ·obtain rfl : j = i := by omega
  rw [hz]
  exact World.rangeAt_setCells_same wy D (j * 4) [.int .u64 z.x0, .int .u64 z.x1, .int .u64 z.x2, .int .u64 z.x3] (there_part ht (by omega))
theorem simR (R I r n cR cI cx : Nat) (g cn : Nat → Nat) (Px : Option Addr) (ch : E4) (ks : Nat → E4) (gs : Nat → Nat → E4) (im : Nat → E4) (w : World) (hr1 : 1 ≤ r) (hr2 : r ≤ 64) (hn : n ≤ 20) (hn1 : 1 ≤ n) (hT : Tb w) (hch : ch.ok) (hl : Lm w Px n ks) (ok : ∀ i, i < n → (ks i).ok) (hC : Cl w R I r n g cn gs im) :
  Calls Tryz.prog 29 #[.agg #[.slice (some ⟨R, 0, none⟩) r cR, .slice (some ⟨I, 0, none⟩) r cI, .int .u64 ch.x0, .int .u64 ch.x1, .int .u64 ch.x2, .int .u64 ch.x3, .slice Px n cx]] w fun e w' => ∃ D : Nat, e = .returned (.slice (some ⟨D, 0, none⟩) r r) ∧ w.heap.size ≤ D ∧ (∀ j, j < r → w'.rangeAt D (j * 4) (q4 ((Fs n ks gs ch im) j))) ∧ Below w.heap.size w w' := by
 obtain ⟨i0, hi, hz0, hz1, hz2⟩ := info_parts Li.linfo
 have hmk := fun w => run_make (P := Tryz.prog) w 41 39 i0 (.agg #[.int .u64 0, .int .u64 0, .int .u64 0, .int .u64 0]) (by kernel_rfl) hi hz0 .i64 .i64 (r : Int) (r : Int) (by omega) (Int.le_refl _) (by rw [hz2]; omega) (by omega)
 simp only [Int.toNat_natCast, hz1, Value.cells] at hmk
 clear hi hz0 hz1 hz2
 have B1 := bl_alloc w (.cells #[.slice (some ⟨R, 0, none⟩) r cR, .slice (some ⟨I, 0, none⟩) r cI, .int .u64 ch.x0, .int .u64 ch.x1, .int .u64 ch.x2, .int .u64 ch.x3, .slice Px n cx] 73)
 have B2 := bl_trans B1 (bl_alloc (w.alloc (.cells #[.slice (some ⟨R, 0, none⟩) r cR, .slice (some ⟨I, 0, none⟩) r cI, .int .u64 ch.x0, .int .u64 ch.x1, .int .u64 ch.x2, .int .u64 ch.x3, .slice Px n cx] 73)) (.cells (madeCells #[.int .u64 0, .int .u64 0, .int .u64 0, .int .u64 0] (r * 4)) 39))
 have e0 : ((w.alloc (.cells #[.slice (some ⟨R, 0, none⟩) r cR, .slice (some ⟨I, 0, none⟩) r cI, .int .u64 ch.x0, .int .u64 ch.x1, .int .u64 ch.x2, .int .u64 ch.x3, .slice Px n cx] 73)).alloc (.cells (madeCells #[.int .u64 0, .int .u64 0, .int .u64 0, .int .u64 0] (r * 4)) 39)).cell? ⟨w.heap.size, 0, none⟩ = some (.slice (some ⟨R, 0, none⟩) r cR) := cell_keep (by go_simp) (bl_alloc _ _)
 have e1 : ((w.alloc (.cells #[.slice (some ⟨R, 0, none⟩) r cR, .slice (some ⟨I, 0, none⟩) r cI, .int .u64 ch.x0, .int .u64 ch.x1, .int .u64 ch.x2, .int .u64 ch.x3, .slice Px n cx] 73)).alloc (.cells (madeCells #[.int .u64 0, .int .u64 0, .int .u64 0, .int .u64 0] (r * 4)) 39)).cell? ⟨w.heap.size, 1, none⟩ = some (.slice (some ⟨I, 0, none⟩) r cI) := cell_keep (by go_simp) (bl_alloc _ _)
 have c0 : ((w.alloc (.cells #[.slice (some ⟨R, 0, none⟩) r cR, .slice (some ⟨I, 0, none⟩) r cI, .int .u64 ch.x0, .int .u64 ch.x1, .int .u64 ch.x2, .int .u64 ch.x3, .slice Px n cx] 73)).alloc (.cells (madeCells #[.int .u64 0, .int .u64 0, .int .u64 0, .int .u64 0] (r * 4)) 39)).cell? ⟨w.heap.size, 2, none⟩ = some (.int .u64 ch.x0) := cell_keep (by go_simp) (bl_alloc _ _)
 have c1 : ((w.alloc (.cells #[.slice (some ⟨R, 0, none⟩) r cR, .slice (some ⟨I, 0, none⟩) r cI, .int .u64 ch.x0, .int .u64 ch.x1, .int .u64 ch.x2, .int .u64 ch.x3, .slice Px n cx] 73)).alloc (.cells (madeCells #[.int .u64 0, .int .u64 0, .int .u64 0, .int .u64 0] (r * 4)) 39)).cell? ⟨w.heap.size, 3, none⟩ = some (.int .u64 ch.x1) := cell_keep (by go_simp) (bl_alloc _ _)
 have c2 : ((w.alloc (.cells #[.slice (some ⟨R, 0, none⟩) r cR, .slice (some ⟨I, 0, none⟩) r cI, .int .u64 ch.x0, .int .u64 ch.x1, .int .u64 ch.x2, .int .u64 ch.x3, .slice Px n cx] 73)).alloc (.cells (madeCells #[.int .u64 0, .int .u64 0, .int .u64 0, .int .u64 0] (r * 4)) 39)).cell? ⟨w.heap.size, 4, none⟩ = some (.int .u64 ch.x2) := cell_keep (by go_simp) (bl_alloc _ _)
 have c3 : ((w.alloc (.cells #[.slice (some ⟨R, 0, none⟩) r cR, .slice (some ⟨I, 0, none⟩) r cI, .int .u64 ch.x0, .int .u64 ch.x1, .int .u64 ch.x2, .int .u64 ch.x3, .slice Px n cx] 73)).alloc (.cells (madeCells #[.int .u64 0, .int .u64 0, .int .u64 0, .int .u64 0] (r * 4)) 39)).cell? ⟨w.heap.size, 5, none⟩ = some (.int .u64 ch.x3) := cell_keep (by go_simp) (bl_alloc _ _)
 have e6 : ((w.alloc (.cells #[.slice (some ⟨R, 0, none⟩) r cR, .slice (some ⟨I, 0, none⟩) r cI, .int .u64 ch.x0, .int .u64 ch.x1, .int .u64 ch.x2, .int .u64 ch.x3, .slice Px n cx] 73)).alloc (.cells (madeCells #[.int .u64 0, .int .u64 0, .int .u64 0, .int .u64 0] (r * 4)) 39)).cell? ⟨w.heap.size, 6, none⟩ = some (.slice Px n cx) := cell_keep (by go_simp) (bl_alloc _ _)
 have th : ((w.alloc (.cells #[.slice (some ⟨R, 0, none⟩) r cR, .slice (some ⟨I, 0, none⟩) r cI, .int .u64 ch.x0, .int .u64 ch.x1, .int .u64 ch.x2, .int .u64 ch.x3, .slice Px n cx] 73)).alloc (.cells (madeCells #[.int .u64 0, .int .u64 0, .int .u64 0, .int .u64 0] (r * 4)) 39)).there (w.heap.size + 1) 0 (r * 4) := by
  have := there_newM (w.alloc (.cells #[.slice (some ⟨R, 0, none⟩) r cR, .slice (some ⟨I, 0, none⟩) r cI, .int .u64 ch.x0, .int .u64 ch.x1, .int .u64 ch.x2, .int .u64 ch.x3, .slice Px n cx] 73)) (madeCells #[.int .u64 0, .int .u64 0, .int .u64 0, .int .u64 0] (r * 4)).toList 39
  simpa [World.size_alloc, size_madeCells] using this
 have SZ2 : ((w.alloc (.cells #[.slice (some ⟨R, 0, none⟩) r cR, .slice (some ⟨I, 0, none⟩) r cI, .int .u64 ch.x0, .int .u64 ch.x1, .int .u64 ch.x2, .int .u64 ch.x3, .slice Px n cx] 73)).alloc (.cells (madeCells #[.int .u64 0, .int .u64 0, .int .u64 0, .int .u64 0] (r * 4)) 39)).heap.size = w.heap.size + 1 + 1 := by simp only [World.size_alloc]
 have lI := World.block_lt_of_cell? w _ (hC.ri.c0 0 (by omega))
 obtain ⟨nz, hnz⟩ : ∃ nz, lst (-ch.n) = nz := ⟨_, rfl⟩
 have nzok : nz.ok := hnz ▸ lst_ok _
 have HC := hidden hC
 have HL := hidden hl
 have HT := hidden hT
 have HO := hidden ok
 have HR2 := hidden hr2
 have CH := hidden hch
 clear hC hl hT ok hch
 go_enter Tryz.func29, Tryz.ntmps29
 go_upto_region 2 with fail
 generalize ((w.alloc (.cells #[.slice (some ⟨R, 0, none⟩) r cR, .slice (some ⟨I, 0, none⟩) r cI, .int .u64 ch.x0, .int .u64 ch.x1, .int .u64 ch.x2, .int .u64 ch.x3, .slice Px n cx] 73)).alloc (.cells (madeCells #[.int .u64 0, .int .u64 0, .int .u64 0, .int .u64 0] (r * 4)) 39)) = w2 at *
 clear hmk
 go_wp2_with fail
 go_loopw [17] (fun iv w' => ∃ i : Nat, i ≤ r ∧ iv = .int .i64 i ∧ Hid (St (w.heap.size + 1) w2 (w.heap.size + 1) r i (Fs n ks gs ch im) w')) (fun i _ => r - (intOf i).toNat)
 case atStart => exact ⟨0, by omega, rfl, hidden ⟨Below.refl _ _, th, fun j hj => absurd hj (by omega)⟩⟩
 case round =>
  obtain ⟨i, hi, rfl, hS⟩ := hrel
  by_cases hin : i < r
  ·have i0 : (0 : Int) ≤ (i : Int) := by omega
   have i1 : (i : Int) < (r : Int) := by omega
   have w9 : IntKind.i64.wrap ((i : Int) + 1) = (i : Int) + 1 := IntWalk.i64_in _ (by have := HR2.out; omega)
   have BW := hidden (below_trans B2 (below_less hS.out.1 (Nat.le_succ _)))
   have s6 := (hS.out.1.cell (p := ⟨w.heap.size, 6, none⟩) (Nat.lt_succ_self _)).trans e6
   have ri := cell_keep (HC.out.row i hin) BW.out
   have ZC := hidden (Li.zip_any Px (g i) n cx (cn i) ks (gs i) wr (by omega) (HL.out.keep BW.out) ((HC.out.rl i hin).keep BW.out))
   have OG := hidden (HC.out.ok i hin)
   have OI := hidden (HC.out.oi i hin)
   have m0 := HC.out.ri.c0 i hin
   have m1 := HC.out.ri.c1 i hin
   have m2 := HC.out.ri.c2 i hin
   have m3 := HC.out.ri.c3 i hin
   rw [Nat.zero_add] at m0 m1 m2 m3
   have MI := hidden (And.intro m0 (And.intro m1 (And.intro m2 m3)))
   clear m0 m1 m2 m3
   obtain ⟨rv, hrr⟩ : ∃ rv, (Fs n ks gs ch im) i = rv := ⟨_, rfl⟩
   have hr3 := (Li.k1_sum n ks (gs i) nz (im i) ch hnz).trans hrr
   generalize g i = gi at *
   generalize cn i = ci at *
   generalize hgi : gs i = G at *
   generalize hii : im i = mi at *
   go_upto_region 6 with (first | (go_at_call 45; refine ZC.out.mono ?_; rintro e wa ⟨tl, rfl, hl0, rl, ba⟩; have HA := hidden (And.intro hl0 (And.intro rl ba)); clear hl0 rl ba ZC))
   obtain ⟨hl0, rl, ba⟩ := HA.out
   have sr := hS.out.1.size
   have sa := ba.size
   have BA : Below (w.heap.size + 1) w2 wa := below_trans hS.out.1 (below_less ba (by omega))
   have KA : ∀ {p : Addr} {v : Value}, w2.cell? p = some v → p.block < w.heap.size + 1 → wa.cell? p = some v := fun h l => (BA.cell l).trans h
   have AL : ∀ x, Below (w.heap.size + 1) wa x → Below w.heap.size w x := fun x hx => below_trans (bl_trans BW.out (below_less ba (Nat.le_refl _))) (below_less hx (by omega))
   have ol := Li.rowIs_own8 rl (B := w.heap.size + 1) (by omega) (by omega)
   have C5 := hidden (fun (x : World) (hx : Below (w.heap.size + 1) wa x) => fix (R := lst (-ch.n)) (Neg_any ch x (HT.out.keep (AL x hx)) CH.out) rfl)
   rw [hnz] at C5
   have rj := Li.rows_join1 n ks G nz mi
   have C15 := hidden (fun (x : World) (v2 : Value) (hx : Below (w.heap.size + 1) wa x) (hO : x.ownsRow (w.heap.size + 1) 106 8 v2 (n + 1) ((List.range (n * 8)).map (Li.tvl ks G) ++ [.int .u64 nz.x0, .int .u64 nz.x1, .int .u64 nz.x2, .int .u64 nz.x3, .int .u64 mi.x0, .int .u64 mi.x1, .int .u64 mi.x2, .int .u64 mi.x3])) => show Calls Tryz.prog 46 #[v2] x fun e w' => e = .returned (.agg #[.int .u64 rv.x0, .int .u64 rv.x1, .int .u64 rv.x2, .int .u64 rv.x3]) ∧ Below x.heap.size x w' by
    rw [rj] at hO
    obtain ⟨gg, cap, rfl, hgB, hcap⟩ := Li.own_shape8 hO (by omega)
    have TC := Li.total_any gg 0 (n + 1) cap (Li.k1 n ks nz) (fun q _ => (Li.k1 n G mi q).n) x (by omega) (by omega) hcap (HT.out.keep (AL x hx)) (Li.own_tm8 hO (fun i hi => Li.k1_ok HO.out nzok i hi) (fun i hi => Li.k1_ok OG.out OI.out i hi))
    rw [hr3] at TC
    exact TC)
   refine sim6 _ (w.heap.size + 1) w.heap.size I (w.heap.size + 1) tl n cI r i (Fs n ks gs ch im) ch nz _ mi rv _ _ _ _ _ _ _ _ _ _ _ _ _ _ _ _ _ _ _ _ _ _ _ _ _ _ _ _ _ _ _ _ _ _ _ _ _ _ _ _ _ _ _ _ wa i0 i1 (fun j hj => range_bl (hS.out.2.2 j hj) ba) (by omega) hn (by omega) (by first | omega | (simp only at lI; omega)) (KA c0 (Nat.lt_succ_self _)) (KA c1 (Nat.lt_succ_self _)) (KA c2 (Nat.lt_succ_self _)) (KA c3 (Nat.lt_succ_self _)) (KA e1 (Nat.lt_succ_self _)) (cell_keep MI.out.1 (bl_trans BW.out (below_less ba (Nat.le_refl _)))) (cell_keep MI.out.2.1 (bl_trans BW.out (below_less ba (Nat.le_refl _)))) (cell_keep MI.out.2.2.1 (bl_trans BW.out (below_less ba (Nat.le_refl _)))) (cell_keep MI.out.2.2.2 (bl_trans BW.out (below_less ba (Nat.le_refl _)))) ol (Li.there_bl hS.out.2.1 ba) (Nat.le_refl _) (by omega) C5 C15 (hidden ?_)
   intro v2 tb wz hz
   have PN : Hid (St (w.heap.size + 1) w2 (w.heap.size + 1) r (i + 1) (Fs n ks gs ch im) wz) := hidden (by
    obtain ⟨wy, hy, hty, rfl⟩ := hz
    exact St.next hy hty BA (by omega) hin hrr)
   clear C5 C15 ol rl rj AL HA hz KA hS
   go_wp2_with fail
   go_roundw
   case rel => exact ⟨i + 1, by omega, by go_num, PN⟩
   case measure => simp [intOf]; omega
  ·obtain rfl : i = r := by omega
   have lq : ¬ (i : Int) < (i : Int) := by omega
   go_wp2_with fail
   refine bodyPost_ret (v := .slice (some ⟨w.heap.size + 1, 0, none⟩) i i) (by simp [results, Tryz.results29, go_sem]) rfl ⟨w.heap.size + 1, rfl, by omega, hS.out.2.2, below_trans B2 (below_less hS.out.1 (Nat.le_succ _))⟩
open Go.RowKit
def Ff (n : Nat) (ks : Nat → E4) (gs : Nat → Nat → E4) (i : Nat) : E4 := lst (tot (fun q => (ks q).n * (gs i q).n) n)
theorem totalN (t n : Nat) (ks G : Nat → E4) (x : World) (hn1 : 1 ≤ n) (hn : n ≤ 50) (hT : Tb x) (ok : ∀ i, i < n → (ks i).ok) (og : ∀ i, i < n → (G i).ok) (h : x.rowIs t 106 (n * 8) (Li.tvl ks G)) :
  Calls Tryz.prog 46 #[.slice (some ⟨t, 0, none⟩) n n] x fun e w' => e = .returned (lst (tot (fun q => (ks q).n * (G q).n) n)).v ∧ Below x.heap.size x w' := by
 by_cases h2 : 2 ≤ n
 ·exact Li.total_any t 0 n n ks (fun q _ => (G q).n) x h2 hn (Nat.le_refl _) hT (Li.own_tm8 (Li.rowIs_own8 h (Nat.zero_le _) (by omega)) ok og)
 ·obtain rfl : n = 1 := by omega
  have e : lst (zero4.n + (lst ((G 0).n * (ks 0).n)).n) = lst (tot (fun q => (ks q).n * (G q).n) 1) := by
   rw [tot, tot, Int.mul_comm (G 0).n]
   exact lst_two rfl (lst_n' _)
  have := Li.total1 t 0 1 (ks 0) (G 0) _ _ x hT (ok 0 (by omega)) (og 0 (by omega)) rfl rfl (Li.range4 (by rw [h.cell (by omega)]; exact congrArg some (Li.tvl0 ks G 0)) (by rw [h.cell (by omega)]; exact congrArg some (Li.tvl1 ks G 0)) (by rw [h.cell (by omega)]; exact congrArg some (Li.tvl2 ks G 0)) (by rw [h.cell (by omega)]; exact congrArg some (Li.tvl3 ks G 0))) (Li.range4 (by rw [h.cell (by omega)]; exact congrArg some (Li.tvl4 ks G 0)) (by rw [h.cell (by omega)]; exact congrArg some (Li.tvl5 ks G 0)) (by rw [h.cell (by omega)]; exact congrArg some (Li.tvl6 ks G 0)) (by rw [h.cell (by omega)]; exact congrArg some (Li.tvl7 ks G 0)))
  rw [e] at this
  exact this
theorem firstR (R I r n cR cI cx : Nat) (g cn : Nat → Nat) (Px : Option Addr) (ch : E4) (ks : Nat → E4) (gs : Nat → Nat → E4) (im : Nat → E4) (w : World) (hr1 : 1 ≤ r) (hr2 : r ≤ 64) (hn : n ≤ 20) (hn1 : 1 ≤ n) (hT : Tb w) (hch : ch.ok) (hl : Lm w Px n ks) (ok : ∀ i, i < n → (ks i).ok) (hC : Cl w R I r n g cn gs im) :
  Calls Tryz.prog 28 #[.agg #[.slice (some ⟨R, 0, none⟩) r cR, .slice (some ⟨I, 0, none⟩) r cI, .int .u64 ch.x0, .int .u64 ch.x1, .int .u64 ch.x2, .int .u64 ch.x3, .slice Px n cx]] w fun e w' => ∃ D : Nat, e = .returned (.slice (some ⟨D, 0, none⟩) r r) ∧ w.heap.size ≤ D ∧ (∀ j, j < r → w'.rangeAt D (j * 4) (q4 ((Ff n ks gs) j))) ∧ Below w.heap.size w w' := by
 obtain ⟨i0, hi, hz0, hz1, hz2⟩ := info_parts Li.linfo
 have hmk := fun w => run_make (P := Tryz.prog) w 41 39 i0 (.agg #[.int .u64 0, .int .u64 0, .int .u64 0, .int .u64 0]) (by kernel_rfl) hi hz0 .i64 .i64 (r : Int) (r : Int) (by omega) (Int.le_refl _) (by rw [hz2]; omega) (by omega)
 simp only [Int.toNat_natCast, hz1, Value.cells] at hmk
 clear hi hz0 hz1 hz2
 have B1 := bl_alloc w (.cells #[.slice (some ⟨R, 0, none⟩) r cR, .slice (some ⟨I, 0, none⟩) r cI, .int .u64 ch.x0, .int .u64 ch.x1, .int .u64 ch.x2, .int .u64 ch.x3, .slice Px n cx] 73)
 have B2 := bl_trans B1 (bl_alloc (w.alloc (.cells #[.slice (some ⟨R, 0, none⟩) r cR, .slice (some ⟨I, 0, none⟩) r cI, .int .u64 ch.x0, .int .u64 ch.x1, .int .u64 ch.x2, .int .u64 ch.x3, .slice Px n cx] 73)) (.cells (madeCells #[.int .u64 0, .int .u64 0, .int .u64 0, .int .u64 0] (r * 4)) 39))
 have e0 : ((w.alloc (.cells #[.slice (some ⟨R, 0, none⟩) r cR, .slice (some ⟨I, 0, none⟩) r cI, .int .u64 ch.x0, .int .u64 ch.x1, .int .u64 ch.x2, .int .u64 ch.x3, .slice Px n cx] 73)).alloc (.cells (madeCells #[.int .u64 0, .int .u64 0, .int .u64 0, .int .u64 0] (r * 4)) 39)).cell? ⟨w.heap.size, 0, none⟩ = some (.slice (some ⟨R, 0, none⟩) r cR) := cell_keep (by go_simp) (bl_alloc _ _)
 have e1 : ((w.alloc (.cells #[.slice (some ⟨R, 0, none⟩) r cR, .slice (some ⟨I, 0, none⟩) r cI, .int .u64 ch.x0, .int .u64 ch.x1, .int .u64 ch.x2, .int .u64 ch.x3, .slice Px n cx] 73)).alloc (.cells (madeCells #[.int .u64 0, .int .u64 0, .int .u64 0, .int .u64 0] (r * 4)) 39)).cell? ⟨w.heap.size, 1, none⟩ = some (.slice (some ⟨I, 0, none⟩) r cI) := cell_keep (by go_simp) (bl_alloc _ _)
 have c0 : ((w.alloc (.cells #[.slice (some ⟨R, 0, none⟩) r cR, .slice (some ⟨I, 0, none⟩) r cI, .int .u64 ch.x0, .int .u64 ch.x1, .int .u64 ch.x2, .int .u64 ch.x3, .slice Px n cx] 73)).alloc (.cells (madeCells #[.int .u64 0, .int .u64 0, .int .u64 0, .int .u64 0] (r * 4)) 39)).cell? ⟨w.heap.size, 2, none⟩ = some (.int .u64 ch.x0) := cell_keep (by go_simp) (bl_alloc _ _)
 have c1 : ((w.alloc (.cells #[.slice (some ⟨R, 0, none⟩) r cR, .slice (some ⟨I, 0, none⟩) r cI, .int .u64 ch.x0, .int .u64 ch.x1, .int .u64 ch.x2, .int .u64 ch.x3, .slice Px n cx] 73)).alloc (.cells (madeCells #[.int .u64 0, .int .u64 0, .int .u64 0, .int .u64 0] (r * 4)) 39)).cell? ⟨w.heap.size, 3, none⟩ = some (.int .u64 ch.x1) := cell_keep (by go_simp) (bl_alloc _ _)
 have c2 : ((w.alloc (.cells #[.slice (some ⟨R, 0, none⟩) r cR, .slice (some ⟨I, 0, none⟩) r cI, .int .u64 ch.x0, .int .u64 ch.x1, .int .u64 ch.x2, .int .u64 ch.x3, .slice Px n cx] 73)).alloc (.cells (madeCells #[.int .u64 0, .int .u64 0, .int .u64 0, .int .u64 0] (r * 4)) 39)).cell? ⟨w.heap.size, 4, none⟩ = some (.int .u64 ch.x2) := cell_keep (by go_simp) (bl_alloc _ _)
 have c3 : ((w.alloc (.cells #[.slice (some ⟨R, 0, none⟩) r cR, .slice (some ⟨I, 0, none⟩) r cI, .int .u64 ch.x0, .int .u64 ch.x1, .int .u64 ch.x2, .int .u64 ch.x3, .slice Px n cx] 73)).alloc (.cells (madeCells #[.int .u64 0, .int .u64 0, .int .u64 0, .int .u64 0] (r * 4)) 39)).cell? ⟨w.heap.size, 5, none⟩ = some (.int .u64 ch.x3) := cell_keep (by go_simp) (bl_alloc _ _)
 have e6 : ((w.alloc (.cells #[.slice (some ⟨R, 0, none⟩) r cR, .slice (some ⟨I, 0, none⟩) r cI, .int .u64 ch.x0, .int .u64 ch.x1, .int .u64 ch.x2, .int .u64 ch.x3, .slice Px n cx] 73)).alloc (.cells (madeCells #[.int .u64 0, .int .u64 0, .int .u64 0, .int .u64 0] (r * 4)) 39)).cell? ⟨w.heap.size, 6, none⟩ = some (.slice Px n cx) := cell_keep (by go_simp) (bl_alloc _ _)
 have th : ((w.alloc (.cells #[.slice (some ⟨R, 0, none⟩) r cR, .slice (some ⟨I, 0, none⟩) r cI, .int .u64 ch.x0, .int .u64 ch.x1, .int .u64 ch.x2, .int .u64 ch.x3, .slice Px n cx] 73)).alloc (.cells (madeCells #[.int .u64 0, .int .u64 0, .int .u64 0, .int .u64 0] (r * 4)) 39)).there (w.heap.size + 1) 0 (r * 4) := by
  have := there_newM (w.alloc (.cells #[.slice (some ⟨R, 0, none⟩) r cR, .slice (some ⟨I, 0, none⟩) r cI, .int .u64 ch.x0, .int .u64 ch.x1, .int .u64 ch.x2, .int .u64 ch.x3, .slice Px n cx] 73)) (madeCells #[.int .u64 0, .int .u64 0, .int .u64 0, .int .u64 0] (r * 4)).toList 39
  simpa [World.size_alloc, size_madeCells] using this
 have SZ2 : ((w.alloc (.cells #[.slice (some ⟨R, 0, none⟩) r cR, .slice (some ⟨I, 0, none⟩) r cI, .int .u64 ch.x0, .int .u64 ch.x1, .int .u64 ch.x2, .int .u64 ch.x3, .slice Px n cx] 73)).alloc (.cells (madeCells #[.int .u64 0, .int .u64 0, .int .u64 0, .int .u64 0] (r * 4)) 39)).heap.size = w.heap.size + 1 + 1 := by simp only [World.size_alloc]
 have lI := World.block_lt_of_cell? w _ (hC.ri.c0 0 (by omega))
 have HC := hidden hC
 have HL := hidden hl
 have HT := hidden hT
 have HO := hidden ok
 have HR2 := hidden hr2
 have HB2 := hidden B2
 have HSZ := hidden SZ2
 clear hC hl hT ok hch B2 SZ2
 go_enter Tryz.func28, Tryz.ntmps28
 go_upto_region 2 with fail
 generalize ((w.alloc (.cells #[.slice (some ⟨R, 0, none⟩) r cR, .slice (some ⟨I, 0, none⟩) r cI, .int .u64 ch.x0, .int .u64 ch.x1, .int .u64 ch.x2, .int .u64 ch.x3, .slice Px n cx] 73)).alloc (.cells (madeCells #[.int .u64 0, .int .u64 0, .int .u64 0, .int .u64 0] (r * 4)) 39)) = w2 at *
 clear hmk
 go_wp2_with fail
 go_loopw [17] (fun iv w' => ∃ i : Nat, i ≤ r ∧ iv = .int .i64 i ∧ Hid (St (w.heap.size + 1) w2 (w.heap.size + 1) r i (Ff n ks gs) w')) (fun i _ => r - (intOf i).toNat)
 case atStart => exact ⟨0, by omega, rfl, hidden ⟨Below.refl _ _, th, fun j hj => absurd hj (by omega)⟩⟩
 case round =>
  obtain ⟨i, hi, rfl, hS⟩ := hrel
  by_cases hin : i < r
  ·have i0 : (0 : Int) ≤ (i : Int) := by omega
   have i1 : (i : Int) < (r : Int) := by omega
   have w9 : IntKind.i64.wrap ((i : Int) + 1) = (i : Int) + 1 := IntWalk.i64_in _ (by have := HR2.out; omega)
   have BW := hidden (below_trans HB2.out (below_less hS.out.1 (Nat.le_succ _)))
   have s6 := (hS.out.1.cell (p := ⟨w.heap.size, 6, none⟩) (Nat.lt_succ_self _)).trans e6
   have ri := cell_keep (HC.out.row i hin) BW.out
   have ZC := hidden (Li.zip_any Px (g i) n cx (cn i) ks (gs i) wr (by omega) (HL.out.keep BW.out) ((HC.out.rl i hin).keep BW.out))
   have OG := hidden (HC.out.ok i hin)
   obtain ⟨rv, hrr⟩ : ∃ rv, (Ff n ks gs) i = rv := ⟨_, rfl⟩
   have TC := hidden (fun (x : World) (t : Nat) (hx : Below wr.heap.size wr x) (h : x.rowIs t 106 (n * 8) (Li.tvl ks (gs i))) => (show Calls Tryz.prog 46 #[.slice (some ⟨t, 0, none⟩) n n] x fun e w' => e = .returned (.agg #[.int .u64 rv.x0, .int .u64 rv.x1, .int .u64 rv.x2, .int .u64 rv.x3]) ∧ Below x.heap.size x w' from hrr ▸ totalN t n ks (gs i) x hn1 (by omega) (HT.out.keep (bl_trans BW.out hx)) HO.out OG.out h))
   generalize g i = gi at *
   generalize cn i = ci at *
   generalize hgi : gs i = G at *
   go_wp2_with (first
    | (go_at_call 45; refine ZC.out.mono ?_; rintro e wa ⟨tl, rfl, hl0, rl, ba⟩; have HA := hidden (And.intro rl ba); clear hl0 rl ba ZC)
    | (go_at_call 46; refine (TC.out _ tl HA.out.2 HA.out.1).mono ?_; rintro e wb ⟨rfl, hb⟩; have BB := bl_trans HA.out.2 hb; have tb := Li.there_bl hS.out.2.1 BB; obtain ⟨y0, s0⟩ := Option.isSome_iff_exists.1 (tb (i * 4) (by omega)).1; obtain ⟨y1, s1⟩ := Option.isSome_iff_exists.1 (tb (i * 4 + 1) (by omega)).1; obtain ⟨y2, s2⟩ := Option.isSome_iff_exists.1 (tb (i * 4 + 2) (by omega)).1; obtain ⟨y3, s3⟩ := Option.isSome_iff_exists.1 (tb (i * 4 + 3) (by omega)).1; have v0 := (tb (i * 4) (by omega)).2; have v1 := (tb (i * 4 + 1) (by omega)).2; have v2 := (tb (i * 4 + 2) (by omega)).2; have v3 := (tb (i * 4 + 3) (by omega)).2; rw [Nat.zero_add] at s0 s1 s2 s3 v0 v1 v2 v3; have PN : Hid (St (w.heap.size + 1) w2 (w.heap.size + 1) r (i + 1) (Ff n ks gs) (setS wb (w.heap.size + 1) (i * 4) rv)) := hidden (St.next ⟨Below.refl _ _, fun j hj => range_bl (hS.out.2.2 j hj) BB⟩ tb (below_trans hS.out.1 (below_less BB (by have := hS.out.1.size; have := HSZ.out; omega))) (by have := hS.out.1.size; have := HSZ.out; have := BB.size; omega) hin hrr); unfold setS at PN; clear hb BB tb TC HA hS))
   go_roundw
   case rel => exact ⟨i + 1, by omega, by go_num, PN⟩
   case measure => simp [intOf]; omega
  ·obtain rfl : i = r := by omega
   have lq : ¬ (i : Int) < (i : Int) := by omega
   go_wp2_with fail
   refine bodyPost_ret (v := .slice (some ⟨w.heap.size + 1, 0, none⟩) i i) (by simp [results, Tryz.results28, go_sem]) rfl ⟨w.heap.size + 1, rfl, by omega, hS.out.2.2, below_trans HB2.out (below_less hS.out.1 (Nat.le_succ _))⟩
open Go.RowKit
theorem rl_of {w : World} {D r : Nat} {F : Nat → E4} (h : ∀ j, j < r → w.rangeAt D (j * 4) (q4 (F j))) : Rl w D 0 r F :=
 ⟨fun k hk => by rw [Nat.zero_add]; exact h k hk 0 _ rfl, fun k hk => by rw [Nat.zero_add]; exact h k hk 1 _ rfl, fun k hk => by rw [Nat.zero_add]; exact h k hk 2 _ rfl, fun k hk => by rw [Nat.zero_add]; exact h k hk 3 _ rfl⟩
theorem zok : (⟨0, 0, 0, 0⟩ : E4).ok := by refine ⟨?_, ?_, ?_, ?_⟩ <;> (unfold Sm.Wd; simp)
theorem holdsR (R I r n cR cI cx : Nat) (g cn : Nat → Nat) (Px : Option Addr) (ks : Nat → E4) (gs : Nat → Nat → E4) (im : Nat → E4) (w : World) (hr1 : 1 ≤ r) (hr2 : r ≤ 64) (hn : n ≤ 20) (hn1 : 1 ≤ n) (hT : Tb w) (hl : Lm w Px n ks) (ok : ∀ i, i < n → (ks i).ok) (hC : Cl w R I r n g cn gs im) (hs : ∀ i, i < r → lst (Ff n ks gs i).n = lst (im i).n) :
  Calls Tryz.prog 26 #[.agg #[.slice (some ⟨R, 0, none⟩) r cR, .slice (some ⟨I, 0, none⟩) r cI], .slice Px n cx] w fun e w' => e = .returned (.int .i64 0) ∧ Below w.heap.size w w' := by
 have B3 : Below w.heap.size w ((w.alloc (.cells #[.slice (some ⟨R, 0, none⟩) r cR, .slice (some ⟨I, 0, none⟩) r cI] 43)).alloc (.cells #[.slice Px n cx] 23)) := bl_trans (bl_alloc w _) (bl_alloc _ _)
 have e0 : ((w.alloc (.cells #[.slice (some ⟨R, 0, none⟩) r cR, .slice (some ⟨I, 0, none⟩) r cI] 43)).alloc (.cells #[.slice Px n cx] 23)).cell? ⟨w.heap.size, 0, none⟩ = some (.slice (some ⟨R, 0, none⟩) r cR) := by go_simp
 have e1 : ((w.alloc (.cells #[.slice (some ⟨R, 0, none⟩) r cR, .slice (some ⟨I, 0, none⟩) r cI] 43)).alloc (.cells #[.slice Px n cx] 23)).cell? ⟨w.heap.size, 1, none⟩ = some (.slice (some ⟨I, 0, none⟩) r cI) := by go_simp
 have t0 : ((w.alloc (.cells #[.slice (some ⟨R, 0, none⟩) r cR, .slice (some ⟨I, 0, none⟩) r cI] 43)).alloc (.cells #[.slice Px n cx] 23)).cell? ⟨w.heap.size + 1, 0, none⟩ = some (.slice Px n cx) := by go_simp
 have CF := hidden (fits_any R I r n cR cI (w.heap.size + 1) 1 1 g cn gs im (fun _ => Px) (fun _ => cx) ((w.alloc (.cells #[.slice (some ⟨R, 0, none⟩) r cR, .slice (some ⟨I, 0, none⟩) r cI] 43)).alloc (.cells #[.slice Px n cx] 23)) hr1 hr2 hn1 (by omega) (hC.keep B3) (fun j hj => (show j = 0 by omega) ▸ t0))
 have CS := hidden (fun (x : World) (hx : Below w.heap.size w x) => firstR R I r n cR cI cx g cn Px ⟨0, 0, 0, 0⟩ ks gs im x hr1 hr2 hn hn1 (hT.keep hx) zok (hl.keep hx) ok (hC.keep hx))
 have CE := hidden (fun (x : World) (D : Nat) (hx : Below w.heap.size w x) (hD : ∀ j, j < r → x.rangeAt D (j * 4) (q4 (Ff n ks gs j))) => equal_any D I r r cI (Ff n ks gs) im x (hT.keep hx) hr2 (rl_of hD) (hC.ri.keep hx) (fun i hi => lst_ok _) hC.oi hs)
 clear hT hl hC ok hs
 go_enter Tryz.func26, Tryz.ntmps26
 go_wp2_with (first
  | (go_at_call 25; refine CF.out.mono ?_; rintro e wa ⟨rfl, ha⟩; have a0 := cell_keep e0 ha; have a1 := cell_keep e1 ha; have BA := hidden (bl_trans B3 ha); clear ha CF)
  | (go_at_call 28; refine (CS.out _ BA.out).mono ?_; rintro e wb ⟨D, rfl, hD, q1, hb⟩; have c1 := cell_keep a1 hb; have BB := hidden (bl_trans BA.out hb); have EE := hidden (CE.out wb D BB.out q1); clear hD q1 hb CS CE)
  | (go_at_call 43; refine EE.out.mono ?_; rintro e wc ⟨rfl, hc⟩; have BC := hidden (bl_trans BB.out hc); clear hc EE))
 refine bodyPost_ret (v := .int .i64 0) (by simp [results, Tryz.results26, go_sem]) rfl ⟨rfl, BC.out⟩
end Sg
open Go.RowKit
def byt (N : Int) (j : Nat) : Int := N / 256 ^ j % 256
def bytes (N : Int) : List Int := (List.range 32).map (byt N)
theorem bytes_len (N : Int) : (bytes N).length = 32 := by simp [bytes]
theorem bytes_get (N : Int) (j : Nat) (h : j < 32) : (bytes N)[j]? = some (byt N j) := by simp [bytes, h]
theorem byt_bd (N : Int) (j : Nat) : 0 ≤ byt N j ∧ byt N j ≤ 255 := by unfold byt; omega
def word64 (N : Int) (q : Nat) : Int := N / 18446744073709551616 ^ q % 18446744073709551616
theorem byt_word (N : Int) (k : Nat) : word64 N (k / 8) / 2 ^ (8 * (k % 8)) % 256 = byt N k := by
 unfold word64 byt
 have e : N / 256 ^ k = N / 18446744073709551616 ^ (k / 8) / 2 ^ (8 * (k % 8)) := by
  rw [Int.ediv_ediv_of_nonneg (Int.le_of_lt (Int.pow_pos (by decide)))]
  congr 1
  rw [show (18446744073709551616 : Int) = 2 ^ 64 from rfl, show (256 : Int) = 2 ^ 8 from rfl, ← Int.pow_mul, ← Int.pow_mul, ← Int.pow_add]
  congr 1; omega
 rw [e]
 generalize N / 18446744073709551616 ^ (k / 8) = M
 have hc : k % 8 = 0 ∨ k % 8 = 1 ∨ k % 8 = 2 ∨ k % 8 = 3 ∨ k % 8 = 4 ∨ k % 8 = 5 ∨ k % 8 = 6 ∨ k % 8 = 7 := by omega
 rcases hc with h | h | h | h | h | h | h | h <;> rw [h] <;> simp <;> omega
theorem there_keep {w1 w2 : World} {b o n : Nat} (h : w1.there b o n) (hl : b < w1.heap.size) (hb : Below w1.heap.size w1 w2) : w2.there b o n := fun j hj =>
 ⟨by rw [hb.cell (p := ⟨b, o + j, none⟩) hl]; exact (h j hj).1, by rw [hb.frozen (p := ⟨b, o + j, none⟩) hl]; exact (h j hj).2⟩
theorem there_new (w : World) (C : Array Value) (t : TypeId) : (w.alloc (.cells C t)).there w.heap.size 0 C.size := fun j hj => by
 refine ⟨?_, by go_simp⟩
 rw [Nat.zero_add, World.cell?_alloc_mark]
 simp [hj]
structure EncW (w0 : World) (n : Int) (Wb Bb R k : Nat) (w : World) : Prop where
 wd : ∀ q, q < 4 → w.cell? ⟨Wb, q, none⟩ = some (.int .u64 (word64 n q))
 bt : ∀ j, j < 32 → w.cell? ⟨Bb, j, none⟩ = some (.int .u8 (if j < k then byt n j else 0))
 fr : ∀ j, j < 32 → w.frozen? ⟨Bb, j, none⟩ = false
 th : w.there R 0 32
 bel : Below w0.heap.size w0 w
theorem EncW.step {w0 : World} {n : Int} {Wb Bb R k : Nat} {w : World} (h : EncW w0 n Wb Bb R k w) (hk : k < 32) (h1 : Bb ≠ Wb) (h0 : w0.heap.size ≤ Bb) :
  EncW w0 n Wb Bb R (k + 1) (w.setCell ⟨Bb, k, none⟩ (.int .u8 (byt n k))) := by
 refine ⟨fun q hq => (World.cell?_setCell_far w _ _ _ h1).trans (h.wd q hq), fun j hj => ?_, fun j hj => by have := h.fr j hj; go_simp, fun j hj => ⟨?_, by rw [World.frozen?_setCell]; exact (h.th j hj).2⟩, h.bel.setCell h0 _⟩
 ·by_cases hjk : j = k
  ·subst hjk
   have hb := h.bt j hj
   rw [if_pos (by omega)]
   go_simp
  ·rw [World.cell?_setCell_other w _ _ _ (by intro e; exact hjk (congrArg Addr.off e).symm), h.bt j hj]
   by_cases hlt : j < k
   ·rw [if_pos hlt, if_pos (by omega)]
   ·rw [if_neg hlt, if_neg (by omega)]
 ·exact World.isSome_setCells Bb [.int .u8 (byt n k)] k w _ (h.th j hj).1
theorem below_setCells {w0 : World} (b : Nat) : ∀ (vs : List Value) (o : Nat) {w : World}, Below w0.heap.size w0 w → w0.heap.size ≤ b → Below w0.heap.size w0 (w.setCells b o vs)
 | [], _, _, h, _ => h
 | v :: vs, o, w, h, hb => by
  rw [World.setCells]
  exact below_setCells b vs (o + 1) (h.setCell hb v) hb
theorem results_cell1 {fn : Func} {p : Tmp} {ty : TypeId} (h : fn.results = #[.cell p ty]) (tmps : Array Value) (P : Program) (w : World) (a : Addr) (v : Value) (ha : tmps.getD p undef = .pointer (some a)) (hl : (loadVar ty a).run P w = .ok v w) :
  (results fn tmps).run P w = .ok v w := by
 have e : (results fn tmps).run P w = ((asAddr (tmps.getD p undef)).run P w).andThen fun a w1 => (loadVar ty a).run P w1 := by
  simp only [results, h]
  simp [Sem.run_bind, Result.andThen]
 rw [e, ha]
 simp [asAddr, hl, Result.andThen]
theorem bytesV (n : Int) (j : Nat) (v : Value) (h : ((bytes n).map fun z => Value.int .u8 z)[j]? = some v) : j < 32 ∧ v = .int .u8 (byt n j) := by
 have hj : j < 32 := by
  have := (List.getElem?_eq_some_iff.1 h).1
  simpa [bytes] using this
 refine ⟨hj, ?_⟩
 rw [List.getElem?_map, bytes_get n j hj] at h
 simpa using h.symm
theorem word_lim (n : Int) (q : Nat) (hq : q < 4) : word64 n q = Sm.lim q n := by
 unfold word64
 have h4 : q = 0 ∨ q = 1 ∨ q = 2 ∨ q = 3 := by omega
 rcases h4 with rfl | rfl | rfl | rfl <;> simp [Sm.lim]
theorem Encode_any (a : E4) (w : World) (hT : Tb w) (ha : a.ok) :
  Calls Tryz.prog 125 #[a.v] w fun e w' => e = .returned (.agg ((bytes (a.n % Sm.L)).map fun z => Value.int .u8 z).toArray) ∧ Below w.heap.size w w' := by
 have c1 := fun w T => Least_any a w T ha
 have hN := byt_word (a.n % Sm.L)
 have HR : ∀ r : E4, r.is a.n → r = ⟨word64 (a.n % Sm.L) 0, word64 (a.n % Sm.L) 1, word64 (a.n % Sm.L) 2, word64 (a.n % Sm.L) 3⟩ := fun r h => by
  rw [word_lim _ 0 (by omega), word_lim _ 1 (by omega), word_lim _ 2 (by omega), word_lim _ 3 (by omega)]; exact h
 generalize a.n % Sm.L = n at *
 have HRH := hidden HR
 have HNH := hidden hN
 have C1 := hidden c1
 have HT := hidden hT
 clear HR hN c1 ha hT
 simp only [E4.v] at C1 ⊢
 go_enter Tryz.func125, Tryz.ntmps125
 go_upto_region 1 with fail
 go_cut [] (fun wx => Blc wx w.heap.size ⟨word64 n 0, word64 n 1, word64 n 2, word64 n 3⟩ ∧ wx.there (w.heap.size + 1) 0 32 ∧ w.heap.size + 1 < wx.heap.size ∧ Below w.heap.size w wx)
 case first =>
  go_wp2_with fail
  refine (C1.out _ (HT.out.keep (bl_alloc2 _ _ _))).mono ?_
  rintro e w1 ⟨r, rfl, hr, hb1⟩
  have e1 := HRH.out r hr
  subst e1
  clear hr
  have hB : Blc w1 w.heap.size a := ((Blc.new w a 26).keep (bl_alloc _ _)).keep hb1
  have hW : Wrt w1 w.heap.size := ((Wrt.new w a 26).keep (by simp) (bl_alloc _ _)).keep ((Blc.new w a 26).keep (bl_alloc _ _)).lt hb1
  have hz1 : w.heap.size + 1 < w1.heap.size := by have := hb1.size; simp at this; omega
  have hTh := there_keep (there_new (w.alloc (.cells #[.int .u64 a.x0, .int .u64 a.x1, .int .u64 a.x2, .int .u64 a.x3] 26)) #[.int .u8 0, .int .u8 0, .int .u8 0, .int .u8 0, .int .u8 0, .int .u8 0, .int .u8 0, .int .u8 0, .int .u8 0, .int .u8 0, .int .u8 0, .int .u8 0, .int .u8 0, .int .u8 0, .int .u8 0, .int .u8 0, .int .u8 0, .int .u8 0, .int .u8 0, .int .u8 0, .int .u8 0, .int .u8 0, .int .u8 0, .int .u8 0, .int .u8 0, .int .u8 0, .int .u8 0, .int .u8 0, .int .u8 0, .int .u8 0, .int .u8 0, .int .u8 0] 127) (by simp) hb1
  simp only [World.size_alloc] at hTh
  generalize word64 n 0 = x0 at *
  generalize word64 n 1 = x1 at *
  generalize word64 n 2 = x2 at *
  generalize word64 n 3 = x3 at *
  have G1 := hidden (hB.set ⟨x0, x1, x2, x3⟩)
  have G2 := hidden (World.there_setCells hTh w.heap.size 0 [.int .u64 x0, .int .u64 x1, .int .u64 x2, .int .u64 x3])
  have G3 := hidden (set4_below (w0 := w) w1 w.heap.size ⟨x0, x1, x2, x3⟩ (bl_trans (bl_alloc2 w _ _) hb1) (Nat.le_refl _))
  obtain ⟨c0, c1, c2, c3⟩ := hB
  obtain ⟨f0, f1, f2, f3⟩ := hW
  clear hTh hb1
  go_wp2_with fail
  go_meet
  exact ⟨G1.out, G2.out, by simpa using hz1, G3.out⟩
 case rest =>
 obtain ⟨hB, hTh, hz, hbel⟩ := hcut
 clear C1 HRH
 have hwd : ∀ q, q < 4 → wc.cell? ⟨w.heap.size, q, none⟩ = some (.int .u64 (word64 n q)) := fun q hq => by
  have h4 : q = 0 ∨ q = 1 ∨ q = 2 ∨ q = 3 := by omega
  rcases h4 with rfl | rfl | rfl | rfl
  ·exact hB.c0
  ·exact hB.c1
  ·exact hB.c2
  ·exact hB.c3
 have E0 : EncW w n w.heap.size wc.heap.size (w.heap.size + 1) 0 (wc.alloc (.cells #[.int .u8 0, .int .u8 0, .int .u8 0, .int .u8 0, .int .u8 0, .int .u8 0, .int .u8 0, .int .u8 0, .int .u8 0, .int .u8 0, .int .u8 0, .int .u8 0, .int .u8 0, .int .u8 0, .int .u8 0, .int .u8 0, .int .u8 0, .int .u8 0, .int .u8 0, .int .u8 0, .int .u8 0, .int .u8 0, .int .u8 0, .int .u8 0, .int .u8 0, .int .u8 0, .int .u8 0, .int .u8 0, .int .u8 0, .int .u8 0, .int .u8 0, .int .u8 0] 127)) := by
  refine ⟨fun q hq => cell_keep (hwd q hq) (bl_alloc _ _), fun j hj => ?_, fun j hj => by go_simp, World.there_alloc hTh _, bl_trans hbel (bl_alloc _ _)⟩
  rw [World.cell?_alloc_mark, if_neg (by omega)]
  have eZ : (#[.int .u8 0, .int .u8 0, .int .u8 0, .int .u8 0, .int .u8 0, .int .u8 0, .int .u8 0, .int .u8 0, .int .u8 0, .int .u8 0, .int .u8 0, .int .u8 0, .int .u8 0, .int .u8 0, .int .u8 0, .int .u8 0, .int .u8 0, .int .u8 0, .int .u8 0, .int .u8 0, .int .u8 0, .int .u8 0, .int .u8 0, .int .u8 0, .int .u8 0, .int .u8 0, .int .u8 0, .int .u8 0, .int .u8 0, .int .u8 0, .int .u8 0, .int .u8 0] : Array Value) = Array.replicate 32 (.int .u8 0) := rfl
  rw [eZ]
  simp [hj]
 have E0H := hidden E0
 clear E0 hwd hTh hbel hB
 go_wp2_with fail
 go_loopw [7] (fun i w' => ∃ k : Nat, k ≤ 32 ∧ i = .int .i64 k ∧ EncW w n w.heap.size wc.heap.size (w.heap.size + 1) k w') (fun i _ => 32 - (intOf i).toNat)
 case atStart => exact ⟨0, by omega, rfl, E0H.out⟩
 case round =>
  obtain ⟨k, hk, rfl, hE⟩ := hrel
  clear E0H
  by_cases hlt : k < 32
  ·have hw := hE.wd (k / 8) (by omega)
   have hb := hE.bt k hlt
   have hf := hE.fr k hlt
   have hN := HNH.out k
   have NEXT := hidden (hE.step hlt (by omega) (by omega))
   have hwb : 0 ≤ word64 n (k / 8) ∧ word64 n (k / 8) ≤ 18446744073709551615 := by unfold word64; omega
   rw [if_neg (by omega)] at hb
   have HN := hidden hN
   clear hE hN
   generalize word64 n (k / 8) = X at *
   go_wp2_with fail
   refine ⟨⟨k + 1, by omega, by go_num, ?_⟩, by simp [intOf]; omega⟩
   rw [HN.out]
   exact NEXT.out
  ·have hk32 : k = 32 := by omega
   subst hk32
   have hr : wr.rangeAt wc.heap.size 0 ((bytes n).map fun z => Value.int .u8 z) := fun j v hv => by
    obtain ⟨hj, rfl⟩ := bytesV n j v hv
    rw [Nat.zero_add, hE.bt j hj, if_pos hj]
   have hl : ((bytes n).map fun z => Value.int .u8 z).length = 32 := by simp [bytes]
   have ho : ((bytes n).map fun z => Value.int .u8 z).toArray.all (·.oneCell') = true := all_oneCell_toArray (fun v hv => by
    obtain ⟨z, _, rfl⟩ := List.mem_map.1 hv
    rfl)
   have hi : (Tryz.prog.info? 127).map (·.size) = some ((bytes n).map fun z => Value.int .u8 z).length := by rw [hl]; kernel_rfl
   have hu : Tryz.prog.underlying 127 = some (.array 32 5) := by kernel_rfl
   have hth := hE.th
   have hbel := hidden hE.bel
   clear hE
   generalize hcs : ((bytes n).map fun z => Value.int .u8 z) = cs at *
   have hth2 : wr.there (w.heap.size + 1) 0 cs.toArray.size := by simpa [hl] using hth
   have hi2 : (Tryz.prog.info? 127).map (·.size) = some cs.toArray.size := by simpa using hi
   have RD := run_loadVar_mid (P := Tryz.prog) (wr.setCells (w.heap.size + 1) 0 cs) (w.heap.size + 1) 0 127 cs _ (World.rangeAt_setCells_same wr (w.heap.size + 1) 0 cs (by rw [hl]; exact hth)) hu rfl hi
   have BEL : Below w.heap.size w (wr.setCells (w.heap.size + 1) 0 cs) := below_setCells (w.heap.size + 1) cs 0 hbel.out (by omega)
   have HU := hidden hu
   have HI := hidden hi
   have HI2 := hidden hi2
   have HTH := hidden hth2
   have HRA := hidden hr
   have HO := hidden ho
   have RDH := hidden RD
   have BELH := hidden BEL
   clear hth hth2 hu hi ho hi2 hr RD BEL
   go_upto_region 8 with fail
   go_wp2_with (first | refine wpList_load_mid rfl 127 _ rfl wc.heap.size 0 (by rfl) cs _ HRA.out HU.out rfl HI.out ?_ | refine wpList_store_mid rfl 127 _ _ rfl (w.heap.size + 1) 0 cs.toArray (by rfl) (by rfl) HTH.out HI2.out HO.out ?_)
   have RD := RDH.out
   refine bodyPost_ret (v := .agg cs.toArray) (results_cell1 Tryz.results125 _ _ _ _ _ (by rfl) RD) rfl ⟨by rw [hcs], ?_⟩
   exact BELH.out
end Go.Proofs.YtbbnjmjeeiglcaaGreatDoor
namespace Go.Proofs.YtbbnjmjeeiglcaaGreatDoor.Tr
def Bd (ps : List (List UInt8)) : Prop := ps.length ≤ 5864062014634 ∧ ∀ r, r < ps.length → (ps.getD r []).length ≤ 140737488351232
open Go.RowKit
theorem hidden {p : Prop} (h : p) : Hid p := h
theorem bl_trans {w w1 w2 : World} (h1 : Below w.heap.size w w1) (h2 : Below w1.heap.size w1 w2) : Below w.heap.size w w2 := h1.trans (h2.mono h1.size)
theorem bl_alloc (w : World) (o : Obj) : Below w.heap.size w (w.alloc o) := (Below.refl _ _).alloc (Nat.le_refl _) _
theorem drew_blW (w : World) : Below w.heap.size w w.drew := ⟨rfl, rfl, rfl, Nat.le_refl _, fun _ _ => rfl⟩
theorem cell_keep {w w' : World} {a : Addr} {v : Value} (h : w.cell? a = some v) (hb : Below w.heap.size w w') : w'.cell? a = some v := by
 rw [hb.cell (p := a) (World.block_lt_of_cell? w a h)]; exact h
theorem below_trans {n : Nat} {w1 w2 w3 : World} (h1 : Below n w1 w2) (h2 : Below n w2 w3) : Below n w1 w3 := ⟨h2.os.trans h1.os, h2.tape.trans h1.tape, h2.output.trans h1.output, Nat.le_trans h1.size h2.size, fun k hk => (h2.block k hk).trans (h1.block k hk)⟩
theorem below_grown {w w' : World} {row : Option Nat} {base : Nat} (hg : w.grownBy w' row) (hb : base ≤ w.heap.size) (hr : ∀ k, row = some k → base ≤ k) : Below base w w' :=
 ⟨hg.os, hg.tape, hg.output, hg.size, fun k hk => hg.block k (by omega) (fun e => by have := hr k e.symm; omega)⟩
theorem cells_new (w : World) (cs : List Value) (t : TypeId) : ∀ j u, cs[j]? = some u → (w.alloc (.cells cs.toArray t)).cell? ((⟨w.heap.size, 0, none⟩ : Addr).add j) = some u := by
 intro j u hu
 have hadd : (⟨w.heap.size, 0, none⟩ : Addr).add j = ⟨w.heap.size, j, none⟩ := by unfold Addr.add; split <;> simp_all
 rw [hadd, cell_of_row (w.alloc (.cells cs.toArray t)) w.heap.size j cs.toArray t (0, 0) (heap_alloc_new w _)]
 simpa using hu
def cb (bs : List UInt8) : List Value := bs.map fun b => Value.int .u8 (b.toNat : Int)
theorem cb_len (bs : List UInt8) : (cb bs).length = bs.length := by simp [cb]
theorem cb_app (a b : List UInt8) : cb (a ++ b) = cb a ++ cb b := by simp [cb]
theorem cb_one (bs : List UInt8) : ∀ u ∈ cb bs, u.oneCell' = true := by
 intro u hu
 obtain ⟨b, _, rfl⟩ := List.mem_map.1 hu
 rfl
theorem cb_at (bs : List UInt8) (j : Nat) (h : j < bs.length) : (cb bs)[j]? = some (.int .u8 (bs[j].toNat : Int)) := by simp [cb, List.getElem?_eq_getElem h]
def sb (bs : List UInt8) : ByteArray := ⟨bs.toArray⟩
structure By (w : World) (P : Option Addr) (c : Nat) (bs : List UInt8) : Prop where
 nil : P = none → bs = [] ∧ c = 0
 lie : ∀ a, P = some a → ∀ j u, (cb bs)[j]? = some u → w.cell? (a.add j) = some u
theorem By.keep {w w' : World} {P : Option Addr} {c : Nat} {bs : List UInt8} (h : By w P c bs) (hb : Below w.heap.size w w') : By w' P c bs :=
 ⟨h.nil, fun a ha j u hu => cell_keep (h.lie a ha j u hu) hb⟩
theorem run_app_by (w : World) (base ty : Nat) (v : Value) (xs bs : List UInt8) (P : Option Addr) (c : Nat) (ho : w.ownsRow base 5 1 v xs.length (cb xs)) (hB : By w P c bs) (hx : xs.length + bs.length ≤ 2 ^ 47) (hb : base ≤ w.heap.size) :
  ∃ v' w', (Builtin.append_ #[123, 123] ty #[v, .slice P bs.length c]).run Tryz.prog w = .ok v' w' ∧ w'.ownsRow base 5 1 v' (xs ++ bs).length (cb (xs ++ bs)) ∧ w.grownBy w' v.ownBlock := by
 have h1 : Tryz.prog.underlying 123 = some (.slice 5) := by kernel_rfl
 have hi : Tryz.prog.info? 5 = some (Tryz.prog.info? 5).get! := by kernel_rfl
 have hz : (Tryz.prog.info? 5).get!.zero = some (.int .u8 0) := by kernel_rfl
 have hs : (Tryz.prog.info? 5).get!.size = 1 := by kernel_rfl
 have hy : (Tryz.prog.info? 5).get!.bytes = 1 := by kernel_rfl
 cases P with
 | none =>
  obtain ⟨rfl, rfl⟩ := hB.nil rfl
  refine ⟨v, w, run_append_owned_none w base _ _ _ _ 1 h1 hi v _ _ ho, by simpa using ho, ⟨rfl, rfl, rfl, Nat.le_refl _, fun _ _ _ => rfl⟩⟩
 | some a =>
  obtain ⟨v', w', hr, ho', hg, _⟩ := run_append_own (P := Tryz.prog) w base _ ty _ _ _ 1 1 h1 hi hz hs hy rfl (by decide) v _ _ ho a bs.length c (cb bs) (by simp [cb_len]) (hB.lie a rfl) (cb_one bs) (by unfold maxLen; omega) (by omega) hb
  refine ⟨v', w', hr, ?_, hg⟩
  rw [List.length_append, cb_app]
  exact ho'
theorem wpList_app_by {w : World} {ops : Array Oper} {rest : List Oper} {o : Oper} {a : Act} {Q : Exit → Act → World → Prop} (hgd : o.guard = none) (sl x : Operand)
  (ho : o.op = .call { callee := .builtin .append, args := #[sl, x], argTypes := #[123, 123] })
  (base : Nat) (v : Value) (xs bs : List UInt8) (P : Option Addr) (c : Nat) (hs : a.eval sl = v) (hx : a.eval x = .slice P bs.length c) (hown : w.ownsRow base 5 1 v xs.length (cb xs)) (hB : By w P c bs) (hl : xs.length + bs.length ≤ 2 ^ 47) (hbase : base ≤ w.heap.size)
  (h : ∀ v' w', w'.ownsRow base 5 1 v' (xs ++ bs).length (cb (xs ++ bs)) → w.grownBy w' v.ownBlock → wpList Tryz.prog ops Q rest (a.put o.dst v') w') : wpList Tryz.prog ops Q (o :: rest) a w := by
 refine wpList_plain hgd fun K hK => ?_
 obtain ⟨v', w', hr, h2, h3⟩ := run_app_by w base o.type v xs bs P c hown hB hl hbase
 unfold Oper.wp execOp
 simp only [ho, resolve, invoke, builtin, Sem.run_bind, Sem.run_pure, Result.andThen_ok, List.map_toArray, List.map_cons, List.map_nil, hs, hx, hr]
 exact hK _ _ (h v' w' h2 h3)
open Go.RowKit
structure Pt (w : World) (P : Option Addr) (ps : List (List UInt8)) (q : Nat → Option Addr) (c : Nat → Nat) : Prop where
 lie : 0 < ps.length → ∃ b o : Nat, P = some ⟨b, o, none⟩ ∧ ∀ i, i < ps.length → w.cell? ⟨b, o + i, none⟩ = some (.slice (q i) (ps.getD i []).length (c i))
 each : ∀ i, i < ps.length → By w (q i) (c i) (ps.getD i [])
theorem Pt.keep {w w' : World} {P : Option Addr} {ps : List (List UInt8)} {q : Nat → Option Addr} {c : Nat → Nat} (h : Pt w P ps q c) (hb : Below w.heap.size w w') : Pt w' P ps q c :=
 ⟨fun h0 => by obtain ⟨b, o, e, h1⟩ := h.lie h0; exact ⟨b, o, e, fun i hi => cell_keep (h1 i hi) hb⟩, fun i hi => (h.each i hi).keep hb⟩
open Go.RowKit
theorem own_stay {w w' : World} {base size n : Nat} {e : TypeId} {v : Value} {xs : List Value} (h : w.ownsRow base e size v n xs) (hb : Below w.heap.size w w') : w'.ownsRow base e size v n xs := by
 refine ⟨h.1, ?_⟩
 rcases h.2 with hn | ⟨g, cap, cur, rfl, hbg, hgg, rest⟩
 ·exact .inl hn
 ·refine .inr ⟨g, cap, cur, rfl, hbg, ?_, rest⟩
  rw [hb.block g (Array.getElem?_eq_some_iff.1 hgg).1]
  exact hgg
open Go.RowKit
theorem own_blk {w w' : World} {base size n : Nat} {e : TypeId} {v : Value} {xs : List Value} (h : w.ownsRow base e size v n xs) (hb : ∀ g, v.ownBlock = some g → w'.heap[g]? = w.heap[g]?) : w'.ownsRow base e size v n xs := by
 refine ⟨h.1, ?_⟩
 rcases h.2 with hn | ⟨g, cap, cur, rfl, hbg, hgg, rest⟩
 ·exact .inl hn
 ·refine .inr ⟨g, cap, cur, rfl, hbg, ?_, rest⟩
  rw [hb g rfl]
  exact hgg
theorem own_base {w : World} {base b size n : Nat} {e : TypeId} {v : Value} {xs : List Value} (h : w.ownsRow base e size v n xs) (hb : b ≤ base) : w.ownsRow b e size v n xs := by
 refine ⟨h.1, ?_⟩
 rcases h.2 with hn | ⟨g, cap, cur, rfl, hbg, rest⟩
 ·exact .inl hn
 ·exact .inr ⟨g, cap, cur, rfl, by omega, rest⟩
theorem set_ne (w : World) (b j k : Nat) (v : Value) (h : k ≠ b) : (w.setCell ⟨b, j, none⟩ v).heap[k]? = w.heap[k]? := heap_setCell_other w ⟨b, j, none⟩ k v (fun e => h e)
open Go.RowKit
theorem own_shape {w : World} {base n : Nat} {e : TypeId} {v : Value} {xs : List Value} (h : w.ownsRow base e 1 v n xs) : ∃ (P : Option Addr) (c : Nat), v = .slice P n c := by
 rcases h.2 with ⟨rfl, rfl⟩ | ⟨g, cap, cur, rfl, _⟩
 ·exact ⟨none, 0, rfl⟩
 ·exact ⟨_, _, rfl⟩
theorem grown_blk {w w' : World} {o : Obj} {row : Option Nat} {k : Nat} (hg : (w.alloc o).grownBy w' row) (hk : k < w.heap.size) (hr : some k ≠ row) : w'.heap[k]? = w.heap[k]? := (hg.block k (by simp; omega) hr).trans (heap_alloc_old w o hk)
theorem step_append_at {P : Program} {ops : Array Oper} {o : Oper} {a : Act} {w : World} {K : Act → World → Prop} {Q : Exit → Act → World → Prop} {E : Prop}
  (hg : o.guard = none) (s x : Operand) (t : TypeId) (hop : o.op = Op.call { callee := Callee.builtin Builtin.append, args := #[s, x], argTypes := #[t, t] })
  (base : Nat) (e : TypeId) (i : TypeInfo) (z : Value) (size bytes : Nat) (ht : P.underlying t = some (.slice e)) (hi : P.info? e = some i) (hz : i.zero = some z)
  (hsize : i.size = size) (hby : i.bytes = bytes) (hzs : z.cells.size = size) (hsz : 0 < size)
  (v : Value) (n : Nat) (xs : List Value) (hs : a.eval s = v) (hown : w.ownsRow base e size v n xs)
  (ad : Addr) (m c : Nat) (news : List Value) (hx : a.eval x = .slice (some ad) m c) (hl : news.length = m * size) (hnews : ∀ j u, news[j]? = some u → w.cell? (ad.add j) = some u) (h1 : ∀ u ∈ news, u.oneCell' = true)
  (h63 : n + m ≤ maxLen) (hbytes : (n + m) * bytes ≤ 140737488355328) (hbase : base ≤ w.heap.size)
  (h : ∀ v' w', w'.ownsRow base e size v' (n + m) (xs ++ news) → w.grownBy w' v.ownBlock → (v'.ownBlock = v.ownBlock ∨ v'.ownBlock = some w.heap.size) → K (a.put o.dst v') w') :
  if Region.wanted o (yielded ops a.tmps) = true then Oper.wp P o a w K Q else E := by
 have hw : Region.wanted o (yielded ops a.tmps) = true := by simp [Region.wanted, hg]
 rw [if_pos hw]
 obtain ⟨v', w', hr, h2, h3, _, h5⟩ := run_append_own_at (P := P) w base t o.type e i z size bytes ht hi hz hsize hby hzs hsz v n xs hown ad m c news hl hnews h1 h63 hbytes hbase
 unfold Oper.wp
 simp only [execOp, hop, resolve, invoke, builtin, Sem.run_bind, Sem.run_pure, Result.andThen_ok, List.map_toArray, List.map_cons, List.map_nil, hs, hx, hr]
 exact h v' w' h2 h3 h5
open Go.RowKit
theorem own_by' {w : World} {base g n c : Nat} {bs : List UInt8} (h : w.ownsRow base 5 1 (.slice (some ⟨g, 0, none⟩) n c) n (cb bs)) : By w (some ⟨g, 0, none⟩) c bs :=
 ⟨fun h => (by cases h), fun a ha => by obtain rfl := Option.some.inj ha; exact h.cells rfl⟩
open Go.RowKit
structure Bt (S : Nat → Prop) (w w' : World) : Prop where
 os : w'.os = w.os
 tape : w'.tape = w.tape
 output : w'.output = w.output
 size : w.heap.size ≤ w'.heap.size
 block : ∀ k, k < w.heap.size → ¬ S k → w'.heap[k]? = w.heap[k]?
theorem Bt.trans {S : Nat → Prop} {w w1 w2 : World} (h : Bt S w w1) (g : Bt S w1 w2) : Bt S w w2 :=
 ⟨g.os.trans h.os, g.tape.trans h.tape, g.output.trans h.output, Nat.le_trans h.size g.size, fun k hk hs => (g.block k (Nat.lt_of_lt_of_le hk h.size) hs).trans (h.block k hk hs)⟩
theorem Bt.of {S : Nat → Prop} {w w' : World} (h : Below w.heap.size w w') : Bt S w w' := ⟨h.os, h.tape, h.output, h.size, fun k hk _ => h.block k hk⟩
theorem Bt.set {S : Nat → Prop} {w : World} {b : Nat} (hb : S b) (j : Nat) (v : Value) : Bt S w (w.setCell ⟨b, j, none⟩ v) :=
 ⟨rfl, rfl, rfl, by simp, fun k _ hs => set_ne w b j k v (fun e => hs (e ▸ hb))⟩
theorem Bt.below {S : Nat → Prop} {w w' : World} {n : Nat} (h : Bt S w w') (hn : n ≤ w.heap.size) (hs : ∀ k, S k → n ≤ k) : Below n w w' :=
 ⟨h.os, h.tape, h.output, h.size, fun k hk => h.block k (by omega) (fun s => by have := hs k s; omega)⟩
theorem Bt.grown {S : Nat → Prop} {w w1 w' : World} {row : Option Nat} (h : Bt S w w1) (hg : w1.grownBy w' row) (hr : ∀ k, row = some k → w.heap.size ≤ k) : Bt S w w' :=
 ⟨hg.os.trans h.os, hg.tape.trans h.tape, hg.output.trans h.output, Nat.le_trans h.size hg.size, fun k hk hs => (hg.block k (Nat.lt_of_lt_of_le hk h.size) (fun e => by have := hr k e.symm; omega)).trans (h.block k hk hs)⟩
open Go.RowKit
theorem own_byQ {w : World} {base c n : Nat} {P : Option Addr} {bs : List UInt8} (h : w.ownsRow base 5 1 (.slice P n c) n (cb bs)) : By w P c bs := by
 rcases h.2 with ⟨hv, h0⟩ | ⟨g, cap, cur, hv, _⟩
 ·simp only [Value.slice.injEq] at hv
  obtain ⟨rfl, rfl, rfl⟩ := hv
  have : bs = [] := List.eq_nil_of_length_eq_zero (by have := h.1; rw [cb_len] at this; omega)
  subst this
  exact ⟨fun _ => ⟨rfl, rfl⟩, fun a ha => (by cases ha)⟩
 ·simp only [Value.slice.injEq] at hv
  obtain ⟨rfl, _, rfl⟩ := hv
  exact own_by' h
theorem clone_any (P : Option Addr) (c : Nat) (bs : List UInt8) (w : World) (hB : By w P c bs) (hl : bs.length ≤ 140737488351232) :
  Calls Tryz.prog 139 #[.slice P bs.length c] w fun e w' => ∃ (Q : Option Addr) (d : Nat), e = .returned (.slice Q bs.length d) ∧ w'.ownsRow w.heap.size 5 1 (.slice Q bs.length d) bs.length (cb bs) ∧ Below w.heap.size w w' := by
 have eqn := fun (a : Option Addr) (l c : Nat) (w : World) => Lib.run_eql_slice_nil (P := Tryz.prog) w 123 5 a l c 0 0 (by kernel_rfl)
 have HL := hidden hl
 cases P with
 | none =>
  obtain ⟨rfl, rfl⟩ := hB.nil rfl
  clear hB hl
  go_enter Tryz.func139, Tryz.ntmps139
  go_wp2_with fail
  refine bodyPost_ret (v := .slice none 0 0) (by simp [results, Tryz.results139, go_sem]) rfl ⟨none, 0, rfl, World.ownsRow_nil _ _ _ _, Below.refl _ _⟩
 | some ad =>
  have O0 := hidden (World.ownsRow_made (base := w.heap.size) (e := 5) (size := 1) w #[] 0 (Nat.le_refl _) (by unfold maxLen; omega) rfl)
  have B0 := hidden (bl_alloc w (.cells #[] 5))
  have HY := hidden (hB.keep (bl_alloc w (.cells #[] 5)))
  clear hB hl
  go_enter Tryz.func139, Tryz.ntmps139
  go_wp2_with (first | (at_builtin; refine wpList_app_by rfl _ _ rfl w.heap.size _ [] bs (some ad) c rfl rfl O0.out HY.out (by have := HL.out; simp only [List.length_nil]; omega) B0.out.size ?_; intro v2 w2 ho2 hg2; have HO := hidden ho2; have HB := hidden (below_trans B0.out (below_grown hg2 B0.out.size (fun k hk => (O0.out.lt k hk).1))); clear ho2 hg2; rw [List.nil_append] at HO))
  obtain ⟨Q, d, rfl⟩ := own_shape HO.out
  refine bodyPost_ret (v := .slice Q bs.length d) (by simp [results, Tryz.results139, go_sem]) rfl ⟨Q, d, rfl, HO.out, HB.out⟩
open Go.RowKit
theorem set_fill {α : Type} (L : List α) (k : Nat) (z x : α) (h : L.length < k) : (L ++ List.replicate (k - L.length) z).set L.length x = (L ++ [x]) ++ List.replicate (k - (L.length + 1)) z := by
 rw [List.set_append_right _ _ (Nat.le_refl _), Nat.sub_self, show k - L.length = (k - (L.length + 1)) + 1 by omega, List.replicate_succ, List.set_cons_zero]
 simp
theorem own_farQ {w : World} {b n c : Nat} {e : TypeId} {P : Option Addr} {xs : List Value} (h : w.ownsRow b e 1 (.slice P n c) n xs) : ∀ a, P = some a → b ≤ a.block ∧ a.block < w.heap.size := fun a ha => h.lt a.block (by subst ha; rfl)
def chd (ps : Nat → List UInt8) (Q : Nat → Option Addr) (C : Nat → Nat) (i : Nat) : List Value := (List.range i).map fun t => .slice (Q t) (ps t).length (C t)
theorem chd_len (ps : Nat → List UInt8) (Q : Nat → Option Addr) (C : Nat → Nat) (i : Nat) : (chd ps Q C i).length = i := by simp [chd]
theorem chd_next (ps : Nat → List UInt8) (Q : Nat → Option Addr) (C : Nat → Nat) (i : Nat) (Qn : Option Addr) (Cn : Nat) : chd ps (fun t => if t = i then Qn else Q t) (fun t => if t = i then Cn else C t) (i + 1) = chd ps Q C i ++ [.slice Qn (ps i).length Cn] := by
 unfold chd
 rw [List.range_succ, List.map_append]
 congr 1
 ·refine List.map_congr_left fun t ht => ?_
  have := List.mem_range.1 ht
  simp only [if_neg (show ¬ t = i by omega)]
 ·simp
structure Ow (w : World) (base g k i : Nat) (ps : Nat → List UInt8) (Q : Nat → Option Addr) (C : Nat → Nat) : Prop where
 list : w.ownsRow base 123 1 (.slice (some ⟨g, 0, none⟩) k k) k (chd ps Q C i ++ List.replicate (k - i) (.slice none 0 0))
 row : ∀ t, t < i → w.ownsRow base 5 1 (.slice (Q t) (ps t).length (C t)) (ps t).length (cb (ps t))
 far : ∀ t, t < i → ∀ a, Q t = some a → g < a.block
theorem Ow.keep {w w' : World} {base g k i : Nat} {ps : Nat → List UInt8} {Q : Nat → Option Addr} {C : Nat → Nat} (h : Ow w base g k i ps Q C) (hb : ∀ j, g ≤ j → j < w.heap.size → w'.heap[j]? = w.heap[j]?) : Ow w' base g k i ps Q C :=
 ⟨own_blk h.list (fun j e => by have := Option.some.inj e; subst this; exact hb g (Nat.le_refl _) (h.list.lt g rfl).2), fun t ht => own_blk (h.row t ht) (fun j e => by
  have hl := (h.row t ht).lt j e
  match hq : Q t, e with
  | some a, e =>
   have := Option.some.inj e
   subst this
   exact hb _ (Nat.le_of_lt (h.far t ht a hq)) hl.2
  | none, e => cases e), h.far⟩
theorem Ow.add {w w1 : World} {base g k i : Nat} {ps : Nat → List UInt8} {Q : Nat → Option Addr} {C : Nat → Nat} (h : Ow w base g k i ps Q C) (hi : i < k) (hbs : base ≤ w.heap.size) (hb : Below w.heap.size w w1) {Qn : Option Addr} {Cn : Nat} (ho : w1.ownsRow w.heap.size 5 1 (.slice Qn (ps i).length Cn) (ps i).length (cb (ps i))) :
  Ow (w1.setCell ⟨g, i, none⟩ (.slice Qn (ps i).length Cn)) base g k (i + 1) ps (fun t => if t = i then Qn else Q t) (fun t => if t = i then Cn else C t) := by
 have hg := (h.list.lt g rfl).2
 have h1 := h.keep (w' := w1) (fun j _ hj => hb.block j hj)
 refine ⟨?_, fun t ht => ?_, fun t ht a ha => ?_⟩
 ·have := (h1.list.stored i (.slice Qn (ps i).length Cn)).1
  rw [chd_next]
  have e := set_fill (chd ps Q C i) k (.slice none 0 0) (.slice Qn (ps i).length Cn) (by rw [chd_len]; exact hi)
  rw [chd_len] at e
  rw [e] at this
  exact this
 ·by_cases e : t = i
  ·subst e
   simp only [if_true]
   refine own_blk (own_base ho hbs) (fun j e => set_ne w1 g t j _ (fun e2 => ?_))
   have := (ho.lt j e).1
   omega
  ·simp only [if_neg e]
   refine own_blk (h1.row t (by omega)) (fun j e => set_ne w1 g i j _ (fun e2 => ?_))
   match hq : Q t, e with
   | some a, e =>
    have := Option.some.inj e
    have h3 := h.far t (by omega) a hq
    omega
   | none, e => cases e
 ·by_cases e : t = i
  ·subst e
   simp only [if_true] at ha
   have := (own_farQ ho a ha).1
   omega
  ·simp only [if_neg e] at ha
   exact h.far t (by omega) a ha
def CopR (w : World) (ps : List (List UInt8)) (e : Ending) (w' : World) : Prop := ∃ (g : Nat) (Q : Nat → Option Addr) (C : Nat → Nat), e = .returned (.slice (some ⟨g, 0, none⟩) ps.length ps.length) ∧ Ow w' w.heap.size g ps.length ps.length (fun t => ps.getD t []) Q C ∧ Below w.heap.size w w'
theorem info55 : (Tryz.prog.info? 123).map (fun i => (i.zero, i.size, i.bytes)) = some (some (.slice none 0 0), 1, 24) := by kernel_rfl
theorem copies_any (ps : List (List UInt8)) (P : Option Addr) (cap : Nat) (q : Nat → Option Addr) (c : Nat → Nat) (w : World) (hP : Pt w P ps q c) (hs : Bd ps) :
  Calls Tryz.prog 137 #[.slice P ps.length cap] w fun e w' => CopR w ps e w' := by
 have HP := hidden hP
 have HS := hidden hs
 have hpl : ps.length ≤ 5864062014634 := hs.1
 have HPL := hidden hpl
 obtain ⟨i0, hi, hz0, hz1, hz2⟩ := info_parts info55
 have hmk := run_make (P := Tryz.prog) w 110 123 i0 (.slice none 0 0) (by kernel_rfl) hi hz0 .i64 .i64 (ps.length : Int) (ps.length : Int) (by omega) (Int.le_refl _) (by rw [hz2]; omega) (by omega)
 simp only [Int.toNat_natCast, hz1, Value.cells, Nat.mul_one] at hmk
 have HO : Hid (Ow (w.alloc (.cells (madeCells #[.slice none 0 0] ps.length) 123)) w.heap.size w.heap.size ps.length 0 (fun t => ps.getD t []) (fun _ => none) (fun _ => 0)) := hidden ⟨by
   show World.ownsRow _ _ _ _ _ _ ([] ++ List.replicate (ps.length - 0) (Value.slice none 0 0))
   rw [List.nil_append, Nat.sub_zero, ← toList_madeCells_one]
   exact World.ownsRow_lit w _ ps.length (Nat.le_refl _) (by unfold maxLen; omega) (by simp [madeCells]), fun t ht => absurd ht (by omega), fun t ht => absurd ht (by omega)⟩
 have HB := hidden (bl_alloc w (.cells (madeCells #[.slice none 0 0] ps.length) 123))
 clear hP hs hpl hi hz0 hz1 hz2
 go_enter Tryz.func137, Tryz.ntmps137
 go_wp2_with fail
 clear hmk
 go_loopw [11] (fun kv w' => ∃ (i : Nat) (Q : Nat → Option Addr) (C : Nat → Nat), i ≤ ps.length ∧ kv = .int .i64 (i : Int) ∧ Hid (Ow w' w.heap.size w.heap.size ps.length i (fun t => ps.getD t []) Q C) ∧ Hid (Below w.heap.size w w')) (fun k _ => ps.length - (intOf k).toNat)
 case atStart => exact ⟨0, _, _, by omega, rfl, HO, HB⟩
 case round =>
  clear HO HB
  obtain ⟨i, Q, C, hi, rfl, HO, HB⟩ := hrel
  by_cases hin : i < ps.length
  ·obtain ⟨b, o, rfl, hc⟩ := HP.out.lie (by omega)
   have x0 := cell_keep (hc i hin) HB.out
   have k0 : (0 : Int) ≤ (i : Int) := by omega
   have k1 : (i : Int) < (ps.length : Int) := by omega
   have w9 : IntKind.i64.wrap ((i : Int) + 1) = (i : Int) + 1 := IntWalk.i64_in _ (by have := HPL.out; omega)
   have EY := hidden ((HP.out.each i hin).keep HB.out)
   have E1 : Hid ((ps.getD i []).length ≤ 140737488351232) := hidden (HS.out.2 i hin)
   obtain ⟨p, hp⟩ : ∃ p, p = ps.getD i [] := ⟨_, rfl⟩
   rw [← hp] at x0 EY E1
   have HPI := hidden hp
   clear hc hp
   go_wp2_with (first | (go_at_call 139; refine (clone_any _ _ p _ EY.out E1.out).mono ?_; rintro e w1 ⟨Qn, Cn, rfl, ho, hb⟩; have y0 := ((HO.out.keep (w' := w1) (fun j _ hj => hb.block j hj)).list.cellAt i (by omega)); have y1 := ((HO.out.keep (w' := w1) (fun j _ hj => hb.block j hj)).list.frozenAt i); rw [List.getElem?_append_right (by rw [chd_len]; exact Nat.le_refl _), chd_len, Nat.sub_self, List.getElem?_replicate_of_lt (by omega)] at y0; have NO := hidden (HO.out.add hin HB.out.size hb (Qn := Qn) (Cn := Cn) (by rw [← HPI.out]; exact ho)); have NB := hidden ((bl_trans HB.out hb).setCell (p := ⟨w.heap.size, i, none⟩) (Nat.le_refl _) (.slice Qn p.length Cn)); clear ho hb))
   go_roundw
   case rel => exact ⟨i + 1, _, _, by omega, by go_num, by rw [← HPI.out] at NO; exact NO, NB⟩
   case measure => simp [intOf]; omega
  ·obtain rfl : i = ps.length := by omega
   have lq : ¬ (ps.length : Int) < (ps.length : Int) := by omega
   go_wp2_with fail
   refine bodyPost_ret (v := .slice (some ⟨w.heap.size, 0, none⟩) ps.length ps.length) (by simp [results, Tryz.results137, go_sem]) rfl ⟨_, Q, C, rfl, HO.out, HB.out⟩
open Go.RowKit
structure Rl (w : World) (b o n : Nat) (g : Nat → E4) : Prop where
 c0 : ∀ k, k < n → w.cell? ⟨b, o + k * 4, none⟩ = some (.int .u64 (g k).x0)
 c1 : ∀ k, k < n → w.cell? ⟨b, o + k * 4 + 1, none⟩ = some (.int .u64 (g k).x1)
 c2 : ∀ k, k < n → w.cell? ⟨b, o + k * 4 + 2, none⟩ = some (.int .u64 (g k).x2)
 c3 : ∀ k, k < n → w.cell? ⟨b, o + k * 4 + 3, none⟩ = some (.int .u64 (g k).x3)
theorem Rl.keep {w1 w2 : World} {b o n : Nat} {g : Nat → E4} (h : Rl w1 b o n g) (hb : Below w1.heap.size w1 w2) : Rl w2 b o n g :=
 ⟨fun k hk => cell_keep (h.c0 k hk) hb, fun k hk => cell_keep (h.c1 k hk) hb, fun k hk => cell_keep (h.c2 k hk) hb, fun k hk => cell_keep (h.c3 k hk) hb⟩
def svs (n : Nat) (g : Nat → E4) : List Value := (List.range n).flatMap fun k => [.int .u64 (g k).x0, .int .u64 (g k).x1, .int .u64 (g k).x2, .int .u64 (g k).x3]
theorem svs_succ (n : Nat) (g : Nat → E4) : svs (n + 1) g = svs n g ++ [.int .u64 (g n).x0, .int .u64 (g n).x1, .int .u64 (g n).x2, .int .u64 (g n).x3] := by simp [svs, List.range_succ]
theorem svs_len (n : Nat) (g : Nat → E4) : (svs n g).length = n * 4 := by
 induction n with
 | zero => rfl
 | succ n ih => rw [svs_succ, List.length_append, ih]; simp; omega
theorem svs_one (g : Nat → E4) (n : Nat) : ∀ u ∈ svs n g, u.oneCell' = true := by
 induction n with
 | zero => intro u hu; simp [svs] at hu
 | succ n ih =>
  intro u hu
  rw [svs_succ] at hu
  rcases List.mem_append.1 hu with h | h
  ·exact ih u h
  ·simp only [List.mem_cons, List.not_mem_nil, or_false] at h
   rcases h with rfl | rfl | rfl | rfl <;> rfl
theorem own_rl {w : World} {base gg n cap : Nat} {e : TypeId} {g : Nat → E4} (h : w.ownsRow base e 4 (.slice (some ⟨gg, 0, none⟩) n cap) n (svs n g)) : Rl w gg 0 n g := by
 have hc : ∀ k, k < n * 4 → w.cell? ⟨gg, k, none⟩ = (svs n g)[k]? := fun k hk => h.cellAt k hk
 have hs : ∀ k d, k < n → d < 4 → (svs n g)[k * 4 + d]? = some ([Value.int .u64 (g k).x0, .int .u64 (g k).x1, .int .u64 (g k).x2, .int .u64 (g k).x3].getD d undef) := by
  intro k d hk hd
  clear hc h
  induction n with
  | zero => omega
  | succ n ih =>
   rw [svs_succ]
   by_cases hkn : k < n
   ·rw [List.getElem?_append_left (by rw [svs_len]; omega)]
    exact ih hkn
   ·have : k = n := by omega
    subst this
    rw [List.getElem?_append_right (by rw [svs_len]; omega), svs_len, show k * 4 + d - k * 4 = d by omega]
    obtain rfl | rfl | rfl | rfl : d = 0 ∨ d = 1 ∨ d = 2 ∨ d = 3 := by omega
    all_goals rfl
 refine ⟨fun k hk => ?_, fun k hk => ?_, fun k hk => ?_, fun k hk => ?_⟩ <;> rw [Nat.zero_add]
 ·rw [hc _ (by omega)]; exact hs k 0 hk (by omega)
 ·rw [hc _ (by omega)]; exact hs k 1 hk (by omega)
 ·rw [hc _ (by omega)]; exact hs k 2 hk (by omega)
 ·rw [hc _ (by omega)]; exact hs k 3 hk (by omega)
theorem info27 : (Tryz.prog.info? 26).map (fun i => (i.zero, i.size, i.bytes)) = some (some (.agg #[.int .u64 0, .int .u64 0, .int .u64 0, .int .u64 0]), 4, 32) := by kernel_rfl
def B3 (w : World) (b : Nat) (t : TypeId) (x y z : Value) : Prop := w.heap[b]? = some (.cells #[x, y, z] t (0, 0))
theorem B3.c0 {w : World} {b : Nat} {t : TypeId} {x y z : Value} (h : B3 w b t x y z) : w.cell? ⟨b, 0, none⟩ = some x := by
 rw [cell_of_row w b 0 _ t (0, 0) h]; rfl
theorem B3.c1 {w : World} {b : Nat} {t : TypeId} {x y z : Value} (h : B3 w b t x y z) : w.cell? ⟨b, 1, none⟩ = some y := by
 rw [cell_of_row w b 1 _ t (0, 0) h]; rfl
theorem B3.c2 {w : World} {b : Nat} {t : TypeId} {x y z : Value} (h : B3 w b t x y z) : w.cell? ⟨b, 2, none⟩ = some z := by
 rw [cell_of_row w b 2 _ t (0, 0) h]; rfl
theorem B3.f {w : World} {b : Nat} {t : TypeId} {x y z : Value} (h : B3 w b t x y z) (j : Nat) : w.frozen? ⟨b, j, none⟩ = false := frozen_of_row w b j _ t h
theorem B3.lt {w : World} {b : Nat} {t : TypeId} {x y z : Value} (h : B3 w b t x y z) : b < w.heap.size := (Array.getElem?_eq_some_iff.1 h).1
theorem B3.set0 {w : World} {b : Nat} {t : TypeId} {x y z : Value} (h : B3 w b t x y z) (v : Value) : B3 (w.setCell ⟨b, 0, none⟩ v) b t v y z := heap_setCell_same w b 0 _ t v h
theorem B3.set1 {w : World} {b : Nat} {t : TypeId} {x y z : Value} (h : B3 w b t x y z) (v : Value) : B3 (w.setCell ⟨b, 1, none⟩ v) b t x v z := heap_setCell_same w b 1 _ t v h
theorem B3.blk {w w' : World} {b : Nat} {t : TypeId} {x y z : Value} (h : B3 w b t x y z) (e : w'.heap[b]? = w.heap[b]?) : B3 w' b t x y z := e.trans h
theorem B3.keep {w w' : World} {b n : Nat} {t : TypeId} {x y z : Value} (h : B3 w b t x y z) (e : Below n w w') (hb : b < n) : B3 w' b t x y z := h.blk (e.block b hb)
theorem own_shape4 {w : World} {base n s : Nat} {e : TypeId} {v : Value} {xs : List Value} (h : w.ownsRow base e s v n xs) : ∃ (P : Option Addr) (c : Nat), v = .slice P n c ∧ n ≤ c := by
 rcases h.2 with ⟨rfl, rfl⟩ | ⟨g, cap, cur, rfl, _, _, hn, _⟩
 ·exact ⟨none, 0, rfl, Nat.le_refl _⟩
 ·exact ⟨_, _, rfl, hn⟩
theorem own_some4 {w : World} {base n s : Nat} {e : TypeId} {v : Value} {xs : List Value} (h : w.ownsRow base e s v n xs) (hn : 0 < n) : ∃ g c : Nat, v = .slice (some ⟨g, 0, none⟩) n c ∧ n ≤ c := by
 rcases h.2 with ⟨_, h0⟩ | ⟨g, cap, cur, rfl, _, _, hnc, _⟩
 ·omega
 ·exact ⟨g, cap, rfl, hnc⟩
theorem sclone_any (P : Option Addr) (c m : Nat) (g : Nat → E4) (w : World) (hn : P = none → m = 0 ∧ c = 0) (hc : ∀ a, P = some a → ∀ j u, (svs m g)[j]? = some u → w.cell? (a.add j) = some u) (hl : m ≤ 4398046510976) :
  Calls Tryz.prog 35 #[.slice P m c] w fun e w' => ∃ (Q : Option Addr) (d : Nat), e = .returned (.slice Q m d) ∧ w'.ownsRow w.heap.size 26 4 (.slice Q m d) m (svs m g) ∧ Below w.heap.size w w' := by
 have eqn := fun (a : Option Addr) (l c : Nat) (w : World) => Lib.run_eql_slice_nil (P := Tryz.prog) w 23 26 a l c 0 0 (by kernel_rfl)
 have HL := hidden hl
 cases P with
 | none =>
  obtain ⟨rfl, rfl⟩ := hn rfl
  clear hn hc hl
  go_enter Tryz.func35, Tryz.ntmps35
  go_wp2_with fail
  refine bodyPost_ret (v := .slice none 0 0) (by simp [results, Tryz.results35, go_sem]) rfl ⟨none, 0, rfl, World.ownsRow_nil _ _ _ _, Below.refl _ _⟩
 | some ad =>
  obtain ⟨i0, hi, hz0, hz1, hz2⟩ := info_parts info27
  have HI := hidden hi
  have HZ0 := hidden hz0
  have HZ1 := hidden hz1
  have HZ2 := hidden hz2
  have HU : Hid (Tryz.prog.underlying 23 = some (.slice 26)) := hidden (by kernel_rfl)
  have O0 := hidden (World.ownsRow_made (base := w.heap.size) (e := 26) (size := 4) w #[] 0 (Nat.le_refl _) (by unfold maxLen; omega) rfl)
  have B0 := hidden (bl_alloc w (.cells #[] 26))
  have HC : Hid (∀ j u, (svs m g)[j]? = some u → (w.alloc (.cells #[] 26)).cell? (ad.add j) = some u) := hidden (fun j u hu => cell_keep (hc ad rfl j u hu) (bl_alloc w _))
  clear hn hc hl hi hz0 hz1 hz2
  go_enter Tryz.func35, Tryz.ntmps35
  go_wp2_with (first | (at_builtin; refine wpList_append_own_at _ rfl _ _ 23 rfl w.heap.size 26 i0 (.agg #[.int .u64 0, .int .u64 0, .int .u64 0, .int .u64 0]) 4 32 HU.out HI.out HZ0.out HZ1.out HZ2.out rfl (by decide) _ 0 [] rfl O0.out ad m c (svs m g) rfl (svs_len _ _) HC.out (svs_one g m) (by have := HL.out; unfold maxLen; omega) (by have := HL.out; omega) B0.out.size ?_; intro v2 w2 ho2 hg2 hn2 ha2; have HO := hidden ho2; have HB := hidden (below_trans B0.out (below_grown hg2 B0.out.size (fun k hk => (O0.out.lt k hk).1))); clear ho2 hg2 hn2 ha2; rw [Nat.zero_add, List.nil_append] at HO))
  obtain ⟨Q, d, rfl, -⟩ := own_shape4 HO.out
  refine bodyPost_ret (v := .slice Q m d) (by simp [results, Tryz.results35, go_sem]) rfl ⟨Q, d, rfl, HO.out, HB.out⟩
def Lf (w : World) (sb : Nat) (P : Option Addr) (m : Nat) (g : Nat → E4) : Prop := ∃ gL o : Nat, (0 < m → P = some ⟨gL, o, none⟩ ∧ gL < sb) ∧ (0 < m → Rl w gL o m g)
theorem Lf.keep {w w' : World} {sb : Nat} {P : Option Addr} {m : Nat} {g : Nat → E4} (h : Lf w sb P m g) (hb : ∀ k, k < sb → w'.heap[k]? = w.heap[k]?) : Lf w' sb P m g := by
 obtain ⟨gL, o, h1, h2⟩ := h
 refine ⟨gL, o, h1, fun hm => ?_⟩
 have hr := h2 hm
 have e := hb gL (h1 hm).2
 exact ⟨fun k hk => (World.cell?_of_block e).trans (hr.c0 k hk), fun k hk => (World.cell?_of_block e).trans (hr.c1 k hk), fun k hk => (World.cell?_of_block e).trans (hr.c2 k hk), fun k hk => (World.cell?_of_block e).trans (hr.c3 k hk)⟩
theorem givens_any (P : Option Addr) (c m : Nat) (g : Nat → E4) (w : World) (hn : P = none → m = 0 ∧ c = 0) (hc : ∀ a, P = some a → ∀ j u, (svs m g)[j]? = some u → w.cell? (a.add j) = some u) (hl : m ≤ 4398046510976) :
  Calls Tryz.prog 12 #[.slice P m c] w fun e w' => ∃ (sb : Nat) (Q : Option Addr) (d : Nat), e = .returned (.pointer (some ⟨sb, 0, none⟩)) ∧ B3 w' sb 85 (.slice Q m d) (.slice none 0 0) (.bool true) ∧ m ≤ d ∧ Lf w' sb Q m g ∧ (∀ a, Q = some a → w.heap.size ≤ a.block) ∧ w.heap.size ≤ sb ∧ Below w.heap.size w w' := by
 have C1 := hidden (sclone_any P c m g w hn hc hl)
 clear hn hc hl
 go_enter Tryz.func12, Tryz.ntmps12
 go_wp2_with (first | (go_at_call 35; refine C1.out.mono ?_; rintro e w1 ⟨Q, d, rfl, ho, hb⟩; have HO := hidden ho; have HB := hidden hb; clear ho hb))
 have HX : B3 (w1.alloc (.cells #[.slice Q m d, .slice none 0 0, .bool true] 85)) w1.heap.size 85 (.slice Q m d) (.slice none 0 0) (.bool true) := heap_alloc_new w1 _
 refine bodyPost_ret (v := .pointer (some ⟨w1.heap.size, 0, none⟩)) (by simp [results, Tryz.results12, go_sem]) rfl ⟨w1.heap.size, Q, d, rfl, HX, ?_, ?_, fun a ha => (HO.out.lt a.block (by subst ha; rfl)).1, HB.out.size, bl_trans HB.out (bl_alloc w1 _)⟩
 ·obtain ⟨P', c', e, h⟩ := own_shape4 HO.out
  simp only [Value.slice.injEq] at e
  omega
 ·by_cases hm : 0 < m
  ·obtain ⟨gL, cL, e, _⟩ := own_some4 HO.out hm
   simp only [Value.slice.injEq] at e
   obtain ⟨rfl, _, rfl⟩ := e
   exact ⟨gL, 0, fun _ => ⟨rfl, (HO.out.lt gL rfl).2⟩, fun _ => (own_rl HO.out).keep (bl_alloc w1 _)⟩
  ·exact ⟨0, 0, fun h => absurd h hm, fun h => absurd h hm⟩
open Go.RowKit
structure En where
 d : Bool
 l : List UInt8
 ps : List (List UInt8)
structure Em where
 P : Option Addr
 c : Nat
 q : Nat → Option Addr
 cc : Nat → Nat
def PtIn (B : Nat → Prop) (P : Option Addr) (ps : List (List UInt8)) (q : Nat → Option Addr) : Prop := (0 < ps.length → ∀ a, P = some a → B a.block) ∧ ∀ i, i < ps.length → ∀ a, q i = some a → B a.block
theorem PtIn.mono {B B' : Nat → Prop} {P : Option Addr} {ps : List (List UInt8)} {q : Nat → Option Addr} (h : PtIn B P ps q) (hb : ∀ k, B k → B' k) : PtIn B' P ps q := ⟨fun h0 a ha => hb _ (h.1 h0 a ha), fun i hi a ha => hb _ (h.2 i hi a ha)⟩
theorem PtIn.and {B B' : Nat → Prop} {P : Option Addr} {ps : List (List UInt8)} {q : Nat → Option Addr} (h : PtIn B P ps q) (h' : PtIn B' P ps q) : PtIn (fun k => B k ∧ B' k) P ps q := ⟨fun h0 a ha => ⟨h.1 h0 a ha, h'.1 h0 a ha⟩, fun i hi a ha => ⟨h.2 i hi a ha, h'.2 i hi a ha⟩⟩
theorem By.moveQ {w w' : World} {P : Option Addr} {c : Nat} {bs : List UInt8} (h : By w P c bs) (hb : ∀ a, P = some a → w'.heap[a.block]? = w.heap[a.block]?) : By w' P c bs :=
 ⟨h.nil, fun a ha j u hu => by
  have := h.lie a ha j u hu
  rw [← this]
  exact World.cell?_of_block (by rw [show (a.add j).block = a.block by unfold Addr.add; split <;> rfl]; exact hb a ha)⟩
theorem Pt.move {w w' : World} {P : Option Addr} {ps : List (List UInt8)} {q : Nat → Option Addr} {c : Nat → Nat} {B : Nat → Prop} (h : Pt w P ps q c) (hi : PtIn B P ps q) (hb : ∀ k, B k → w'.heap[k]? = w.heap[k]?) : Pt w' P ps q c :=
 ⟨fun h0 => by
  obtain ⟨b, o, e, h1⟩ := h.lie h0
  refine ⟨b, o, e, fun i hi2 => ?_⟩
  rw [← h1 i hi2]
  exact World.cell?_of_block (a := ⟨b, o + i, none⟩) (hb b (hi.1 h0 ⟨b, o, none⟩ e)), fun i hi2 => (h.each i hi2).moveQ (fun a ha => hb _ (hi.2 i hi2 a ha))⟩
theorem Ow.pt {w : World} {base g : Nat} {ps : List (List UInt8)} {Q : Nat → Option Addr} {C : Nat → Nat} (h : Ow w base g ps.length ps.length (fun t => ps.getD t []) Q C) : Pt w (some ⟨g, 0, none⟩) ps Q C := by
 refine ⟨fun _ => ⟨g, 0, rfl, fun i hi => ?_⟩, fun i hi => own_byQ (h.row i hi)⟩
 rw [Nat.zero_add, h.list.cellAt i (by omega), List.getElem?_append_left (by rw [chd_len]; exact hi)]
 simp [chd, List.getElem?_range hi]
theorem Ow.inn {w : World} {base g : Nat} {ps : List (List UInt8)} {Q : Nat → Option Addr} {C : Nat → Nat} (h : Ow w base g ps.length ps.length (fun t => ps.getD t []) Q C) : PtIn (fun k => base ≤ k ∧ k < w.heap.size) (some ⟨g, 0, none⟩) ps Q :=
 ⟨fun _ a ha => by obtain rfl := Option.some.inj ha; exact h.list.lt g rfl, fun i hi a ha => own_farQ (h.row i hi) a ha⟩
def sdc (es : List (En × Em)) : List Value := es.flatMap fun x => [.bool x.1.d, .string (sb x.1.l), .slice x.2.P x.1.ps.length x.2.c]
theorem sdc_app (a b : List (En × Em)) : sdc (a ++ b) = sdc a ++ sdc b := by simp [sdc]
structure Hr (w : World) (base : Nat) (vH : Value) (es : List (En × Em)) : Prop where
 list : w.ownsRow base 223 3 vH es.length (sdc es)
 each : ∀ x ∈ es, Pt w x.2.P x.1.ps x.2.q x.2.cc
 far : ∀ x ∈ es, PtIn (fun k => base ≤ k ∧ k < w.heap.size ∧ vH.ownBlock ≠ some k) x.2.P x.1.ps x.2.q
theorem Hr.keep {w w' : World} {base : Nat} {vH : Value} {es : List (En × Em)} (h : Hr w base vH es) (hz : w.heap.size ≤ w'.heap.size) (h1 : ∀ k, vH.ownBlock = some k → w'.heap[k]? = w.heap[k]?) {B : Nat → Prop} (hB : ∀ x ∈ es, PtIn B x.2.P x.1.ps x.2.q) (h2 : ∀ k, B k → base ≤ k → k < w.heap.size → w'.heap[k]? = w.heap[k]?) : Hr w' base vH es :=
 ⟨own_blk h.list h1, fun x hx => (h.each x hx).move ((hB x hx).and (h.far x hx)) (fun k hk => h2 k hk.1 hk.2.1 hk.2.2.1), fun x hx => (h.far x hx).mono (fun _ hk => ⟨hk.1, Nat.lt_of_lt_of_le hk.2.1 hz, hk.2.2⟩)⟩
theorem Hr.stay {w w' : World} {base : Nat} {vH : Value} {es : List (En × Em)} (h : Hr w base vH es) (hb : Below w.heap.size w w') : Hr w' base vH es :=
 h.keep hb.size (fun k hk => hb.block k (h.list.lt k hk).2) (B := fun _ => True) (fun x hx => (h.far x hx).mono (fun _ _ => trivial)) (fun _ _ _ hk => hb.block _ hk)
theorem Hr.add {w w1 w2 : World} {o : Obj} {base : Nat} {vH vn : Value} {es : List (En × Em)} {x : En × Em} (h : Hr w base vH es) (hbs : base ≤ w.heap.size) (hb : Below w.heap.size w w1) (hp : Pt w1 x.2.P x.1.ps x.2.q x.2.cc) (hi : PtIn (fun k => w.heap.size ≤ k ∧ k < w1.heap.size) x.2.P x.1.ps x.2.q)
  (hg : (w1.alloc o).grownBy w2 vH.ownBlock) (ho : w2.ownsRow base 223 3 vn (es.length + 1) (sdc es ++ [.bool x.1.d, .string (sb x.1.l), .slice x.2.P x.1.ps.length x.2.c])) (hat : vn.ownBlock = vH.ownBlock ∨ vn.ownBlock = some (w1.alloc o).heap.size) : Hr w2 base vn (es ++ [x]) := by
 have hz : w1.heap.size + 1 ≤ w2.heap.size := by have := hg.size; simp at this; omega
 have h1 : ∀ j, j < w1.heap.size → vH.ownBlock ≠ some j → w2.heap[j]? = w1.heap[j]? := fun j hj hn => grown_blk hg hj (fun e => hn e.symm)
 have h2 : ∀ j, j < w.heap.size → vH.ownBlock ≠ some j → w2.heap[j]? = w.heap[j]? := fun j hj hn => (h1 j (Nat.lt_of_lt_of_le hj hb.size) hn).trans (hb.block j hj)
 have hn : ∀ j, j < w1.heap.size → vH.ownBlock ≠ some j → vn.ownBlock ≠ some j := fun j hj hne e => by
  rcases hat with h3 | h3
  ·exact hne (h3.symm.trans e)
  ·have := Option.some.inj (h3.symm.trans e)
   simp at this
   omega
 have hnew : ∀ j, w.heap.size ≤ j → vH.ownBlock ≠ some j := fun j hj e => by have := (h.list.lt j e).2; omega
 have hs := hb.size
 refine ⟨?_, fun y hy => ?_, fun y hy => ?_⟩
 ·rw [List.length_append, sdc_app]
  simpa [sdc] using ho
 ·rcases List.mem_append.1 hy with hy | hy
  ·exact (h.each y hy).move (h.far y hy) (fun k hk => h2 k hk.2.1 hk.2.2)
  ·simp only [List.mem_singleton] at hy
   subst hy
   exact hp.move hi (fun k hk => h1 k hk.2 (hnew k hk.1))
 ·rcases List.mem_append.1 hy with hy | hy
  ·exact (h.far y hy).mono (fun k hk => ⟨hk.1, by omega, hn k (by omega) hk.2.2⟩)
  ·simp only [List.mem_singleton] at hy
   subst hy
   exact hi.mono (fun k hk => ⟨by omega, by omega, hn k hk.2 (hnew k hk.1)⟩)
theorem none_any (s : Nat) (x y : Value) (w : World) (hX : B3 w s 85 x y (.bool true)) :
  Calls Tryz.prog 136 #[.pointer (some ⟨s, 0, none⟩)] w fun e w' => e = .returned (.bool false) ∧ Below w.heap.size w w' := by
 have y0 := hX.c2
 clear hX
 go_enter Tryz.func136, Tryz.ntmps136
 go_wp2_with fail
 refine bodyPost_ret (v := .bool false) (by simp [results, Tryz.results136, go_sem]) rfl ⟨rfl, Below.refl _ _⟩
theorem info50 : (Tryz.prog.info? 223).map (fun i => (i.zero, i.size, i.bytes)) = some (some (.agg #[.bool false, .string .empty, .slice none 0 0]), 3, 48) := by kernel_rfl
theorem Bt.grownS {S : Nat → Prop} {w w1 w' : World} {row : Option Nat} (h : Bt S w w1) (hg : w1.grownBy w' row) (hr : ∀ k, row = some k → S k ∨ w.heap.size ≤ k) : Bt S w w' :=
 ⟨hg.os.trans h.os, hg.tape.trans h.tape, hg.output.trans h.output, Nat.le_trans h.size hg.size, fun k hk hs => (hg.block k (Nat.lt_of_lt_of_le hk h.size) (fun e => by rcases hr k e.symm with h1 | h1; (exact hs h1); omega)).trans (h.block k hk hs)⟩
theorem Hr.set {w : World} {base : Nat} {vH : Value} {es : List (En × Em)} (h : Hr w base vH es) {s : Nat} (hs : s < base) (j : Nat) (v : Value) : Hr (w.setCell ⟨s, j, none⟩ v) base vH es :=
 h.keep (by simp) (fun k hk => set_ne w s j k v (by have := (h.list.lt k hk).1; omega)) (B := fun _ => True) (fun x hx => (h.far x hx).mono (fun _ _ => trivial)) (fun k _ hk _ => set_ne w s j k v (by omega))
def AbsR (w : World) (base s : Nat) (vL vH : Value) (es : List (En × Em)) (l : List UInt8) (ps : List (List UInt8)) (e : Ending) (w' : World) : Prop := ∃ (vn : Value) (m : Em), e = .returned (.tuple #[]) ∧ B3 w' s 85 vL vn (.bool true) ∧ Hr w' base vn (es ++ [(⟨false, l, ps⟩, m)]) ∧ PtIn (fun k => w.heap.size ≤ k) m.P ps m.q ∧ (vn.ownBlock = vH.ownBlock ∨ ∃ g, vn.ownBlock = some g ∧ w.heap.size ≤ g) ∧ Bt (fun k => k = s ∨ vH.ownBlock = some k) w w'
theorem absorb_any (s base : Nat) (vL vH : Value) (es : List (En × Em)) (l : List UInt8) (ps : List (List UInt8)) (P : Option Addr) (cap : Nat) (q : Nat → Option Addr) (c : Nat → Nat) (w : World) (hX : B3 w s 85 vL vH (.bool true)) (hsb : s < base) (hbs : base ≤ w.heap.size) (hH : Hr w base vH es) (hn : es.length ≤ 2513169434879) (hP : Pt w P ps q c) (hs : Bd ps) :
  Calls Tryz.prog 134 #[.pointer (some ⟨s, 0, none⟩), .string (sb l), .slice P ps.length cap] w fun e w' => AbsR w base s vL vH es l ps e w' := by
 have C0 := hidden (none_any s vL vH w hX)
 have C1 := hidden (fun w' (hb : Below w.heap.size w w') => copies_any ps P cap q c w' (hP.keep hb) hs)
 have HX := hidden hX
 have HH := hidden hH
 have HSB := hidden hsb
 have HBS := hidden hbs
 have HNL := hidden hn
 obtain ⟨i0, hi, hz0, hz1, hz2⟩ := info_parts info50
 have HI := hidden hi
 have HZ0 := hidden hz0
 have HZ1 := hidden hz1
 have HZ2 := hidden hz2
 have HU : Hid (Tryz.prog.underlying 83 = some (.slice 223)) := hidden (by kernel_rfl)
 obtain ⟨PH, cH, hvH, -⟩ := own_shape4 hH.list
 have HVH := hidden hvH
 clear hX hsb hbs hH hn hP hs hi hz0 hz1 hz2 hvH
 go_enter Tryz.func134, Tryz.ntmps134
 go_upto_region 1 with (first | (go_at_call 136; refine C0.out.mono ?_; rintro e w1 ⟨rfl, hb⟩; have B1 := hidden hb; clear hb))
 have y0 : w1.drew.cell? ⟨s, 1, none⟩ = some vH := (HX.out.keep B1.out HX.out.lt).c1
 go_region_law (first | (refine step_append_at rfl (.tmp 12) (.tmp 17) 83 rfl base 223 i0 (.agg #[.bool false, .string .empty, .slice none 0 0]) 3 48 HU.out HI.out HZ0.out HZ1.out HZ2.out rfl (by decide) vH es.length (sdc es) (by simp [Act.eval]) (HH2.out.list.alloc _) ⟨w2.heap.size, 0, none⟩ 1 1 [.bool false, .string (sb l), .slice (some ⟨g, 0, none⟩) ps.length ps.length] (by simp [Act.eval]) rfl (cells_new w2 _ _) (by simp [Value.oneCell']) (by have := HNL.out; unfold maxLen; omega) (by have := HNL.out; omega) (by have := HBS.out; have := B1.out.size; have := B2.out.size; simp; omega) ?_; intro v6 w6 how6 hgr6 hat6; obtain ⟨g6, c6, rfl, hc6⟩ := own_some4 how6 (by omega); have nS : some s ≠ vH.ownBlock := (fun e => by have := (HH2.out.list.lt s e.symm).1; have := HSB.out; omega); have X6 := hidden (X2.out.blk (grown_blk hgr6 X2.out.lt nS)); have z0 := X6.out.c1; have z1 := X6.out.f 1) | (go_simp; go_at_call 137; refine (C1.out _ B1.out.drew).mono ?_; rintro e w2 ⟨g, Q, C, rfl, ho, hb⟩; have B2 : Hid (Below w1.heap.size w1 w2) := hidden (bl_trans (drew_blW w1) hb); have HH2 := hidden ((HH.out.stay B1.out).stay B2.out); have X2 := hidden ((HX.out.keep B1.out HX.out.lt).keep B2.out (HX.out.keep B1.out HX.out.lt).lt); have HOC := hidden ho; have BC := hidden hb; clear ho hb; have y1 := X2.out.c1; have y2 : ∀ o, (w2.alloc o).cell? ⟨s, 1, none⟩ = some vH := (fun o => cell_keep y1 (bl_alloc w2 o))))
 all_goals
  have H6 := hidden ((HH.out.stay B1.out).add (x := (⟨false, l, ps⟩, ⟨some ⟨g, 0, none⟩, ps.length, Q, C⟩)) (Nat.le_trans HBS.out B1.out.size) B2.out HOC.out.pt HOC.out.inn hgr6 how6 hat6)
  have H8 := hidden (H6.out.set HSB.out 1 (.slice (some ⟨g6, 0, none⟩) (es.length + 1) c6))
  have X8 := hidden (X6.out.set1 (.slice (some ⟨g6, 0, none⟩) (es.length + 1) c6))
  have T8 := hidden ((((((Bt.of (S := fun k => k = s ∨ vH.ownBlock = some k) B1.out).trans (Bt.of B2.out)).trans (Bt.of (bl_alloc w2 _))).grownS hgr6 (fun k hk => Or.inl (Or.inr hk))).trans (Bt.set (Or.inl rfl) 1 (.slice (some ⟨g6, 0, none⟩) (es.length + 1) c6))))
  have P8 : Hid (PtIn (fun k => w.heap.size ≤ k) (some ⟨g, 0, none⟩) ps Q) := hidden (HOC.out.inn.mono (fun k hk => Nat.le_trans B1.out.size hk.1))
  have O8 : Hid ((Value.slice (some ⟨g6, 0, none⟩) (es.length + 1) c6).ownBlock = vH.ownBlock ∨ ∃ g, (Value.slice (some ⟨g6, 0, none⟩) (es.length + 1) c6).ownBlock = some g ∧ w.heap.size ≤ g) := hidden (by
   rcases hat6 with h | h
   ·exact Or.inl h
   ·exact Or.inr ⟨_, h, by have := B1.out.size; have := B2.out.size; simp; omega⟩)
  refine bodyPost_end (v := .tuple #[]) (by simp [results, Tryz.results134, go_sem]) rfl ⟨_, _, rfl, X8.out, H8.out, P8.out, O8.out, T8.out⟩
open Go.RowKit
def B4 (w : World) (b : Nat) (t : TypeId) (z : E4) : Prop := w.heap[b]? = some (.cells #[.int .u64 z.x0, .int .u64 z.x1, .int .u64 z.x2, .int .u64 z.x3] t (0, 0))
theorem B4.c0 {w : World} {b : Nat} {t : TypeId} {z : E4} (h : B4 w b t z) : w.cell? ⟨b, 0, none⟩ = some (.int .u64 z.x0) := by
 rw [cell_of_row w b 0 _ t (0, 0) h]; rfl
theorem B4.c1 {w : World} {b : Nat} {t : TypeId} {z : E4} (h : B4 w b t z) : w.cell? ⟨b, 1, none⟩ = some (.int .u64 z.x1) := by
 rw [cell_of_row w b 1 _ t (0, 0) h]; rfl
theorem B4.c2 {w : World} {b : Nat} {t : TypeId} {z : E4} (h : B4 w b t z) : w.cell? ⟨b, 2, none⟩ = some (.int .u64 z.x2) := by
 rw [cell_of_row w b 2 _ t (0, 0) h]; rfl
theorem B4.c3 {w : World} {b : Nat} {t : TypeId} {z : E4} (h : B4 w b t z) : w.cell? ⟨b, 3, none⟩ = some (.int .u64 z.x3) := by
 rw [cell_of_row w b 3 _ t (0, 0) h]; rfl
theorem B4.f {w : World} {b : Nat} {t : TypeId} {z : E4} (h : B4 w b t z) (j : Nat) : w.frozen? ⟨b, j, none⟩ = false := frozen_of_row w b j _ t h
theorem B4.lt {w : World} {b : Nat} {t : TypeId} {z : E4} (h : B4 w b t z) : b < w.heap.size := (Array.getElem?_eq_some_iff.1 h).1
theorem B4.blk {w w' : World} {b : Nat} {t : TypeId} {z : E4} (h : B4 w b t z) (e : w'.heap[b]? = w.heap[b]?) : B4 w' b t z := e.trans h
theorem B4.keep {w w' : World} {b n : Nat} {t : TypeId} {z : E4} (h : B4 w b t z) (e : Below n w w') (hb : b < n) : B4 w' b t z := h.blk (e.block b hb)
def put4 (w : World) (b : Nat) (z : E4) : World := (((w.setCell ⟨b, 0, none⟩ (.int .u64 z.x0)).setCell ⟨b, 1, none⟩ (.int .u64 z.x1)).setCell ⟨b, 2, none⟩ (.int .u64 z.x2)).setCell ⟨b, 3, none⟩ (.int .u64 z.x3)
theorem B4.put {w : World} {b : Nat} {t : TypeId} {y : E4} (h : B4 w b t y) (z : E4) : B4 (put4 w b z) b t z := by
 have h0 := heap_setCell_same w b 0 _ t (.int .u64 z.x0) h
 have h1 := heap_setCell_same _ b 1 _ t (.int .u64 z.x1) h0
 have h2 := heap_setCell_same _ b 2 _ t (.int .u64 z.x2) h1
 exact heap_setCell_same _ b 3 _ t (.int .u64 z.x3) h2
theorem put4_ne (w : World) (b k : Nat) (z : E4) (h : k ≠ b) : (put4 w b z).heap[k]? = w.heap[k]? := by
 unfold put4
 rw [set_ne _ _ _ _ _ h, set_ne _ _ _ _ _ h, set_ne _ _ _ _ _ h, set_ne _ _ _ _ _ h]
theorem put4_bel {w0 w : World} {m b : Nat} (z : E4) (h : Below m w0 w) (hb : m ≤ b) : Below m w0 (put4 w b z) := (((h.setCell hb _).setCell hb _).setCell hb _).setCell hb _
theorem put4_size (w : World) (b : Nat) (z : E4) : (put4 w b z).heap.size = w.heap.size := by unfold put4; simp
theorem challenge_any (z : E4) (w : World) (hT : Go.Proofs.YtbbnjmjeeiglcaaGreatDoor.Tb w) (hz : z.ok) :
  Calls Tryz.prog 138 #[z.v] w fun e w' => e = .returned (.tuple #[(lst z.n).v, .int .i64 (if z.n % Sm.L = 0 then 4 else 0)]) ∧ Below w.heap.size w w' := by
 have IZ := hidden (fun w T => IsZero_any z w T hz)
 have LE := hidden (fun w T => Least_any z w T hz)
 have HT := hidden ((hT.keep (bl_alloc w (.cells #[.int .u64 z.x0, .int .u64 z.x1, .int .u64 z.x2, .int .u64 z.x3] 26))).keep (bl_alloc _ (.cells #[.int .u64 0, .int .u64 0, .int .u64 0, .int .u64 0] 26)))
 have HB := hidden (bl_trans (bl_alloc w (.cells #[.int .u64 z.x0, .int .u64 z.x1, .int .u64 z.x2, .int .u64 z.x3] 26)) (bl_alloc _ (.cells #[.int .u64 0, .int .u64 0, .int .u64 0, .int .u64 0] 26)))
 have XZ : Hid (B4 ((w.alloc (.cells #[.int .u64 z.x0, .int .u64 z.x1, .int .u64 z.x2, .int .u64 z.x3] 26)).alloc (.cells #[.int .u64 0, .int .u64 0, .int .u64 0, .int .u64 0] 26)) w.heap.size 26 z) := hidden ((heap_alloc_old _ _ (by simp)).trans (heap_alloc_new w _))
 have X0 : Hid (B4 ((w.alloc (.cells #[.int .u64 z.x0, .int .u64 z.x1, .int .u64 z.x2, .int .u64 z.x3] 26)).alloc (.cells #[.int .u64 0, .int .u64 0, .int .u64 0, .int .u64 0] 26)) (w.heap.size + 1) 26 ⟨0, 0, 0, 0⟩) := hidden (by
  have := heap_alloc_new (w.alloc (.cells #[.int .u64 z.x0, .int .u64 z.x1, .int .u64 z.x2, .int .u64 z.x3] 26)) (.cells #[.int .u64 0, .int .u64 0, .int .u64 0, .int .u64 0] 26)
  rw [World.size_alloc] at this
  exact this)
 have HR : Hid ((lst z.n).v = .agg #[.int .u64 (lst z.n).x0, .int .u64 (lst z.n).x1, .int .u64 (lst z.n).x2, .int .u64 (lst z.n).x3]) := hidden rfl
 rw [HR.out]
 generalize hr : lst z.n = r
 have HRR := hidden hr
 simp only [E4.v] at IZ LE ⊢
 have hb0 : (if z.n % Sm.L = 0 then (4 : Int) else 0) = (if decide (z.n % Sm.L = 0) = true then 4 else 0) := by simp
 rw [hb0]
 have HZ : Hid (decide (z.n % Sm.L = 0) = true → r = ⟨0, 0, 0, 0⟩) := hidden (fun h => by rw [← hr]; exact (zero_is z.n).2 (of_decide_eq_true h))
 generalize decide (z.n % Sm.L = 0) = B at IZ HZ
 clear hT hz hr HR hb0
 go_enter Tryz.func138, Tryz.ntmps138
 go_upto_region 1 with fail
 obtain ⟨N, hN⟩ : ∃ N, w.heap.size = N := ⟨_, rfl⟩
 rw [hN] at XZ X0
 rw [hN]
 have HN := hidden hN
 clear hN
 generalize (w.alloc (.cells #[.int .u64 z.x0, .int .u64 z.x1, .int .u64 z.x2, .int .u64 z.x3] 26)).alloc (.cells #[.int .u64 0, .int .u64 0, .int .u64 0, .int .u64 0] 26) = w1 at HT HB XZ X0 ⊢
 have a0 := XZ.out.c0; have a1 := XZ.out.c1; have a2 := XZ.out.c2; have a3 := XZ.out.c3
 have fc : ∀ w', Below w1.heap.size w1 w' → Hid (B4 w' N 26 z ∧ B4 w' (N + 1) 26 ⟨0, 0, 0, 0⟩ ∧ Go.Proofs.YtbbnjmjeeiglcaaGreatDoor.Tb w' ∧ Below w.heap.size w w') := fun w' hb => hidden ⟨XZ.out.keep hb XZ.out.lt, X0.out.keep hb X0.out.lt, HT.out.keep hb, bl_trans HB.out hb⟩
 cases B with
 | true =>
  obtain rfl := HZ.out rfl
  clear LE HZ HRR
  go_wp2_with (first | (go_at_call 8; refine (IZ.out _ HT.out).mono ?_; rintro e w2 ⟨rfl, hb⟩; have F := fc w2 hb; have b0 := F.out.2.1.c0; have b1 := F.out.2.1.c1; have b2 := F.out.2.1.c2; have b3 := F.out.2.1.c3; have g0 := F.out.2.1.f 0; have g1 := F.out.2.1.f 1; have g2 := F.out.2.1.f 2; have g3 := F.out.2.1.f 3; clear hb))
  have R1 := hidden (F.out.2.1.put ⟨0, 0, 0, 0⟩)
  have R2 := hidden (put4_bel (b := N + 1) ⟨0, 0, 0, 0⟩ F.out.2.2.2 (by rw [HN.out]; omega))
  unfold put4 at R1 R2
  have c0 := R1.out.c0; have c1 := R1.out.c1; have c2 := R1.out.c2; have c3 := R1.out.c3
  refine bodyPost_ret (v := .tuple #[.agg #[.int .u64 0, .int .u64 0, .int .u64 0, .int .u64 0], .int .i64 4]) (by simp only [results, Tryz.results138]; simp [go_sem, c0, c1, c2, c3]) rfl ⟨rfl, R2.out⟩
 | false =>
  go_wp2_with (first | (go_at_call 8; refine (IZ.out _ HT.out).mono ?_; rintro e w2 ⟨rfl, hb⟩; have F := fc w2 hb; have d0 := F.out.1.c0; have d1 := F.out.1.c1; have d2 := F.out.1.c2; have d3 := F.out.1.c3; have BB := hidden hb; clear hb) | (go_at_call 23; refine (LE.out _ F.out.2.2.1).mono ?_; rintro e w3 ⟨r', rfl, hr', hb⟩; have G := fc w3 (bl_trans BB.out hb); obtain rfl : r' = r := hr'.trans HRR.out; have b0 := G.out.2.1.c0; have b1 := G.out.2.1.c1; have b2 := G.out.2.1.c2; have b3 := G.out.2.1.c3; have g0 := G.out.2.1.f 0; have g1 := G.out.2.1.f 1; have g2 := G.out.2.1.f 2; have g3 := G.out.2.1.f 3; clear hb hr'))
  have R1 := hidden (G.out.2.1.put r')
  have R2 := hidden (put4_bel (b := N + 1) r' G.out.2.2.2 (by rw [HN.out]; omega))
  unfold put4 at R1 R2
  have c0 := R1.out.c0; have c1 := R1.out.c1; have c2 := R1.out.c2; have c3 := R1.out.c3
  refine bodyPost_ret (v := .tuple #[.agg #[.int .u64 r'.x0, .int .u64 r'.x1, .int .u64 r'.x2, .int .u64 r'.x3], .int .i64 0]) (by simp only [results, Tryz.results138]; simp [go_sem, c0, c1, c2, c3]) rfl ⟨rfl, R2.out⟩
open Go.RowKit
def DrawR (w : World) (base s : Nat) (vH : Value) (es : List (En × Em)) (l : List UInt8) (z : E4) (er : Int) (m' : Nat) (g' : Nat → E4) (e : Ending) (w' : World) : Prop := ∃ (vn : Value) (x : Em) (PL : Option Addr) (d : Nat), e = .returned (.tuple #[z.v, .int .i64 er]) ∧ B3 w' s 85 (.slice PL m' d) vn (.bool true) ∧ m' ≤ d ∧ Lf w' s PL m' g' ∧ Hr w' base vn (es ++ [(⟨true, l, []⟩, x)]) ∧ (vn.ownBlock = vH.ownBlock ∨ ∃ g, vn.ownBlock = some g ∧ w.heap.size ≤ g) ∧ Bt (fun k => k = s ∨ vH.ownBlock = some k) w w'
theorem Pt.empty (w : World) (P : Option Addr) (q : Nat → Option Addr) (c : Nat → Nat) : Pt w P [] q c := ⟨fun h => absurd h (by simp), fun i hi => absurd hi (by simp)⟩
theorem PtIn.empty (B : Nat → Prop) (P : Option Addr) (q : Nat → Option Addr) : PtIn B P [] q := ⟨fun h => absurd h (by simp), fun i hi => absurd hi (by simp)⟩
theorem hr_put {w : World} {base : Nat} {vH : Value} {es : List (En × Em)} (h : Hr w base vH es) {b : Nat} (z : E4) (h1 : vH.ownBlock ≠ some b) (h2 : ∀ x ∈ es, PtIn (fun k => k ≠ b) x.2.P x.1.ps x.2.q) : Hr (put4 w b z) base vH es :=
 h.keep (by rw [put4_size]; exact Nat.le_refl _) (fun k hk => put4_ne w b k z (fun e => h1 (e ▸ hk))) h2 (fun k hk _ _ => put4_ne w b k z hk)
theorem bt_put {S : Nat → Prop} {w w1 : World} {b : Nat} (h : Bt S w w1) (z : E4) (hb : w.heap.size ≤ b) : Bt S w (put4 w1 b z) :=
 ⟨h.os, h.tape, h.output, by rw [put4_size]; exact h.size, fun k hk hs => (put4_ne w1 b k z (by omega)).trans (h.block k hk hs)⟩
theorem tb_keep {S : Nat → Prop} {w w' : World} (h : Go.Proofs.YtbbnjmjeeiglcaaGreatDoor.Tb w) (hb : Bt S w w') (hS : ¬ S 0) : Go.Proofs.YtbbnjmjeeiglcaaGreatDoor.Tb w' := by
 have k : ∀ (j : Nat) (v : Value), w.cell? ⟨0, j, none⟩ = some v → w'.cell? ⟨0, j, none⟩ = some v := fun j v h => (World.cell?_of_block (a := ⟨0, j, none⟩) (hb.block 0 (World.block_lt_of_cell? w ⟨0, j, none⟩ h) hS)).trans h
 obtain ⟨h0, h1, h2, h3, h4, h5, h6, h7, h8, h9, h10, h11⟩ := h
 exact ⟨k _ _ h0, k _ _ h1, k _ _ h2, k _ _ h3, k _ _ h4, k _ _ h5, k _ _ h6, k _ _ h7, k _ _ h8, k _ _ h9, k _ _ h10, k _ _ h11⟩
theorem draw_any (s base : Nat) (PL : Option Addr) (m d : Nat) (g : Nat → E4) (vH : Value) (es : List (En × Em)) (l : List UInt8) (w : World) (hT : Go.Proofs.YtbbnjmjeeiglcaaGreatDoor.Tb w) (hok : ∀ k, k < m → (g k).ok) (hX : B3 w s 85 (.slice PL m d) vH (.bool true)) (hd : m ≤ d) (hL : Lf w s PL m g) (hsb : s < base) (hbs : base ≤ w.heap.size) (hH : Hr w base vH es) (hn : es.length ≤ 2513169434879) (ht0 : 0 < s) :
  Calls Tryz.prog 135 #[.pointer (some ⟨s, 0, none⟩), .string (sb l)] w fun e w' => DrawR w base s vH es l (if m = 0 then ⟨0, 0, 0, 0⟩ else lst (g 0).n) (if m = 0 then 5 else if (g 0).n % Sm.L = 0 then 4 else 0) (m - 1) (fun k => g (k + 1)) e w' := by
 have HT := hidden hT
 have HOK := hidden hok
 have HD := hidden hd
 have HSB := hidden hsb
 have HBS := hidden hbs
 have HNL := hidden hn
 have C0 := hidden (none_any s (.slice PL m d) vH (w.alloc (.cells #[.int .u64 0, .int .u64 0, .int .u64 0, .int .u64 0] 26)) (hX.keep (bl_alloc w _) hX.lt))
 obtain ⟨i0, hi, hz0, hz1, hz2⟩ := info_parts info50
 have HI := hidden hi
 have HZ0 := hidden hz0
 have HZ1 := hidden hz1
 have HZ2 := hidden hz2
 have HU : Hid (Tryz.prog.underlying 83 = some (.slice 223)) := hidden (by kernel_rfl)
 have HX := hidden (hX.keep (bl_alloc w (.cells #[.int .u64 0, .int .u64 0, .int .u64 0, .int .u64 0] 26)) hX.lt)
 have HL := hidden (hL.keep (w' := w.alloc (.cells #[.int .u64 0, .int .u64 0, .int .u64 0, .int .u64 0] 26)) (fun k hk => heap_alloc_old w _ (by have := hX.lt; omega)))
 have HH := hidden (hH.stay (bl_alloc w (.cells #[.int .u64 0, .int .u64 0, .int .u64 0, .int .u64 0] 26)))
 have X4 : Hid (B4 (w.alloc (.cells #[.int .u64 0, .int .u64 0, .int .u64 0, .int .u64 0] 26)) w.heap.size 26 ⟨0, 0, 0, 0⟩) := hidden (heap_alloc_new w _)
 have HB := hidden (bl_alloc w (.cells #[.int .u64 0, .int .u64 0, .int .u64 0, .int .u64 0] 26))
 have HXW := hidden hX.lt
 have HVB := hidden (fun k hk => (hH.list.lt k hk).2)
 have HFE := hidden (fun x hx => (hH.far x hx).mono (B' := fun k => k ≠ w.heap.size) (fun k hk => by have := hk.2.1; omega))
 have HVL := hidden (fun k hk => (hH.list.lt k hk).1)
 clear hT hok hX hd hL hsb hbs hH hn hi hz0 hz1 hz2
 obtain ⟨zz, hzz⟩ : ∃ zz : E4, zz = if m = 0 then ⟨0, 0, 0, 0⟩ else lst (g 0).n := ⟨_, rfl⟩
 obtain ⟨ee, hee⟩ : ∃ ee : Int, ee = if m = 0 then 5 else if (g 0).n % Sm.L = 0 then 4 else 0 := ⟨_, rfl⟩
 rw [← hzz, ← hee]
 have HZZ := hidden hzz
 have HEE := hidden hee
 clear hzz hee
 go_enter Tryz.func135, Tryz.ntmps135
 go_upto_region 1 with fail
 obtain ⟨N, hN⟩ : ∃ N, w.heap.size = N := ⟨_, rfl⟩
 have HN := hidden hN
 rw [hN] at X4 HBS HXW HVB HFE
 rw [hN]
 clear hN
 generalize w.alloc (.cells #[.int .u64 0, .int .u64 0, .int .u64 0, .int .u64 0] 26) = w1 at C0 HX HL HH X4 HB ⊢
 go_upto_region 3 with (first | (go_at_call 136; refine C0.out.mono ?_; rintro e w2 ⟨rfl, hb⟩; have L2 := hidden (HL.out.keep (w' := w2) (fun k hk => hb.block k (by have := HX.out.lt; omega))); have X2 := hidden (HX.out.keep hb HX.out.lt); have H2 := hidden (HH.out.stay hb); have Y2 := hidden (X4.out.keep hb X4.out.lt); have B2 := hidden (bl_trans HB.out hb); clear hb))
 clear C0 HX HL HH X4 HB
 have y0 := X2.out.c1
 go_upto_region 4 with (first | (at_builtin; refine wpList_append_own_at _ rfl _ _ 83 rfl base 223 i0 (.agg #[.bool false, .string .empty, .slice none 0 0]) 3 48 HU.out HI.out HZ0.out HZ1.out HZ2.out rfl (by decide) vH es.length (sdc es) rfl (H2.out.list.alloc _) ⟨w2.heap.size, 0, none⟩ 1 1 [.bool true, .string (sb l), .slice none 0 0] rfl rfl (cells_new w2 _ _) (by simp [Value.oneCell']) (by have := HNL.out; unfold maxLen; omega) (by have := HNL.out; omega) (by have := HBS.out; have := B2.out.size; rw [HN.out] at this; simp; omega) ?_; intro v6 w6 how6 hgr6 hnil6 hat6; obtain ⟨g6, c6, rfl, hc6⟩ := own_some4 how6 (by omega); have nS : some s ≠ vH.ownBlock := (fun e => by have := (H2.out.list.lt s e.symm).1; have := HSB.out; omega); have nN : some N ≠ vH.ownBlock := (fun e => by have := HVB.out N e.symm; omega); have X6 := hidden (X2.out.blk (grown_blk hgr6 X2.out.lt nS)); have z0 := X6.out.c1; have z1 := X6.out.f 1))
 have H6 := hidden (H2.out.add (x := (⟨true, l, []⟩, ⟨none, 0, fun _ => none, fun _ => 0⟩)) (by have := HBS.out; have := B2.out.size; rw [HN.out] at this; omega) (Below.refl _ _) (Pt.empty _ _ _ _) (PtIn.empty _ _ _) hgr6 how6 hat6)
 have H7 := hidden (H6.out.set HSB.out 1 (.slice (some ⟨g6, 0, none⟩) (es.length + 1) c6))
 have X7 := hidden (X6.out.set1 (.slice (some ⟨g6, 0, none⟩) (es.length + 1) c6))
 have KB : ∀ k, k < w2.heap.size → some k ≠ vH.ownBlock → k ≠ s → (w6.setCell ⟨s, 1, none⟩ (.slice (some ⟨g6, 0, none⟩) (es.length + 1) c6)).heap[k]? = w2.heap[k]? := fun k h1 h2 h3 => (set_ne w6 s 1 k _ h3).trans (grown_blk hgr6 h1 h2)
 have L7 := hidden (L2.out.keep (w' := w6.setCell ⟨s, 1, none⟩ (.slice (some ⟨g6, 0, none⟩) (es.length + 1) c6)) (fun k hk => KB k (by have := X2.out.lt; omega) (fun e => by have := (H2.out.list.lt k e.symm).1; have := HSB.out; omega) (by omega)))
 have Y7 := hidden (Y2.out.blk (KB N Y2.out.lt nN (by have := HXW.out; omega)))
 have T7 := hidden ((((Bt.of (S := fun k => k = s ∨ vH.ownBlock = some k) B2.out).trans (Bt.of (bl_alloc w2 _))).grownS hgr6 (fun k hk => Or.inl (Or.inr hk))).trans (Bt.set (Or.inl rfl) 1 (.slice (some ⟨g6, 0, none⟩) (es.length + 1) c6)))
 have O7 : Hid ((Value.slice (some ⟨g6, 0, none⟩) (es.length + 1) c6).ownBlock = vH.ownBlock ∨ ∃ g, (Value.slice (some ⟨g6, 0, none⟩) (es.length + 1) c6).ownBlock = some g ∧ w.heap.size ≤ g) := hidden (by
  rcases hat6 with h | h
  ·exact Or.inl h
  ·exact Or.inr ⟨_, h, by have := B2.out.size; simp; omega⟩)
 have TB7 : Hid (∀ w', Bt (fun k => k = s ∨ vH.ownBlock = some k) w w' → Go.Proofs.YtbbnjmjeeiglcaaGreatDoor.Tb w') := hidden (fun w' hb => tb_keep HT.out hb (fun e => by rcases e with e | e; (have := ht0; omega); (have := (HVL.out 0 e); have := HSB.out; omega)))
 have VN : Hid ((Value.slice (some ⟨g6, 0, none⟩) (es.length + 1) c6).ownBlock ≠ some N) := hidden (fun e => by
  rcases hat6 with h | h
  ·exact nN (h.symm.trans e).symm
  ·have h3 := Option.some.inj (h.symm.trans e)
   have h4 := Y2.out.lt
   simp at h3
   omega)
 have FE : Hid (∀ x ∈ es ++ [((⟨true, l, []⟩, ⟨none, 0, fun _ => none, fun _ => 0⟩) : En × Em)], PtIn (fun k => k ≠ N) x.2.P x.1.ps x.2.q) := hidden (fun x hx => by
  rcases List.mem_append.1 hx with hx | hx
  ·exact HFE.out x hx
  ·simp only [List.mem_singleton] at hx
   subst hx
   exact PtIn.empty _ _ _)
 clear KB how6 hgr6 hnil6 hat6 nS nN z0 z1 y0 H6 X6 H2 X2 L2 Y2 B2
 obtain ⟨v7, hv7⟩ : ∃ v7, v7 = Value.slice (some ⟨g6, 0, none⟩) (es.length + 1) c6 := ⟨_, rfl⟩
 rw [← hv7] at H7 X7 L7 Y7 T7 O7 VN ⊢
 clear hv7
 generalize w6.setCell ⟨s, 1, none⟩ v7 = w7 at H7 X7 L7 Y7 T7 ⊢
 have y0 := X7.out.c0
 by_cases hm : m = 0
 ·subst hm
  have b0 := Y7.out.c0; have b1 := Y7.out.c1; have b2 := Y7.out.c2; have b3 := Y7.out.c3
  have g0 := Y7.out.f 0; have g1 := Y7.out.f 1; have g2 := Y7.out.f 2; have g3 := Y7.out.f 3
  have R1 := hidden (Y7.out.put ⟨0, 0, 0, 0⟩)
  have RX := hidden (X7.out.blk (put4_ne w7 N s ⟨0, 0, 0, 0⟩ (by have := HXW.out; omega)))
  have RH := hidden (hr_put H7.out (b := N) ⟨0, 0, 0, 0⟩ VN.out FE.out)
  have RT := hidden (bt_put T7.out (b := N) ⟨0, 0, 0, 0⟩ (by rw [HN.out]; exact Nat.le_refl _))
  unfold put4 at R1 RX RH RT
  go_wp2_with fail
  have c0 := R1.out.c0; have c1 := R1.out.c1; have c2 := R1.out.c2; have c3 := R1.out.c3
  refine bodyPost_ret (v := .tuple #[.agg #[.int .u64 0, .int .u64 0, .int .u64 0, .int .u64 0], .int .i64 5]) (by simp only [results, Tryz.results135]; simp [go_sem, c0, c1, c2, c3]) rfl ⟨_, _, PL, d, by rw [HZZ.out, HEE.out]; simp [E4.v], RX.out, HD.out, ⟨0, 0, fun h => absurd h (by omega), fun h => absurd h (by omega)⟩, RH.out, O7.out, RT.out⟩
 ·obtain ⟨gL, o, hL1, hL2⟩ := L7.out
  obtain ⟨rfl, hgs⟩ := hL1 (by omega)
  have hr := hL2 (by omega)
  have HRL := hidden hr
  have x0 := hr.c0 0 (by omega); have x1 := hr.c1 0 (by omega); have x2 := hr.c2 0 (by omega); have x3 := hr.c3 0 (by omega)
  simp only [Nat.zero_mul, Nat.add_zero] at x0 x1 x2 x3
  have m0 : ¬ (m : Int) = 0 := by omega
  have m1 : (0 : Int) < (m : Int) := by omega
  have m2 : (1 : Int) ≤ (m : Int) := by omega
  have m3 : (m : Int) ≤ (d : Int) := by have := HD.out; omega
  have CH := hidden (fun w T => challenge_any (g 0) w T (HOK.out 0 (by omega)))
  simp only [E4.v] at CH
  clear hL1 hL2 hr
  go_upto_region 7 with fail
  have X8 := hidden (X7.out.keep (bl_alloc w7 (.cells #[.int .u64 (g 0).x0, .int .u64 (g 0).x1, .int .u64 (g 0).x2, .int .u64 (g 0).x3] 26)) X7.out.lt)
  have Y8 := hidden (Y7.out.keep (bl_alloc w7 (.cells #[.int .u64 (g 0).x0, .int .u64 (g 0).x1, .int .u64 (g 0).x2, .int .u64 (g 0).x3] 26)) Y7.out.lt)
  have H8 := hidden (H7.out.stay (bl_alloc w7 (.cells #[.int .u64 (g 0).x0, .int .u64 (g 0).x1, .int .u64 (g 0).x2, .int .u64 (g 0).x3] 26)))
  have R8 := hidden (HRL.out.keep (bl_alloc w7 (.cells #[.int .u64 (g 0).x0, .int .u64 (g 0).x1, .int .u64 (g 0).x2, .int .u64 (g 0).x3] 26)))
  have T8 := hidden (T7.out.trans (Bt.of (bl_alloc w7 (.cells #[.int .u64 (g 0).x0, .int .u64 (g 0).x1, .int .u64 (g 0).x2, .int .u64 (g 0).x3] 26))))
  have Z8 : Hid (B4 (w7.alloc (.cells #[.int .u64 (g 0).x0, .int .u64 (g 0).x1, .int .u64 (g 0).x2, .int .u64 (g 0).x3] 26)) w7.heap.size 26 (g 0)) := hidden (heap_alloc_new w7 _)
  have HM8 : Hid (s < w7.heap.size ∧ N < w7.heap.size) := hidden ⟨X7.out.lt, Y7.out.lt⟩
  generalize w7.alloc (.cells #[.int .u64 (g 0).x0, .int .u64 (g 0).x1, .int .u64 (g 0).x2, .int .u64 (g 0).x3] 26) = w8 at X8 Y8 H8 R8 T8 Z8 ⊢
  obtain ⟨M, hM⟩ : ∃ M, w7.heap.size = M := ⟨_, rfl⟩
  rw [hM] at Z8 HM8
  rw [hM]
  clear hM X7 Y7 H7 HRL T7 x0 x1 x2 x3 y0
  have y0 := X8.out.c0
  have f0 := X8.out.f 0
  have TAIL : Hid (∀ (PL' : Option Addr) (d' : Nat), m - 1 ≤ d' → (0 < m - 1 → PL' = some ⟨gL, o + 4, none⟩) → ∀ w9, w9 = w8.setCell ⟨s, 0, none⟩ (.slice PL' (m - 1) d') → B3 w9 s 85 (.slice PL' (m - 1) d') v7 (.bool true) ∧ B4 w9 N 26 ⟨0, 0, 0, 0⟩ ∧ B4 w9 M 26 (g 0) ∧ Hr w9 base v7 (es ++ [((⟨true, l, []⟩, ⟨none, 0, fun _ => none, fun _ => 0⟩) : En × Em)]) ∧ Lf w9 s PL' (m - 1) (fun k => g (k + 1)) ∧ Bt (fun k => k = s ∨ vH.ownBlock = some k) w w9) := hidden (fun PL' d' hd' hP w9 hw9 => by
   subst hw9
   have hn : ∀ k, k ≠ s → (w8.setCell ⟨s, 0, none⟩ (.slice PL' (m - 1) d')).heap[k]? = w8.heap[k]? := fun k hk => set_ne w8 s 0 k _ hk
   refine ⟨X8.out.set0 _, Y8.out.blk (hn N (by have := HXW.out; omega)), Z8.out.blk (hn M (by have := HM8.out.1; omega)), H8.out.set HSB.out 0 _, ⟨gL, o + 4, fun h => ⟨hP h, hgs⟩, fun h => ?_⟩, T8.out.trans (Bt.set (Or.inl rfl) 0 _)⟩
   have e := hn gL (by omega)
   have R := R8.out
   refine ⟨fun k hk => ?_, fun k hk => ?_, fun k hk => ?_, fun k hk => ?_⟩
   ·have := (World.cell?_of_block (a := ⟨gL, o + (k + 1) * 4, none⟩) e).trans (R.c0 (k + 1) (by omega))
    rw [show o + 4 + k * 4 = o + (k + 1) * 4 by omega]; exact this
   ·have := (World.cell?_of_block (a := ⟨gL, o + (k + 1) * 4 + 1, none⟩) e).trans (R.c1 (k + 1) (by omega))
    rw [show o + 4 + k * 4 = o + (k + 1) * 4 by omega]; exact this
   ·have := (World.cell?_of_block (a := ⟨gL, o + (k + 1) * 4 + 2, none⟩) e).trans (R.c2 (k + 1) (by omega))
    rw [show o + 4 + k * 4 = o + (k + 1) * 4 by omega]; exact this
   ·have := (World.cell?_of_block (a := ⟨gL, o + (k + 1) * 4 + 3, none⟩) e).trans (R.c3 (k + 1) (by omega))
    rw [show o + 4 + k * 4 = o + (k + 1) * 4 by omega]; exact this)
  by_cases hd1 : d = 1
  ·subst hd1
   obtain rfl : m = 1 := by have := HD.out; omega
   go_upto_region 8 with fail
   obtain ⟨x9, y9, z9, h9, l9, t9⟩ := TAIL.out (some ⟨gL, o, none⟩) 0 (Nat.le_refl _) (fun h => absurd h (by omega)) _ rfl
   have X9 := hidden x9
   have Y9 := hidden y9
   have Z9 := hidden z9
   have H9 := hidden h9
   have L9 := hidden l9
   have T9 := hidden t9
   clear x9 y9 z9 h9 l9 t9 TAIL y0 f0 X8 Y8 Z8 H8 R8 T8
   generalize w8.setCell ⟨s, 0, none⟩ (.slice (some ⟨gL, o, none⟩) 0 0) = w9 at X9 Y9 Z9 H9 L9 T9 ⊢
   have TB := hidden (TB7.out _ T9.out)
   have x0 := Z9.out.c0; have x1 := Z9.out.c1; have x2 := Z9.out.c2; have x3 := Z9.out.c3
   have HZ2' : Hid (zz = lst (g 0).n) := hidden (by rw [HZZ.out, if_neg (by omega)])
   have HE2 : Hid (ee = if (g 0).n % Sm.L = 0 then 4 else 0) := hidden (by rw [HEE.out, if_neg (by omega)])
   rw [← HZ2'.out, ← HE2.out] at CH
   go_wp2_with (first | (go_at_call 138; refine (CH.out _ TB.out).mono ?_; rintro e wa ⟨rfl, hb⟩; have XA := hidden (X9.out.keep hb X9.out.lt); have YA := hidden (Y9.out.keep hb Y9.out.lt); have HA := hidden (H9.out.stay hb); have LA := hidden (L9.out.keep (w' := wa) (fun k hk => hb.block k (by have := X9.out.lt; omega))); have TA := hidden (T9.out.trans (Bt.of hb)); have b0 := YA.out.c0; have b1 := YA.out.c1; have b2 := YA.out.c2; have b3 := YA.out.c3; have g0 := YA.out.f 0; have g1 := YA.out.f 1; have g2 := YA.out.f 2; have g3 := YA.out.f 3; clear hb))
   have R1 := hidden (YA.out.put zz)
   have RX := hidden (XA.out.blk (put4_ne wa N s zz (by have := HXW.out; omega)))
   have RH := hidden (hr_put HA.out (b := N) zz VN.out FE.out)
   have RL := hidden (LA.out.keep (w' := put4 wa N zz) (fun k hk => put4_ne wa N k zz (by have := HXW.out; omega)))
   have RT := hidden (bt_put TA.out (b := N) zz (by rw [HN.out]; exact Nat.le_refl _))
   unfold put4 at R1 RX RH RT RL
   have c0 := R1.out.c0; have c1 := R1.out.c1; have c2 := R1.out.c2; have c3 := R1.out.c3
   refine bodyPost_ret (v := .tuple #[.agg #[.int .u64 zz.x0, .int .u64 zz.x1, .int .u64 zz.x2, .int .u64 zz.x3], .int .i64 ee]) (by simp only [results, Tryz.results135]; simp [go_sem, c0, c1, c2, c3]) rfl ⟨_, _, _, _, rfl, RX.out, by omega, RL.out, RH.out, O7.out, RT.out⟩
  ·go_upto_region 8 with fail
   have HD1 : Hid (m - 1 ≤ d - 1) := hidden (by have := HD.out; omega)
   obtain ⟨x9, y9, z9, h9, l9, t9⟩ := TAIL.out (some ⟨gL, o + 4, none⟩) (d - 1) HD1.out (fun _ => rfl) _ rfl
   have X9 := hidden x9
   have Y9 := hidden y9
   have Z9 := hidden z9
   have H9 := hidden h9
   have L9 := hidden l9
   have T9 := hidden t9
   clear x9 y9 z9 h9 l9 t9 TAIL y0 f0 X8 Y8 Z8 H8 R8 T8
   generalize w8.setCell ⟨s, 0, none⟩ (.slice (some ⟨gL, o + 4, none⟩) (m - 1) (d - 1)) = w9 at X9 Y9 Z9 H9 L9 T9 ⊢
   have TB := hidden (TB7.out _ T9.out)
   have x0 := Z9.out.c0; have x1 := Z9.out.c1; have x2 := Z9.out.c2; have x3 := Z9.out.c3
   have HZ2' : Hid (zz = lst (g 0).n) := hidden (by rw [HZZ.out, if_neg (by omega)])
   have HE2 : Hid (ee = if (g 0).n % Sm.L = 0 then 4 else 0) := hidden (by rw [HEE.out, if_neg (by omega)])
   rw [← HZ2'.out, ← HE2.out] at CH
   go_wp2_with (first | (go_at_call 138; refine (CH.out _ TB.out).mono ?_; rintro e wa ⟨rfl, hb⟩; have XA := hidden (X9.out.keep hb X9.out.lt); have YA := hidden (Y9.out.keep hb Y9.out.lt); have HA := hidden (H9.out.stay hb); have LA := hidden (L9.out.keep (w' := wa) (fun k hk => hb.block k (by have := X9.out.lt; omega))); have TA := hidden (T9.out.trans (Bt.of hb)); have b0 := YA.out.c0; have b1 := YA.out.c1; have b2 := YA.out.c2; have b3 := YA.out.c3; have g0 := YA.out.f 0; have g1 := YA.out.f 1; have g2 := YA.out.f 2; have g3 := YA.out.f 3; clear hb))
   have R1 := hidden (YA.out.put zz)
   have RX := hidden (XA.out.blk (put4_ne wa N s zz (by have := HXW.out; omega)))
   have RH := hidden (hr_put HA.out (b := N) zz VN.out FE.out)
   have RL := hidden (LA.out.keep (w' := put4 wa N zz) (fun k hk => put4_ne wa N k zz (by have := HXW.out; omega)))
   have RT := hidden (bt_put TA.out (b := N) zz (by rw [HN.out]; exact Nat.le_refl _))
   unfold put4 at R1 RX RH RT RL
   have c0 := R1.out.c0; have c1 := R1.out.c1; have c2 := R1.out.c2; have c3 := R1.out.c3
   refine bodyPost_ret (v := .tuple #[.agg #[.int .u64 zz.x0, .int .u64 zz.x1, .int .u64 zz.x2, .int .u64 zz.x3], .int .i64 ee]) (by simp only [results, Tryz.results135]; simp [go_sem, c0, c1, c2, c3]) rfl ⟨_, _, _, _, rfl, RX.out, HD1.out, RL.out, RH.out, O7.out, RT.out⟩
end Go.Proofs.YtbbnjmjeeiglcaaGreatDoor.Tr
namespace Go.Proofs.YtbbnjmjeeiglcaaGreatDoor
namespace Sg
open Go.RowKit
theorem bytes_bd (m : Int) : ∀ z ∈ bytes m, 0 ≤ z ∧ z ≤ 255 := by
 intro z hz
 obtain ⟨j, _, rfl⟩ := List.mem_map.1 hz
 exact byt_bd m j
theorem by_len (m : Int) : ((bytes m).map fun z => Value.int .u8 z).length = 32 := by simp [bytes]
theorem b_und : Tryz.prog.underlying 127 = some (.array 32 5) := by kernel_rfl
theorem b_i (m : Int) : (Tryz.prog.info? 127).map (·.size) = some ((bytes m).map fun z => Value.int .u8 z).length := by rw [by_len]; kernel_rfl
theorem b_i2 (m : Int) : (Tryz.prog.info? 127).map (·.size) = some ((bytes m).map fun z => Value.int .u8 z).toArray.size := by rw [List.size_toArray, by_len]; kernel_rfl
theorem b_one (m : Int) : ((bytes m).map fun z => Value.int .u8 z).toArray.all (·.oneCell') = true := all_oneCell_toArray (fun v hv => by obtain ⟨z, _, rfl⟩ := List.mem_map.1 hv; rfl)
theorem lEncode_any (a : E4) (ha : a.ok) (w : World) (hT : Tb w) :
  Calls Tryz.prog 130 #[a.v] w fun e w' => e = .returned (.agg ((bytes (a.n % Sm.L)).map fun z => Value.int .u8 z).toArray) ∧ Below w.heap.size w w' := by
 have HT := hidden hT
 have RA := hidden (fun w T => Encode_any a w T ha)
 have D1 := b_i (a.n % Sm.L)
 have D2 := b_one (a.n % Sm.L)
 have D3 := by_len (a.n % Sm.L)
 generalize ((bytes (a.n % Sm.L)).map fun z => Value.int .u8 z) = ds at *
 unfold E4.v at RA ⊢
 have M0 := ((Mw.start w).new [.int .u64 a.x0, .int .u64 a.x1, .int .u64 a.x2, .int .u64 a.x3] 39).new [.int .u8 0, .int .u8 0, .int .u8 0, .int .u8 0, .int .u8 0, .int .u8 0, .int .u8 0, .int .u8 0, .int .u8 0, .int .u8 0, .int .u8 0, .int .u8 0, .int .u8 0, .int .u8 0, .int .u8 0, .int .u8 0, .int .u8 0, .int .u8 0, .int .u8 0, .int .u8 0, .int .u8 0, .int .u8 0, .int .u8 0, .int .u8 0, .int .u8 0, .int .u8 0, .int .u8 0, .int .u8 0, .int .u8 0, .int .u8 0, .int .u8 0, .int .u8 0] 127
 simp only [World.size_alloc] at M0
 have MM := hidden M0
 have I1 := hidden (D1)
 have O2 := hidden (D2)
 clear M0
 go_enter Tryz.func130, Tryz.ntmps130
 go_wp2_with (first | (go_at_call 125; refine (RA.out _ (HT.out.keep MM.out.bel)).mono ?_; rintro e wa ⟨rfl, ha⟩; replace MM := hidden (MM.out.keep ha); clear ha; have TH := hidden (MM.out.ther ds (c := w.heap.size + 1) (o := [.int .u8 0, .int .u8 0, .int .u8 0, .int .u8 0, .int .u8 0, .int .u8 0, .int .u8 0, .int .u8 0, .int .u8 0, .int .u8 0, .int .u8 0, .int .u8 0, .int .u8 0, .int .u8 0, .int .u8 0, .int .u8 0, .int .u8 0, .int .u8 0, .int .u8 0, .int .u8 0, .int .u8 0, .int .u8 0, .int .u8 0, .int .u8 0, .int .u8 0, .int .u8 0, .int .u8 0, .int .u8 0, .int .u8 0, .int .u8 0, .int .u8 0, .int .u8 0]) (by simp) D3); have M1 := MM.out.set (M := []) ds (c := w.heap.size + 1) (o := [.int .u8 0, .int .u8 0, .int .u8 0, .int .u8 0, .int .u8 0, .int .u8 0, .int .u8 0, .int .u8 0, .int .u8 0, .int .u8 0, .int .u8 0, .int .u8 0, .int .u8 0, .int .u8 0, .int .u8 0, .int .u8 0, .int .u8 0, .int .u8 0, .int .u8 0, .int .u8 0, .int .u8 0, .int .u8 0, .int .u8 0, .int .u8 0, .int .u8 0, .int .u8 0, .int .u8 0, .int .u8 0, .int .u8 0, .int .u8 0, .int .u8 0, .int .u8 0]) (by simp) D3 (fun p hp => by cases hp); have LD := hidden (M1.var (c := w.heap.size + 1) (ds := ds) (by simp) b_und rfl I1.out); have BL := hidden M1.bel; clear M1) | refine wpList_store_mid rfl 127 _ _ rfl (w.heap.size + 1) 0 ds.toArray (by rfl) (by rfl) TH.out (by simpa using I1.out) O2.out ?_)
 refine bodyPost_ret (v := .agg ds.toArray) (results_cellM Tryz.results130 _ _ _ _ _ (by rfl) LD.out) rfl ⟨rfl, BL.out⟩
def eb (n : Int) : List UInt8 := (bytes (n % Sm.L)).map fun z => UInt8.ofNat z.toNat
theorem eb_len (n : Int) : (eb n).length = 32 := by simp [eb, bytes_len]
theorem eb_cb (n : Int) : Tr.cb (eb n) = (bytes (n % Sm.L)).map fun z => Value.int .u8 z := by
 unfold Tr.cb eb
 rw [List.map_map]
 refine List.map_congr_left fun z hz => ?_
 obtain ⟨h0, h1⟩ := bytes_bd _ z hz
 simp only [Function.comp]
 rw [UInt8.toNat_ofNat', show z.toNat % 2 ^ 8 = z.toNat by omega, Int.toNat_of_nonneg h0]
theorem by_range {w : World} {b c : Nat} {l : List UInt8} (h : w.rangeAt b 0 (Tr.cb l)) : Tr.By w (some ⟨b, 0, none⟩) c l :=
 ⟨fun h => (by cases h), fun a ha j u hu => by
  obtain rfl := Option.some.inj ha
  rw [Addr.add_mid]
  exact h j u hu⟩
theorem mt_EncodeL (a : E4) (w : World) : (method 362 39 (.agg #[.int .u64 a.x0, .int .u64 a.x1, .int .u64 a.x2, .int .u64 a.x3]) "Encode").run Tryz.prog w = .ok (130, .agg #[.int .u64 a.x0, .int .u64 a.x1, .int .u64 a.x2, .int .u64 a.x3]) w := by kernel_rfl
def Ec (w : World) (n i : Nat) (g : Nat → E4) (q : Nat → Nat) (x : World) : Prop := Below w.heap.size w x ∧ x.there w.heap.size 0 n ∧ w.heap.size < x.heap.size ∧ ∀ j, j < i → x.cell? ⟨w.heap.size, j, none⟩ = some (.slice (some ⟨q j, 0, none⟩) 32 32) ∧ x.rangeAt (q j) 0 (Tr.cb (eb (g j).n)) ∧ w.heap.size < q j
theorem Ec.next {w x V : World} {n i N : Nat} {g : Nat → E4} {q : Nat → Nat} (h : Ec w n i g q x) (hb : Below x.heap.size x V) (hN : x.heap.size ≤ N) (hr : V.rangeAt N 0 (Tr.cb (eb (g i).n))) (hi : i < n) : Ec w n (i + 1) g (fun j => if j = i then N else q j) (V.setCell ⟨w.heap.size, i, none⟩ (.slice (some ⟨N, 0, none⟩) 32 32)) := by
 obtain ⟨h1, h2, h3, h4⟩ := h
 have hz := hb.size
 have OT : ∀ {p : Addr} {v : Value}, V.cell? p = some v → p ≠ ⟨w.heap.size, i, none⟩ → (V.setCell ⟨w.heap.size, i, none⟩ (.slice (some ⟨N, 0, none⟩) 32 32)).cell? p = some v := fun hv hp => (World.cell?_setCell_other _ _ _ _ (fun e => hp e.symm)).trans hv
 have RT : ∀ {b : Nat} {l : List Value}, w.heap.size < b → V.rangeAt b 0 l → (V.setCell ⟨w.heap.size, i, none⟩ (.slice (some ⟨N, 0, none⟩) 32 32)).rangeAt b 0 l := fun hb hl j u hu => OT (hl j u hu) (fun e => by have := congrArg Addr.block e; simp at this; omega)
 have t : (V.setCells w.heap.size i [.slice (some ⟨N, 0, none⟩) 32 32]).there w.heap.size 0 n := there_set (Li.there_bl h2 hb) w.heap.size i _
 refine ⟨below_trans (bl_trans h1 (below_less hb (Nat.le_refl _))) (below_grown (gb_setCells w.heap.size [.slice (some ⟨N, 0, none⟩) 32 32] i V) (by omega) (fun k hk => by have := Option.some.inj hk; omega)), t, by rw [World.size_setCell]; omega, fun j hj => ?_⟩
 by_cases e : j = i
 ·subst e
  refine ⟨?_, ?_, ?_⟩
  ·simp only [if_pos]
   obtain ⟨y, hy⟩ := Option.isSome_iff_exists.1 ((Li.there_bl h2 hb) j hi).1
   rw [Nat.zero_add] at hy
   exact World.cell?_setCell_same _ _ _ (by first | exact hy | (rw [hy]; rfl) | simp [hy])
  ·simp only [if_pos]; exact RT (by omega) hr
  ·simp only [if_pos]; omega
 ·obtain ⟨a1, a2, a3⟩ := h4 j (by omega)
  simp only [if_neg e]
  exact ⟨OT (cell_keep a1 hb) (fun e2 => e (by have := congrArg Addr.off e2; simpa using this)), RT a3 (range_bl a2 hb), a3⟩
theorem encR (lb n lc : Nat) (g : Nat → E4) (w : World) (hT : Tb w) (hn : n ≤ 64) (hok : ∀ k, k < n → (g k).ok) (hr : Rl w lb 0 n g) :
  Calls Tryz.prog 49 #[.slice (some ⟨lb, 0, none⟩) n lc] w fun e w' => e = .returned (.slice (some ⟨w.heap.size, 0, none⟩) n n) ∧ ∃ q, Ec w n n g q w' := by
 have HT := hidden hT
 have HR := hidden hr
 have HK := hidden hok
 have HN := hidden hn
 have UB : Hid (Tryz.prog.underlying 127 = _) := hidden b_und
 obtain ⟨i0, hi, hz0, hz1, hz2⟩ := info_parts Tr.info55
 have hmk := run_make (P := Tryz.prog) w 110 123 i0 (.slice none 0 0) (by kernel_rfl) hi hz0 .i64 .i64 (n : Int) (n : Int) (by omega) (Int.le_refl _) (by rw [hz2]; omega) (by omega)
 simp only [Int.toNat_natCast, hz1, Value.cells, Nat.mul_one] at hmk
 clear hi hz0 hz1 hz2 hT hr hok
 have th : (w.alloc (.cells (madeCells #[.slice none 0 0] n) 123)).there w.heap.size 0 n := by
  have := there_newM w (madeCells #[.slice none 0 0] n).toList 123
  simpa [size_madeCells] using this
 have S0 : Hid (Ec w n 0 g (fun _ => 0) (w.alloc (.cells (madeCells #[.slice none 0 0] n) 123))) := hidden ⟨bl_alloc w _, th, by rw [World.size_alloc]; omega, fun j hj => absurd hj (by omega)⟩
 clear th
 go_enter Tryz.func49, Tryz.ntmps49
 go_upto_region 2 with fail
 generalize (w.alloc (.cells (madeCells #[.slice none 0 0] n) 123)) = w1 at *
 clear hmk
 go_wp2_with fail
 go_loopw [12] (fun iv w' => ∃ i : Nat, i ≤ n ∧ iv = .int .i64 i ∧ Hid (∃ q, Ec w n i g q w')) (fun i _ => n - (intOf i).toNat)
 case atStart => exact ⟨0, by omega, rfl, hidden ⟨_, S0.out⟩⟩
 case round =>
  obtain ⟨k, hk, rfl, hS⟩ := hrel
  by_cases hkn : k < n
  ·have k0 : (0 : Int) ≤ (k : Int) := by omega
   have k1 : (k : Int) < (n : Int) := by omega
   have w9 : IntKind.i64.wrap ((k : Int) + 1) = (k : Int) + 1 := IntWalk.i64_in _ (by have := HN.out; omega)
   obtain ⟨q, hq⟩ := hS.out
   have HQ := hidden hq
   have RR := HR.out.keep hq.1
   have x0 := RR.c0 k hkn; have x1 := RR.c1 k hkn; have x2 := RR.c2 k hkn; have x3 := RR.c3 k hkn
   simp only [Nat.zero_add] at x0 x1 x2 x3
   obtain ⟨a, ea⟩ : ∃ a, g k = a := ⟨_, rfl⟩
   rw [ea] at x0 x1 x2 x3
   have ha : a.ok := ea ▸ HK.out k hkn
   have RA : Hid (∀ x, Tb x → Calls Tryz.prog 130 #[.agg #[.int .u64 a.x0, .int .u64 a.x1, .int .u64 a.x2, .int .u64 a.x3]] x fun e w' => e = .returned (.agg (Tr.cb (eb a.n)).toArray) ∧ Below x.heap.size x w') := hidden (fun x T => by rw [eb_cb]; exact lEncode_any a ha x T)
   have m1 := mt_EncodeL a
   have TW := hidden (HT.out.keep hq.1)
   have D1 : Hid ((Tryz.prog.info? 127).map (·.size) = some (Tr.cb (eb a.n)).toArray.size) := hidden (by rw [eb_cb]; exact b_i2 _)
   have D2 : Hid ((Tr.cb (eb a.n)).toArray.all (·.oneCell') = true) := hidden (by rw [eb_cb]; exact b_one _)
   have D3 : Hid ((Tr.cb (eb a.n)).length = 32) := hidden (by rw [Tr.cb_len, eb_len])
   have EA : Hid (eb (g k).n = eb a.n) := hidden (by rw [ea])
   generalize eb a.n = l at RA D1 D2 D3 EA
   clear RR ha ea hq hS
   have B1 := hidden (bl_alloc wr (.cells #[.int .u64 a.x0, .int .u64 a.x1, .int .u64 a.x2, .int .u64 a.x3] 39))
   go_upto_region 6 with (first | (go_at_call 130; refine (RA.out _ (TW.out.keep B1.out)).mono ?_; rintro e wa ⟨rfl, hb⟩; have M2 := hidden ((Mw.start wa).new [.int .u8 0, .int .u8 0, .int .u8 0, .int .u8 0, .int .u8 0, .int .u8 0, .int .u8 0, .int .u8 0, .int .u8 0, .int .u8 0, .int .u8 0, .int .u8 0, .int .u8 0, .int .u8 0, .int .u8 0, .int .u8 0, .int .u8 0, .int .u8 0, .int .u8 0, .int .u8 0, .int .u8 0, .int .u8 0, .int .u8 0, .int .u8 0, .int .u8 0, .int .u8 0, .int .u8 0, .int .u8 0, .int .u8 0, .int .u8 0, .int .u8 0, .int .u8 0] 127); have TH := hidden (M2.out.ther (Tr.cb l) (c := wa.heap.size) (o := [.int .u8 0, .int .u8 0, .int .u8 0, .int .u8 0, .int .u8 0, .int .u8 0, .int .u8 0, .int .u8 0, .int .u8 0, .int .u8 0, .int .u8 0, .int .u8 0, .int .u8 0, .int .u8 0, .int .u8 0, .int .u8 0, .int .u8 0, .int .u8 0, .int .u8 0, .int .u8 0, .int .u8 0, .int .u8 0, .int .u8 0, .int .u8 0, .int .u8 0, .int .u8 0, .int .u8 0, .int .u8 0, .int .u8 0, .int .u8 0, .int .u8 0, .int .u8 0]) (by simp) (by rw [D3.out]; rfl)); have M3 := hidden (M2.out.set (M := []) (Tr.cb l) (c := wa.heap.size) (o := [.int .u8 0, .int .u8 0, .int .u8 0, .int .u8 0, .int .u8 0, .int .u8 0, .int .u8 0, .int .u8 0, .int .u8 0, .int .u8 0, .int .u8 0, .int .u8 0, .int .u8 0, .int .u8 0, .int .u8 0, .int .u8 0, .int .u8 0, .int .u8 0, .int .u8 0, .int .u8 0, .int .u8 0, .int .u8 0, .int .u8 0, .int .u8 0, .int .u8 0, .int .u8 0, .int .u8 0, .int .u8 0, .int .u8 0, .int .u8 0, .int .u8 0, .int .u8 0]) (by simp) (by rw [D3.out]; rfl) (by simp)); have B2 := hidden (bl_trans B1.out hb); clear hb RA x0 x1 x2 x3 B1 M2 m1) | refine wpList_store_mid rfl 127 _ _ rfl wa.heap.size 0 (Tr.cb l).toArray (by rfl) (by rfl) TH.out D1.out D2.out ?_)
   generalize hV : (wa.alloc (.cells ([.int .u8 0, .int .u8 0, .int .u8 0, .int .u8 0, .int .u8 0, .int .u8 0, .int .u8 0, .int .u8 0, .int .u8 0, .int .u8 0, .int .u8 0, .int .u8 0, .int .u8 0, .int .u8 0, .int .u8 0, .int .u8 0, .int .u8 0, .int .u8 0, .int .u8 0, .int .u8 0, .int .u8 0, .int .u8 0, .int .u8 0, .int .u8 0, .int .u8 0, .int .u8 0, .int .u8 0, .int .u8 0, .int .u8 0, .int .u8 0, .int .u8 0, .int .u8 0] : List Value).toArray 127)).setCells wa.heap.size 0 (Tr.cb l) = V at M3 ⊢
   clear hV TH
   have B3 := hidden (bl_trans B2.out M3.out.bel)
   have NX := hidden (Ec.next HQ.out B3.out (Nat.le_trans B2.out.size (Nat.le_refl wa.heap.size)) (by rw [EA.out]; exact (M3.out.r (wa.heap.size, Tr.cb l) (by simp)).1) hkn)
   have tb := Li.there_bl HQ.out.2.1 B3.out
   obtain ⟨y0, s0⟩ := Option.isSome_iff_exists.1 (tb k hkn).1
   have v0 := (tb k hkn).2
   rw [Nat.zero_add] at s0 v0
   generalize wa.heap.size = N at *
   clear M3 B2 tb
   go_wp2_with fail
   go_roundw
   case rel => exact ⟨k + 1, by omega, by go_num, hidden ⟨_, NX.out⟩⟩
   case measure => simp [intOf]; omega
  ·obtain rfl : k = n := by omega
   have lq : ¬ (k : Int) < (k : Int) := by omega
   go_wp2_with fail
   refine bodyPost_ret (v := .slice (some ⟨w.heap.size, 0, none⟩) k k) (by simp [results, Tryz.results49, go_sem]) rfl ⟨rfl, hS.out⟩
open Go.RowKit
theorem info8 : (Tryz.prog.info? 5).map (fun i => (i.zero, i.size, i.bytes)) = some (some (.int .u8 0), 1, 1) := by kernel_rfl
def E8 (w x : World) : Prop := Below w.heap.size w x ∧ x.there w.heap.size 0 8 ∧ ∃ bs : List UInt8, bs.length = 8 ∧ x.rangeAt w.heap.size 0 (Tr.cb bs)
theorem E8.next {w x : World} (h : E8 w x) (k : Nat) (z : Int) (hz : 0 ≤ z ∧ z ≤ 255) (hk : k < 8) : E8 w (x.setCell ⟨w.heap.size, k, none⟩ (.int .u8 z)) := by
 obtain ⟨h1, h2, bs, hl, hr⟩ := h
 have t : (x.setCells w.heap.size k [.int .u8 z]).there w.heap.size 0 8 := there_set h2 w.heap.size k _
 refine ⟨below_trans h1 (below_grown (gb_setCells w.heap.size [.int .u8 z] k x) h1.size (fun j hj => by have := Option.some.inj hj; omega)), t, bs.set k (UInt8.ofNat z.toNat), by rw [List.length_set, hl], fun j u hu => ?_⟩
 rw [Nat.zero_add]
 obtain ⟨y, hy⟩ := Option.isSome_iff_exists.1 (h2 k hk).1
 rw [Nat.zero_add] at hy
 unfold Tr.cb at hu
 rw [List.getElem?_map] at hu
 by_cases e : j = k
 ·subst e
  rw [List.getElem?_set_self (by omega)] at hu
  simp only [Option.map_some, Option.some.injEq] at hu
  rw [← hu, UInt8.toNat_ofNat', show z.toNat % 2 ^ 8 = z.toNat by omega, Int.toNat_of_nonneg hz.1]
  exact World.cell?_setCell_same _ _ _ (by first | exact hy | (rw [hy]; rfl) | simp [hy])
 ·rw [List.getElem?_set_ne (fun q => e q.symm)] at hu
  have := hr j u (by unfold Tr.cb; rw [List.getElem?_map]; exact hu)
  rw [Nat.zero_add] at this
  exact (World.cell?_setCell_other _ _ _ _ (fun e2 => e (by have := congrArg Addr.off e2; simp at this; omega))).trans this
theorem u8_bd (z : Int) : 0 ≤ IntKind.u8.wrap z ∧ IntKind.u8.wrap z ≤ 255 := by
 have h : IntKind.u8.wrap z = z % 256 := by rfl
 omega
theorem le64R (m : Nat) (w : World) (hm : m ≤ 64) :
  Calls Tryz.prog 60 #[.int .i64 (m : Int)] w fun e w' => e = .returned (.slice (some ⟨w.heap.size, 0, none⟩) 8 8) ∧ E8 w w' := by
 obtain ⟨i0, hi, hz0, hz1, hz2⟩ := info_parts info8
 have hmk := run_make (P := Tryz.prog) w 123 5 i0 (.int .u8 0) (by kernel_rfl) hi hz0 .i64 .i64 8 8 (by omega) (Int.le_refl _) (by rw [hz2]; omega) (by omega)
 simp only [show ((8 : Int)).toNat = 8 from rfl, hz1, Value.cells, Nat.mul_one] at hmk
 clear hi hz0 hz1 hz2
 have th : (w.alloc (.cells (madeCells #[.int .u8 0] 8) 5)).there w.heap.size 0 8 := by
  have := there_newM w (madeCells #[.int .u8 0] 8).toList 5
  simpa [size_madeCells] using this
 have S0 : Hid (E8 w (w.alloc (.cells (madeCells #[.int .u8 0] 8) 5))) := hidden ⟨bl_alloc w _, th, List.replicate 8 0, rfl, by
  have := range_newM w (madeCells #[.int .u8 0] 8).toList 5
  rw [Array.toArray_toList, toList_madeCells_one] at this
  exact this⟩
 clear th
 go_enter Tryz.func60, Tryz.ntmps60
 go_upto_region 2 with fail
 generalize (w.alloc (.cells (madeCells #[.int .u8 0] 8) 5)) = w1 at *
 clear hmk
 go_wp2_with fail
 go_loopw [8] (fun iv w' => ∃ i : Nat, i ≤ 8 ∧ iv = .int .i64 i ∧ Hid (E8 w w')) (fun i _ => 8 - (intOf i).toNat)
 case atStart => exact ⟨0, by omega, rfl, S0⟩
 case round =>
  obtain ⟨k, hk, rfl, hS⟩ := hrel
  by_cases hkn : k < 8
  ·have k0 : (0 : Int) ≤ (k : Int) := by omega
   have k1 : (k : Int) < 8 := by omega
   have w9 : IntKind.i64.wrap ((k : Int) + 1) = (k : Int) + 1 := IntWalk.i64_in _ (by omega)
   have w8 : IntKind.i64.wrap (8 * (k : Int)) = 8 * (k : Int) := IntWalk.i64_in _ (by omega)
   have s8 : ¬ 8 * (k : Int) < 0 := by omega
   obtain ⟨y0, s0⟩ := Option.isSome_iff_exists.1 (hS.out.2.1 k hkn).1
   have v0 := (hS.out.2.1 k hkn).2
   rw [Nat.zero_add] at s0 v0
   go_wp2_with fail
   go_roundw
   case rel =>
    refine ⟨k + 1, by omega, by go_num, hidden (hS.out.next k _ ?_ hkn)⟩
    exact u8_bd _
   case measure => simp [intOf]; omega
  ·obtain rfl : k = 8 := by omega
   go_wp2_with fail
   refine bodyPost_ret (v := .slice (some ⟨w.heap.size, 0, none⟩) 8 8) (by simp [results, Tryz.results60, go_sem]) rfl ⟨rfl, hS.out⟩
open Go.RowKit
theorem ta_single (x : Value) (w : World) : (Instr.typeAssert (.iface 62 x) 98 62 true).run Tryz.prog w = .ok (.tuple #[x, .bool true]) w := by kernel_rfl
theorem mt_part (R1 I1 R2 I2 r cR1 cI1 cR2 cI2 : Nat) (w : World) : (method 362 64 (.agg #[.slice (some ⟨R1, 0, none⟩) r cR1, .slice (some ⟨I1, 0, none⟩) r cI1, .slice (some ⟨R2, 0, none⟩) r cR2, .slice (some ⟨I2, 0, none⟩) r cI2]) "veil/sigma.part").run Tryz.prog w = .ok (141, .agg #[.slice (some ⟨R1, 0, none⟩) r cR1, .slice (some ⟨I1, 0, none⟩) r cI1, .slice (some ⟨R2, 0, none⟩) r cR2, .slice (some ⟨I2, 0, none⟩) r cI2]) w := by kernel_rfl
theorem part1 (R1 I1 R2 I2 r cR1 cI1 cR2 cI2 : Nat) (w : World) :
  Calls Tryz.prog 141 #[.agg #[.slice (some ⟨R1, 0, none⟩) r cR1, .slice (some ⟨I1, 0, none⟩) r cI1, .slice (some ⟨R2, 0, none⟩) r cR2, .slice (some ⟨I2, 0, none⟩) r cI2], .int .i64 1] w fun e w' => e = .returned (.iface 62 (.agg #[.slice (some ⟨R1, 0, none⟩) r cR1, .slice (some ⟨I1, 0, none⟩) r cI1])) ∧ Below w.heap.size w w' := by
 have B0 := bl_alloc w (.cells #[.slice (some ⟨R1, 0, none⟩) r cR1, .slice (some ⟨I1, 0, none⟩) r cI1, .slice (some ⟨R2, 0, none⟩) r cR2, .slice (some ⟨I2, 0, none⟩) r cI2] 64)
 go_enter Tryz.func141, Tryz.ntmps141
 go_wp2_with fail
 refine bodyPost_ret (v := .iface 62 (.agg #[.slice (some ⟨R1, 0, none⟩) r cR1, .slice (some ⟨I1, 0, none⟩) r cI1])) (by simp [results, Tryz.results141, go_sem]) rfl ⟨rfl, B0⟩
theorem claimOf1 (R1 I1 R2 I2 r cR1 cI1 cR2 cI2 : Nat) (w : World) :
  Calls Tryz.prog 24 #[.iface 64 (.agg #[.slice (some ⟨R1, 0, none⟩) r cR1, .slice (some ⟨I1, 0, none⟩) r cI1, .slice (some ⟨R2, 0, none⟩) r cR2, .slice (some ⟨I2, 0, none⟩) r cI2]), .int .i64 1] w fun e w' => e = .returned (.tuple #[.agg #[.slice (some ⟨R1, 0, none⟩) r cR1, .slice (some ⟨I1, 0, none⟩) r cI1], .bool true]) ∧ Below w.heap.size w w' := by
 have m1 := mt_part R1 I1 R2 I2 r cR1 cI1 cR2 cI2
 have ta := ta_single (.agg #[.slice (some ⟨R1, 0, none⟩) r cR1, .slice (some ⟨I1, 0, none⟩) r cI1])
 have CP := hidden (fun x => part1 R1 I1 R2 I2 r cR1 cI1 cR2 cI2 x)
 have B0 := bl_alloc w (.cells #[.slice none 0 0, .slice none 0 0] 43)
 have e0 : (w.alloc (.cells #[.slice none 0 0, .slice none 0 0] 43)).cell? ⟨w.heap.size, 0, none⟩ = some (.slice none 0 0) := by go_simp
 have e1 : (w.alloc (.cells #[.slice none 0 0, .slice none 0 0] 43)).cell? ⟨w.heap.size, 1, none⟩ = some (.slice none 0 0) := by go_simp
 have f0 : (w.alloc (.cells #[.slice none 0 0, .slice none 0 0] 43)).frozen? ⟨w.heap.size, 0, none⟩ = false := by go_simp
 have f1 : (w.alloc (.cells #[.slice none 0 0, .slice none 0 0] 43)).frozen? ⟨w.heap.size, 1, none⟩ = false := by go_simp
 go_enter Tryz.func24, Tryz.ntmps24
 have hlt : w.heap.size < (w.alloc (.cells #[.slice none 0 0, .slice none 0 0] 43)).heap.size := by rw [World.size_alloc]; exact Nat.lt_succ_self _
 go_wp2_with (first | (go_at_call 141; refine (CP.out _).mono ?_; rintro e wa ⟨rfl, ha⟩; have bx := bl_trans ha (bl_alloc wa (.cells #[.slice (some ⟨R1, 0, none⟩) r cR1, .slice (some ⟨I1, 0, none⟩) r cI1] 62)); have a0 := cell_keep e0 bx; have a1 := cell_keep e1 bx; have g0 := (bx.frozen (p := ⟨w.heap.size, 0, none⟩) hlt).trans f0; have g1 := (bx.frozen (p := ⟨w.heap.size, 1, none⟩) hlt).trans f1; have BA := hidden (bl_trans B0 bx); clear ha CP bx e0 e1 f0 f1 hlt))
 have BF := below_trans BA.out (below_grown (gb_setCells w.heap.size [.slice (some ⟨R1, 0, none⟩) r cR1, .slice (some ⟨I1, 0, none⟩) r cI1] 0 (wa.alloc (.cells #[.slice (some ⟨R1, 0, none⟩) r cR1, .slice (some ⟨I1, 0, none⟩) r cI1] 62))) BA.out.size (fun j hj => by have := Option.some.inj hj; omega))
 refine bodyPost_ret (v := .tuple #[.agg #[.slice (some ⟨R1, 0, none⟩) r cR1, .slice (some ⟨I1, 0, none⟩) r cI1], .bool true]) (by simp [results, Tryz.results24, go_sem, a0, a1]) rfl ⟨rfl, BF⟩
theorem part2 (R1 I1 R2 I2 r cR1 cI1 cR2 cI2 : Nat) (w : World) :
  Calls Tryz.prog 141 #[.agg #[.slice (some ⟨R1, 0, none⟩) r cR1, .slice (some ⟨I1, 0, none⟩) r cI1, .slice (some ⟨R2, 0, none⟩) r cR2, .slice (some ⟨I2, 0, none⟩) r cI2], .int .i64 2] w fun e w' => e = .returned (.iface 62 (.agg #[.slice (some ⟨R2, 0, none⟩) r cR2, .slice (some ⟨I2, 0, none⟩) r cI2])) ∧ Below w.heap.size w w' := by
 have B0 := bl_alloc w (.cells #[.slice (some ⟨R1, 0, none⟩) r cR1, .slice (some ⟨I1, 0, none⟩) r cI1, .slice (some ⟨R2, 0, none⟩) r cR2, .slice (some ⟨I2, 0, none⟩) r cI2] 64)
 go_enter Tryz.func141, Tryz.ntmps141
 go_wp2_with fail
 refine bodyPost_ret (v := .iface 62 (.agg #[.slice (some ⟨R2, 0, none⟩) r cR2, .slice (some ⟨I2, 0, none⟩) r cI2])) (by simp [results, Tryz.results141, go_sem]) rfl ⟨rfl, B0⟩
theorem claimOf2 (R1 I1 R2 I2 r cR1 cI1 cR2 cI2 : Nat) (w : World) :
  Calls Tryz.prog 24 #[.iface 64 (.agg #[.slice (some ⟨R1, 0, none⟩) r cR1, .slice (some ⟨I1, 0, none⟩) r cI1, .slice (some ⟨R2, 0, none⟩) r cR2, .slice (some ⟨I2, 0, none⟩) r cI2]), .int .i64 2] w fun e w' => e = .returned (.tuple #[.agg #[.slice (some ⟨R2, 0, none⟩) r cR2, .slice (some ⟨I2, 0, none⟩) r cI2], .bool true]) ∧ Below w.heap.size w w' := by
 have m1 := mt_part R1 I1 R2 I2 r cR1 cI1 cR2 cI2
 have ta := ta_single (.agg #[.slice (some ⟨R2, 0, none⟩) r cR2, .slice (some ⟨I2, 0, none⟩) r cI2])
 have CP := hidden (fun x => part2 R1 I1 R2 I2 r cR1 cI1 cR2 cI2 x)
 have B0 := bl_alloc w (.cells #[.slice none 0 0, .slice none 0 0] 43)
 have e0 : (w.alloc (.cells #[.slice none 0 0, .slice none 0 0] 43)).cell? ⟨w.heap.size, 0, none⟩ = some (.slice none 0 0) := by go_simp
 have e1 : (w.alloc (.cells #[.slice none 0 0, .slice none 0 0] 43)).cell? ⟨w.heap.size, 1, none⟩ = some (.slice none 0 0) := by go_simp
 have f0 : (w.alloc (.cells #[.slice none 0 0, .slice none 0 0] 43)).frozen? ⟨w.heap.size, 0, none⟩ = false := by go_simp
 have f1 : (w.alloc (.cells #[.slice none 0 0, .slice none 0 0] 43)).frozen? ⟨w.heap.size, 1, none⟩ = false := by go_simp
 go_enter Tryz.func24, Tryz.ntmps24
 have hlt : w.heap.size < (w.alloc (.cells #[.slice none 0 0, .slice none 0 0] 43)).heap.size := by rw [World.size_alloc]; exact Nat.lt_succ_self _
 go_wp2_with (first | (go_at_call 141; refine (CP.out _).mono ?_; rintro e wa ⟨rfl, ha⟩; have bx := bl_trans ha (bl_alloc wa (.cells #[.slice (some ⟨R2, 0, none⟩) r cR2, .slice (some ⟨I2, 0, none⟩) r cI2] 62)); have a0 := cell_keep e0 bx; have a1 := cell_keep e1 bx; have g0 := (bx.frozen (p := ⟨w.heap.size, 0, none⟩) hlt).trans f0; have g1 := (bx.frozen (p := ⟨w.heap.size, 1, none⟩) hlt).trans f1; have BA := hidden (bl_trans B0 bx); clear ha CP bx e0 e1 f0 f1 hlt))
 have BF := below_trans BA.out (below_grown (gb_setCells w.heap.size [.slice (some ⟨R2, 0, none⟩) r cR2, .slice (some ⟨I2, 0, none⟩) r cI2] 0 (wa.alloc (.cells #[.slice (some ⟨R2, 0, none⟩) r cR2, .slice (some ⟨I2, 0, none⟩) r cI2] 62))) BA.out.size (fun j hj => by have := Option.some.inj hj; omega))
 refine bodyPost_ret (v := .tuple #[.agg #[.slice (some ⟨R2, 0, none⟩) r cR2, .slice (some ⟨I2, 0, none⟩) r cI2], .bool true]) (by simp [results, Tryz.results24, go_sem, a0, a1]) rfl ⟨rfl, BF⟩
open Go.RowKit
theorem scinfo : (Tryz.prog.info? 26).map (fun i => (i.zero, i.size, i.bytes)) = some (some (.agg #[.int .u64 0, .int .u64 0, .int .u64 0, .int .u64 0]), 4, 32) := by kernel_rfl
def Fl (ks : Nat → E4) (i : Nat) : E4 := lst (ks i).n
theorem leastR (lb n lc : Nat) (ks : Nat → E4) (w : World) (hT : Tb w) (hn : n ≤ 64) (hok : ∀ k, k < n → (ks k).ok) (hr : Rl w lb 0 n ks) :
  Calls Tryz.prog 33 #[.slice (some ⟨lb, 0, none⟩) n lc] w fun e w' => e = .returned (.slice (some ⟨w.heap.size, 0, none⟩) n n) ∧ St w.heap.size w w.heap.size n n (Fl ks) w' := by
 have HT := hidden hT
 have HR := hidden hr
 have HK := hidden hok
 have HN := hidden hn
 obtain ⟨i0, hi, hz0, hz1, hz2⟩ := info_parts scinfo
 have hmk := run_make (P := Tryz.prog) w 23 26 i0 (.agg #[.int .u64 0, .int .u64 0, .int .u64 0, .int .u64 0]) (by kernel_rfl) hi hz0 .i64 .i64 (n : Int) (n : Int) (by omega) (Int.le_refl _) (by rw [hz2]; omega) (by omega)
 simp only [Int.toNat_natCast, hz1, Value.cells] at hmk
 clear hi hz0 hz1 hz2 hT hr hok
 have th : (w.alloc (.cells (madeCells #[.int .u64 0, .int .u64 0, .int .u64 0, .int .u64 0] (n * 4)) 26)).there w.heap.size 0 (n * 4) := by
  have := there_newM w (madeCells #[.int .u64 0, .int .u64 0, .int .u64 0, .int .u64 0] (n * 4)).toList 26
  simpa [size_madeCells] using this
 have S0 : Hid (St w.heap.size w w.heap.size n 0 (Fl ks) (w.alloc (.cells (madeCells #[.int .u64 0, .int .u64 0, .int .u64 0, .int .u64 0] (n * 4)) 26))) := hidden ⟨bl_alloc w _, th, fun j hj => absurd hj (by omega)⟩
 clear th
 go_enter Tryz.func33, Tryz.ntmps33
 go_upto_region 2 with fail
 generalize (w.alloc (.cells (madeCells #[.int .u64 0, .int .u64 0, .int .u64 0, .int .u64 0] (n * 4)) 26)) = w1 at *
 clear hmk
 go_wp2_with fail
 go_loopw [11] (fun iv w' => ∃ i : Nat, i ≤ n ∧ iv = .int .i64 i ∧ Hid (St w.heap.size w w.heap.size n i (Fl ks) w')) (fun i _ => n - (intOf i).toNat)
 case atStart => exact ⟨0, by omega, rfl, S0⟩
 case round =>
  obtain ⟨k, hk, rfl, hS⟩ := hrel
  by_cases hkn : k < n
  ·have k0 : (0 : Int) ≤ (k : Int) := by omega
   have k1 : (k : Int) < (n : Int) := by omega
   have w9 : IntKind.i64.wrap ((k : Int) + 1) = (k : Int) + 1 := IntWalk.i64_in _ (by have := HN.out; omega)
   have RR := HR.out.keep hS.out.1
   have x0 := RR.c0 k hkn; have x1 := RR.c1 k hkn; have x2 := RR.c2 k hkn; have x3 := RR.c3 k hkn
   simp only [Nat.zero_add] at x0 x1 x2 x3
   obtain ⟨a, ea⟩ : ∃ a, ks k = a := ⟨_, rfl⟩
   rw [ea] at x0 x1 x2 x3
   have ha : a.ok := ea ▸ HK.out k hkn
   obtain ⟨rv, hrr⟩ : ∃ rv, Fl ks k = rv := ⟨_, rfl⟩
   have hr2 : lst a.n = rv := by rw [← hrr]; unfold Fl; rw [ea]
   have RA : Hid (∀ x, Tb x → Calls Tryz.prog 23 #[.agg #[.int .u64 a.x0, .int .u64 a.x1, .int .u64 a.x2, .int .u64 a.x3]] x fun e w' => e = .returned (.agg #[.int .u64 rv.x0, .int .u64 rv.x1, .int .u64 rv.x2, .int .u64 rv.x3]) ∧ Below x.heap.size x w') := hidden (fun x T => hr2 ▸ fix (R := lst a.n) (Least_any a x T ha) rfl)
   have TW := hidden (HT.out.keep hS.out.1)
   have HE := hidden hrr
   clear RR ha ea hr2 hrr
   have B1 := hidden (bl_alloc wr (.cells #[.int .u64 a.x0, .int .u64 a.x1, .int .u64 a.x2, .int .u64 a.x3] 26))
   go_wp2_with (first
    | (go_at_call 23; refine (RA.out _ (TW.out.keep B1.out)).mono ?_; rintro e wb ⟨rfl, hb⟩; have BB := bl_trans B1.out hb; have tb := Li.there_bl hS.out.2.1 BB; obtain ⟨y0, s0⟩ := Option.isSome_iff_exists.1 (tb (k * 4) (by omega)).1; obtain ⟨y1, s1⟩ := Option.isSome_iff_exists.1 (tb (k * 4 + 1) (by omega)).1; obtain ⟨y2, s2⟩ := Option.isSome_iff_exists.1 (tb (k * 4 + 2) (by omega)).1; obtain ⟨y3, s3⟩ := Option.isSome_iff_exists.1 (tb (k * 4 + 3) (by omega)).1; have v0 := (tb (k * 4) (by omega)).2; have v1 := (tb (k * 4 + 1) (by omega)).2; have v2 := (tb (k * 4 + 2) (by omega)).2; have v3 := (tb (k * 4 + 3) (by omega)).2; rw [Nat.zero_add] at s0 s1 s2 s3 v0 v1 v2 v3; have PN : Hid (St w.heap.size w w.heap.size n (k + 1) (Fl ks) (setS wb w.heap.size (k * 4) rv)) := hidden (St.next ⟨Below.refl _ _, fun j hj => range_bl (hS.out.2.2 j hj) BB⟩ tb (bl_trans hS.out.1 BB) (by have := hS.out.1.size; have := BB.size; omega) hkn HE.out); unfold setS at PN; clear hb BB tb RA hS x0 x1 x2 x3 B1))
   go_roundw
   case rel => exact ⟨k + 1, by omega, by go_num, PN⟩
   case measure => simp [intOf]; omega
  ·obtain rfl : k = n := by omega
   have lq : ¬ (k : Int) < (k : Int) := by omega
   go_wp2_with fail
   refine bodyPost_ret (v := .slice (some ⟨w.heap.size, 0, none⟩) k k) (by simp [results, Tryz.results33, go_sem]) rfl ⟨rfl, hS.out⟩
end Sg
end Go.Proofs.YtbbnjmjeeiglcaaGreatDoor
