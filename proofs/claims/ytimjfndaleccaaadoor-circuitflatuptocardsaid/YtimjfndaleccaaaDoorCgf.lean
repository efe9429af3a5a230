import Derived.Test.YtimjfndaleccaaaDoorTk
import Derived.Test.YtimjfndaleccaaaDoorChb
namespace Go.Proofs.YtimjfndaleccaaaDoor
open Go.RowKit
set_option linter.unusedVariables false
set_option linter.unusedSimpArgs false
open Cm (Wr Tm co bf Ls lf ins Eqm)
namespace Ci
set_option maxRecDepth 100000
set_option maxHeartbeats 4000000
theorem i8w : (Tryd.prog.info? 34).map (·.size) = some 8 := by kernel_rfl
def gf12o_0 : Oper := { dst := some 37, op := Op.indexAddr 69 (Operand.tmp 6) (Operand.const (Value.int IntKind.i64 2)), type := 0, pos := "numbers.go:128", after := #[], guard := none }
def gf12o_1 : Oper := { dst := some 38, op := Op.load 23 (Operand.tmp 37), type := 23, pos := "numbers.go:128", after := #[{ on := 0, ground := Ground.data }], guard := none }
def gf12o_2 : Oper := { dst := some 39, op := Op.indexAddr 69 (Operand.tmp 6) (Operand.const (Value.int IntKind.i64 3)), type := 0, pos := "numbers.go:128", after := #[], guard := none }
def gf12o_3 : Oper := { dst := some 40, op := Op.load 23 (Operand.tmp 39), type := 23, pos := "numbers.go:128", after := #[{ on := 2, ground := Ground.data }], guard := none }
def gf12o_4 : Oper := { dst := some 41, op := Op.indexAddr 69 (Operand.tmp 6) (Operand.const (Value.int IntKind.i64 4)), type := 0, pos := "numbers.go:128", after := #[], guard := none }
def gf12o_5 : Oper := { dst := some 42, op := Op.load 23 (Operand.tmp 41), type := 23, pos := "numbers.go:128", after := #[{ on := 4, ground := Ground.data }], guard := none }
def gf12o_6 : Oper := { dst := some 43, op := Op.indexAddr 69 (Operand.tmp 6) (Operand.const (Value.int IntKind.i64 5)), type := 0, pos := "numbers.go:128", after := #[], guard := none }
def gf12o_7 : Oper := { dst := some 44, op := Op.load 23 (Operand.tmp 43), type := 23, pos := "numbers.go:128", after := #[{ on := 6, ground := Ground.data }], guard := none }
def gf12o_8 : Oper := { dst := some 45, op := Op.indexAddr 69 (Operand.tmp 6) (Operand.const (Value.int IntKind.i64 1)), type := 0, pos := "numbers.go:128", after := #[], guard := none }
def gf12o_9 : Oper := { dst := some 46, op := Op.load 23 (Operand.tmp 45), type := 23, pos := "numbers.go:128", after := #[{ on := 8, ground := Ground.data }], guard := none }
def gf12o_10 : Oper := { dst := some 47, op := Op.indexAddr 23 (Operand.tmp 46) (Operand.const (Value.int IntKind.i64 0)), type := 0, pos := "numbers.go:128", after := #[{ on := 9, ground := Ground.data }], guard := none }
def gf12o_11 : Oper := { dst := some 48, op := Op.load 26 (Operand.tmp 47), type := 26, pos := "numbers.go:128", after := #[{ on := 10, ground := Ground.data }], guard := none }
def gf12o_12 : Oper := { dst := some 49, op := Op.build 34 #[(0, Operand.tmp 38), (1, Operand.tmp 40), (2, Operand.tmp 42), (3, Operand.tmp 44), (4, Operand.tmp 48)], type := 34, pos := "numbers.go:128", after := #[{ on := 1, ground := Ground.data }, { on := 3, ground := Ground.data }, { on := 5, ground := Ground.data }, { on := 7, ground := Ground.data }, { on := 11, ground := Ground.data }], guard := none }
def gf12o_13 : Oper := { dst := none, op := Op.store 34 (Operand.tmp 4) (Operand.tmp 49), type := 0, pos := "numbers.go:128", after := #[{ on := 12, ground := Ground.data }, { on := 0, ground := Ground.phase }, { on := 1, ground := Ground.phase }, { on := 2, ground := Ground.phase }, { on := 3, ground := Ground.phase }, { on := 4, ground := Ground.phase }, { on := 5, ground := Ground.phase }, { on := 6, ground := Ground.phase }, { on := 7, ground := Ground.phase }, { on := 8, ground := Ground.phase }, { on := 9, ground := Ground.phase }, { on := 10, ground := Ground.phase }, { on := 11, ground := Ground.phase }, { on := 12, ground := Ground.phase }], guard := none }
def gf12o_14 : Oper := { dst := some 5, op := Op.assign (Operand.const (Value.int IntKind.i64 0)), type := 35, pos := "numbers.go:128", after := #[{ on := 13, ground := Ground.chain }, { on := 0, ground := Ground.phase }, { on := 1, ground := Ground.phase }, { on := 2, ground := Ground.phase }, { on := 3, ground := Ground.phase }, { on := 4, ground := Ground.phase }, { on := 5, ground := Ground.phase }, { on := 6, ground := Ground.phase }, { on := 7, ground := Ground.phase }, { on := 8, ground := Ground.phase }, { on := 9, ground := Ground.phase }, { on := 10, ground := Ground.phase }, { on := 11, ground := Ground.phase }, { on := 12, ground := Ground.phase }, { on := 13, ground := Ground.phase }], guard := none }
def gf12o : Array Oper := #[gf12o_0, gf12o_1, gf12o_2, gf12o_3, gf12o_4, gf12o_5, gf12o_6, gf12o_7, gf12o_8, gf12o_9, gf12o_10, gf12o_11, gf12o_12, gf12o_13, gf12o_14]
set_option maxRecDepth 100000 in
set_option maxHeartbeats 16000000 in
theorem gf12 (Q : Exit → Act → World → Prop) (nb rb : Nat) (cnt B : Nat → Nat) (c : E4) (u0 u1 u2 u3 u5 u7 u8 u9 u10 u11 u12 u13 u14 u15 u16 u17 u18 u19 u20 u21 u22 u23 u24 u25 u26 u27 u28 u29 u30 u31 u32 u33 u34 u35 u36 u37 u38 u39 u40 u41 u42 u43 u44 u45 u46 u47 u48 u49 : Value) (W : World)
  (o1 : (0 : Int) < ((cnt 1 : Nat) : Int)) (oz : ¬ cnt 1 = 0) (ne1 : nb ≠ rb) (ne2 : B 1 ≠ rb) (th : W.there rb 0 8) (n2 : W.cell? ⟨nb, 2, none⟩ = some (.slice (some ⟨B 2, 0, none⟩) (cnt 2) (cnt 2))) (n3 : W.cell? ⟨nb, 3, none⟩ = some (.slice (some ⟨B 3, 0, none⟩) (cnt 3) (cnt 3))) (n4 : W.cell? ⟨nb, 4, none⟩ = some (.slice (some ⟨B 4, 0, none⟩) (cnt 4) (cnt 4))) (n5 : W.cell? ⟨nb, 5, none⟩ = some (.slice (some ⟨B 5, 0, none⟩) (cnt 5) (cnt 5))) (n1 : W.cell? ⟨nb, 1, none⟩ = some (.slice (some ⟨B 1, 0, none⟩) (cnt 1) (cnt 1))) (c0 : W.cell? ⟨B 1, 0, none⟩ = some (.int .u64 c.x0)) (c1 : W.cell? ⟨B 1, 1, none⟩ = some (.int .u64 c.x1)) (c2 : W.cell? ⟨B 1, 2, none⟩ = some (.int .u64 c.x2)) (c3 : W.cell? ⟨B 1, 3, none⟩ = some (.int .u64 c.x3))
  (HQ : Hid (∀ (wz : World), (∃ wy, Below W.heap.size W wy ∧ wz = wy.setCells rb 0 [.slice (some ⟨B 2, 0, none⟩) (cnt 2) (cnt 2), .slice (some ⟨B 3, 0, none⟩) (cnt 3) (cnt 3), .slice (some ⟨B 4, 0, none⟩) (cnt 4) (cnt 4), .slice (some ⟨B 5, 0, none⟩) (cnt 5) (cnt 5), .int .u64 c.x0, .int .u64 c.x1, .int .u64 c.x2, .int .u64 c.x3]) → Q .normal ⟨#[u0, u1, u2, u3, .pointer (some ⟨rb, 0, none⟩), .int .i64 0, .pointer (some ⟨nb, 0, none⟩), u7, u8, u9, u10, u11, u12, u13, u14, u15, u16, u17, u18, u19, u20, u21, u22, u23, u24, u25, u26, u27, u28, u29, u30, u31, u32, u33, u34, u35, u36, .pointer (some ⟨nb, 2, none⟩), .slice (some ⟨B 2, 0, none⟩) (cnt 2) (cnt 2), .pointer (some ⟨nb, 3, none⟩), .slice (some ⟨B 3, 0, none⟩) (cnt 3) (cnt 3), .pointer (some ⟨nb, 4, none⟩), .slice (some ⟨B 4, 0, none⟩) (cnt 4) (cnt 4), .pointer (some ⟨nb, 5, none⟩), .slice (some ⟨B 5, 0, none⟩) (cnt 5) (cnt 5), .pointer (some ⟨nb, 1, none⟩), .slice (some ⟨B 1, 0, none⟩) (cnt 1) (cnt 1), .pointer (some ⟨B 1, 0, none⟩), .agg #[.int .u64 c.x0, .int .u64 c.x1, .int .u64 c.x2, .int .u64 c.x3], .agg #[.slice (some ⟨B 2, 0, none⟩) (cnt 2) (cnt 2), .slice (some ⟨B 3, 0, none⟩) (cnt 3) (cnt 3), .slice (some ⟨B 4, 0, none⟩) (cnt 4) (cnt 4), .slice (some ⟨B 5, 0, none⟩) (cnt 5) (cnt 5), .int .u64 c.x0, .int .u64 c.x1, .int .u64 c.x2, .int .u64 c.x3]], []⟩ wz)) : (Code.region 12 gf12o true).wp Tryd.prog Q ⟨#[u0, u1, u2, u3, .pointer (some ⟨rb, 0, none⟩), u5, .pointer (some ⟨nb, 0, none⟩), u7, u8, u9, u10, u11, u12, u13, u14, u15, u16, u17, u18, u19, u20, u21, u22, u23, u24, u25, u26, u27, u28, u29, u30, u31, u32, u33, u34, u35, u36, u37, u38, u39, u40, u41, u42, u43, u44, u45, u46, u47, u48, u49], []⟩ W := by
 have BB := hidden (bl_drew W)
 unfold gf12o
 refine wp_region_noPanic ?_
 refine wp_region_held_drew (S := fun x => W.grownBy x (some rb)) (by kernel_rfl) (gbI (bl_drew W) _) (fun hH0 => ?_)
 refine tk 0 gf12o_0 (.pointer (some ⟨nb, 2, none⟩)) rfl (by kernel_rfl) hH0 rfl (fun w0 hSw => ?_) ?_
 ·(unfold gf12o_0; clear hSw; go_simp)
 simp only [gf12o_0, Act.put, sA, sB, sC]
 refine tk 2 gf12o_2 (.pointer (some ⟨nb, 3, none⟩)) rfl (by kernel_rfl) hH0 rfl (fun w0 hSw => ?_) ?_
 ·(unfold gf12o_2; clear hSw; go_simp)
 simp only [gf12o_2, Act.put, sA, sB, sC]
 refine tk 4 gf12o_4 (.pointer (some ⟨nb, 4, none⟩)) rfl (by kernel_rfl) hH0 rfl (fun w0 hSw => ?_) ?_
 ·(unfold gf12o_4; clear hSw; go_simp)
 simp only [gf12o_4, Act.put, sA, sB, sC]
 refine tk 6 gf12o_6 (.pointer (some ⟨nb, 5, none⟩)) rfl (by kernel_rfl) hH0 rfl (fun w0 hSw => ?_) ?_
 ·(unfold gf12o_6; clear hSw; go_simp)
 simp only [gf12o_6, Act.put, sA, sB, sC]
 refine tk 8 gf12o_8 (.pointer (some ⟨nb, 1, none⟩)) rfl (by kernel_rfl) hH0 rfl (fun w0 hSw => ?_) ?_
 ·(unfold gf12o_8; clear hSw; go_simp)
 simp only [gf12o_8, Act.put, sA, sB, sC]
 refine tk 1 gf12o_1 (.slice (some ⟨B 2, 0, none⟩) (cnt 2) (cnt 2)) rfl (by kernel_rfl) hH0 rfl (fun w0 hSw => ?_) ?_
 ·(unfold gf12o_1; have hS : W.grownBy w0 (some rb) := hSw; have a0 := hS.cell n2 (fun e => ne1 (Option.some.inj e)); clear hS hSw; go_simp)
 simp only [gf12o_1, Act.put, sA, sB, sC]
 refine tk 3 gf12o_3 (.slice (some ⟨B 3, 0, none⟩) (cnt 3) (cnt 3)) rfl (by kernel_rfl) hH0 rfl (fun w0 hSw => ?_) ?_
 ·(unfold gf12o_3; have hS : W.grownBy w0 (some rb) := hSw; have a0 := hS.cell n3 (fun e => ne1 (Option.some.inj e)); clear hS hSw; go_simp)
 simp only [gf12o_3, Act.put, sA, sB, sC]
 refine tk 5 gf12o_5 (.slice (some ⟨B 4, 0, none⟩) (cnt 4) (cnt 4)) rfl (by kernel_rfl) hH0 rfl (fun w0 hSw => ?_) ?_
 ·(unfold gf12o_5; have hS : W.grownBy w0 (some rb) := hSw; have a0 := hS.cell n4 (fun e => ne1 (Option.some.inj e)); clear hS hSw; go_simp)
 simp only [gf12o_5, Act.put, sA, sB, sC]
 refine tk 7 gf12o_7 (.slice (some ⟨B 5, 0, none⟩) (cnt 5) (cnt 5)) rfl (by kernel_rfl) hH0 rfl (fun w0 hSw => ?_) ?_
 ·(unfold gf12o_7; have hS : W.grownBy w0 (some rb) := hSw; have a0 := hS.cell n5 (fun e => ne1 (Option.some.inj e)); clear hS hSw; go_simp)
 simp only [gf12o_7, Act.put, sA, sB, sC]
 refine tk 9 gf12o_9 (.slice (some ⟨B 1, 0, none⟩) (cnt 1) (cnt 1)) rfl (by kernel_rfl) hH0 rfl (fun w0 hSw => ?_) ?_
 ·(unfold gf12o_9; have hS : W.grownBy w0 (some rb) := hSw; have a0 := hS.cell n1 (fun e => ne1 (Option.some.inj e)); clear hS hSw; go_simp)
 simp only [gf12o_9, Act.put, sA, sB, sC]
 refine tk 10 gf12o_10 (.pointer (some ⟨B 1, 0, none⟩)) rfl (by kernel_rfl) hH0 rfl (fun w0 hSw => ?_) ?_
 ·(unfold gf12o_10; clear hSw; go_simp)
 simp only [gf12o_10, Act.put, sA, sB, sC]
 refine tk 11 gf12o_11 (.agg #[.int .u64 c.x0, .int .u64 c.x1, .int .u64 c.x2, .int .u64 c.x3]) rfl (by kernel_rfl) hH0 rfl (fun w0 hSw => ?_) ?_
 ·(unfold gf12o_11; have hS : W.grownBy w0 (some rb) := hSw; have a0 := hS.cell c0 (fun e => ne2 (Option.some.inj e)); have a1 := hS.cell c1 (fun e => ne2 (Option.some.inj e)); have a2 := hS.cell c2 (fun e => ne2 (Option.some.inj e)); have a3 := hS.cell c3 (fun e => ne2 (Option.some.inj e)); clear hS hSw; go_simp)
 simp only [gf12o_11, Act.put, sA, sB, sC]
 refine tk 12 gf12o_12 (.agg #[.slice (some ⟨B 2, 0, none⟩) (cnt 2) (cnt 2), .slice (some ⟨B 3, 0, none⟩) (cnt 3) (cnt 3), .slice (some ⟨B 4, 0, none⟩) (cnt 4) (cnt 4), .slice (some ⟨B 5, 0, none⟩) (cnt 5) (cnt 5), .int .u64 c.x0, .int .u64 c.x1, .int .u64 c.x2, .int .u64 c.x3]) rfl (by kernel_rfl) hH0 rfl (fun w0 hSw => ?_) ?_
 ·(unfold gf12o_12; clear hSw; go_simp)
 simp only [gf12o_12, Act.put, sA, sB, sC]
 refine wpAnyH_ready (rs := [13]) (by kernel_rfl) (by simp) ?_
 refine AllReadyH.cons (o := gf12o_13) rfl (fun K hK => ?_) AllReadyH.nil
 unfold gf12o_13
 have HH := hidden hH0
 clear hH0
 refine wp_storeE 34 _ _ rfl rb 0 ([.slice (some ⟨B 2, 0, none⟩) (cnt 2) (cnt 2), .slice (some ⟨B 3, 0, none⟩) (cnt 3) (cnt 3), .slice (some ⟨B 4, 0, none⟩) (cnt 4) (cnt 4), .slice (some ⟨B 5, 0, none⟩) (cnt 5) (cnt 5), .int .u64 c.x0, .int .u64 c.x1, .int .u64 c.x2, .int .u64 c.x3]) (by rfl) (by rfl) (there_bl th BB.out) i8w (by simp [Value.oneCell']) rfl (fun wn1 hw => ?_)
 have SN := hidden (HH.out.trans (gb_setCells rb [.slice (some ⟨B 2, 0, none⟩) (cnt 2) (cnt 2), .slice (some ⟨B 3, 0, none⟩) (cnt 3) (cnt 3), .slice (some ⟨B 4, 0, none⟩) (cnt 4) (cnt 4), .slice (some ⟨B 5, 0, none⟩) (cnt 5) (cnt 5), .int .u64 c.x0, .int .u64 c.x1, .int .u64 c.x2, .int .u64 c.x3] 0 _))
 have FE := hidden ((⟨_, BB.out, hw⟩ : ∃ wy, Below W.heap.size W wy ∧ _ = wy.setCells rb 0 [.slice (some ⟨B 2, 0, none⟩) (cnt 2) (cnt 2), .slice (some ⟨B 3, 0, none⟩) (cnt 3) (cnt 3), .slice (some ⟨B 4, 0, none⟩) (cnt 4) (cnt 4), .slice (some ⟨B 5, 0, none⟩) (cnt 5) (cnt 5), .int .u64 c.x0, .int .u64 c.x1, .int .u64 c.x2, .int .u64 c.x3]))
 rw [← hw] at SN
 clear HH hw
 refine hK.out _ _ SN.out (fun hH1 => ?_)
 clear hK K SN
 refine tk 14 gf12o_14 (.int .i64 0) rfl (by kernel_rfl) hH1 rfl (fun w0 hSw => ?_) ?_
 ·(unfold gf12o_14; clear hSw; go_simp)
 simp only [gf12o_14, Act.put, sA, sB, sC]
 have HH := hidden hH1
 have FQ := hidden (HQ.out _ FE.out)
 refine wpAnyH_done (by kernel_rfl) ?_ _
 refine NoPanic.normal ?_
 exact FQ.out
def vlv (val : Nat → Nat → Int) : List Tm → Int
 | [] => 0
 | x :: X => x.2 * val x.1.1.toNat x.1.2.toNat + vlv val X
theorem tot_shift (h : Nat → Int) (n : Nat) : tot h (n + 1) = h 0 + tot (fun i => h (i + 1)) n := by
 induction n with
 | zero => show 0 + h 0 = h 0 + 0; omega
 | succ n ih => show tot h (n + 1) + h (n + 1) = h 0 + (tot (fun i => h (i + 1)) n + h (n + 1)); rw [ih]; omega
theorem tq_cons (x : Tm) (X : List Tm) (val : Nat → Nat → Int) : tot (tq (ft (x :: X)) val) (x :: X).length = tq (ft (x :: X)) val 0 + tot (tq (ft X) val) X.length := by
 show tot _ (X.length + 1) = _
 rw [tot_shift]
 rfl
theorem tq_vlv (val : Nat → Nat → Int) : ∀ X : List Tm, tot (tq (ft X) val) X.length % Sm.L = vlv val X % Sm.L
 | [] => rfl
 | x :: X => by
  rw [tq_cons, Int.add_emod, tq_vlv val X, ← Int.add_emod]
  show ((lst x.2).n * _ + vlv val X) % _ = (x.2 * _ + vlv val X) % _
  rw [Int.add_emod, Int.mul_emod, lst_n, emod_emod_L, ← Int.mul_emod, ← Int.add_emod]
  rfl
def zq (z : Int) (val : Nat → Nat → Int) (Q : List (List Tm)) (i : Nat) : Int := tot (fun q => z ^ (q + 1) * vlv val (Q.getD q [])) i
structure Flz (w : World) (m Kg b nb pb : Nat) (z : E4) (g : Nat → Nat → E4) (p : E4) (x : World) : Prop where
 bel : Below w.heap.size w x
 zn : Zn w.heap.size (cn m Kg) (fun k => b + k) g x
 zc : x.rangeAt w.heap.size 0 [.int .u64 z.x0, .int .u64 z.x1, .int .u64 z.x2, .int .u64 z.x3]
 nc : ∀ k, k < 6 → x.cell? ⟨nb, k, none⟩ = some (.slice (some ⟨b + k, 0, none⟩) (cn m Kg k) (cn m Kg k))
 rt : x.there (w.heap.size + 1) 0 8
 rz : x.rangeAt (w.heap.size + 1) 0 [.slice none 0 0, .slice none 0 0, .slice none 0 0, .slice none 0 0, .int .u64 0, .int .u64 0, .int .u64 0, .int .u64 0]
 pr : x.rangeAt pb 0 [.int .u64 p.x0, .int .u64 p.x1, .int .u64 p.x2, .int .u64 p.x3]
 pt : x.there pb 0 4
 s1 : w.heap.size + 2 ≤ b
 s2 : b + 6 ≤ nb
 s3 : nb + 1 = pb
section
variable {w : World} {m Kg b nb pb : Nat} {z : E4} {g g' : Nat → Nat → E4} {p p' : E4} {x y : World}
theorem Flz.keep (h : Flz w m Kg b nb pb z g p x) (hb : Below x.heap.size x y) : Flz w m Kg b nb pb z g p y :=
 ⟨bl_trans h.bel hb, h.zn.keep hb, range_bl h.zc hb, fun k hk => cell_keep (h.nc k hk) hb, there_bl h.rt hb, range_bl h.rz hb, range_bl h.pr hb, there_bl h.pt hb, h.s1, h.s2, h.s3⟩
theorem Flz.kz (h : Flz w m Kg b nb pb z g p x) (hk : Kz (fun k => b + k) x y) (hz : Zn w.heap.size (cn m Kg) (fun k => b + k) g' y) : Flz w m Kg b nb pb z g' p y := by
 have s1 := h.s1
 have s2 := h.s2
 have s3 := h.s3
 have lo : ∀ a, a < b → ∀ k, k < 6 → a ≠ b + k := fun a ha k hk => by omega
 have hi : ∀ a, b + 6 ≤ a → ∀ k, k < 6 → a ≠ b + k := fun a ha k hk => by omega
 exact ⟨below_tr h.bel (hk.bel h.bel.size (fun k hk => by omega)), hz, hk.range h.zc (lo _ (by omega)), fun k hk2 => hk.cell (h.nc k hk2) (hi _ (by show b + 6 ≤ nb; omega)), hk.there h.rt (lo _ (by omega)), hk.range h.rz (lo _ (by omega)), hk.range h.pr (hi _ (by omega)), hk.there h.pt (hi _ (by omega)), s1, s2, s3⟩
theorem Flz.pow (h : Flz w m Kg b nb pb z g p x) : Flz w m Kg b nb pb z g p' (x.setCells pb 0 [.int .u64 p'.x0, .int .u64 p'.x1, .int .u64 p'.x2, .int .u64 p'.x3]) := by
 have s1 := h.s1
 have s2 := h.s2
 have s3 := h.s3
 have hg := gb_setCells pb [.int .u64 p'.x0, .int .u64 p'.x1, .int .u64 p'.x2, .int .u64 p'.x3] 0 x
 have rg : ∀ {a o : Nat} {cs : List Value}, a ≠ pb → x.rangeAt a o cs → (x.setCells pb 0 [.int .u64 p'.x0, .int .u64 p'.x1, .int .u64 p'.x2, .int .u64 p'.x3]).rangeAt a o cs := fun ha hr j u hu => hg.cell (hr j u hu) (fun e => ha (Option.some.inj e))
 exact ⟨h.bel.grown hg h.bel.size (fun j hj => by have := Option.some.inj hj; omega), ⟨fun k hk => (h.zn.rm k hk).far hg (by omega), h.zn.dj, h.zn.lo, h.zn.ok⟩, rg (by omega) h.zc, fun k hk => hg.cell (h.nc k hk) (fun e => by have := Option.some.inj e; simp only at this; omega), there_gb' h.rt hg (by omega), rg (by omega) h.rz, World.rangeAt_setCells_same x pb 0 _ h.pt, there_set h.pt _ 0 _, s1, s2, s3⟩
end
theorem nz_of_hs {m Kg : Nat} {q : Wr} (h : hs m Kg q = true) : Nz (cn m Kg) q := by
 unfold hs at h
 simp only [Bool.and_eq_true, decide_eq_true_eq] at h
 obtain ⟨h1, h2, h3, h4⟩ := h
 exact ⟨by omega, h2, h3, by rw [cn_ct]; exact h4⟩
theorem DD6 (m Kg : Nat) (g : Nat → Nat → E4) (val : Nat → Nat → Int) : DD (cn m Kg) g val = (g 1 0).n * val 1 0 + D1 Kg (g 2) (val 2) + D1 Kg (g 3) (val 3) + D1 Kg (g 4) (val 4) + D1 m (g 5) (val 5) := by
 show 0 + D1 0 (g 0) (val 0) + D1 1 (g 1) (val 1) + D1 Kg (g 2) (val 2) + D1 Kg (g 3) (val 3) + D1 Kg (g 4) (val 4) + D1 m (g 5) (val 5) = _
 show 0 + 0 + (0 + (g 1 0).n * val 1 0) + _ + _ + _ + _ = _
 omega
theorem DD_0 (cnt : Nat → Nat) (val : Nat → Nat → Int) : DD cnt (fun _ _ => ⟨0, 0, 0, 0⟩) val = 0 := by
 have e0 : (⟨0, 0, 0, 0⟩ : E4).n = 0 := by decide
 have h1 : ∀ n v, D1 n (fun _ => (⟨0, 0, 0, 0⟩ : E4)) v = 0 := fun n v => by
  unfold D1
  simp only [e0, Int.zero_mul]
  exact tot_zero n
 unfold DD
 simp only [h1]
 exact tot_zero 6
theorem D1_neg {n : Nat} {u u' : Nat → E4} {v : Nat → Int} (h : ∀ i, i < n → (u' i).n % Sm.L = (-(u i).n) % Sm.L) : D1 n u' v % Sm.L = (-D1 n u v) % Sm.L := by
 unfold D1
 have e : -tot (fun i => (u i).n * v i) n = tot (fun i => -1 * ((u i).n * v i)) n := by rw [tot_mul]; omega
 rw [e]
 refine tot_mod (fun i hi => ?_)
 rw [Int.mul_emod, h i hi, ← Int.mul_emod]
 congr 1
 rw [Int.neg_mul]; omega
theorem comb {A B C D E D' E' : Int} (hD : D % Sm.L = (-D') % Sm.L) (hE : E % Sm.L = (-E') % Sm.L) : (A + B + C - D - E) % Sm.L = (E' + A + B + C + D') % Sm.L := by
 unfold Sm.L at *
 omega
theorem turned {m Kg : Nat} {g : Nat → Nat → E4} {val : Nat → Nat → Int} {T : Int} (h : DD (cn m Kg) g val % Sm.L = T % Sm.L) :
  (D1 Kg (tn (tn g 5 m) 1 1 2) (val 2) + D1 Kg (tn (tn g 5 m) 1 1 3) (val 3) + D1 Kg (tn (tn g 5 m) 1 1 4) (val 4) - D1 m (tn (tn g 5 m) 1 1 5) (val 5) - (tn (tn g 5 m) 1 1 1 0).n * val 1 0) % Sm.L = T % Sm.L := by
 rw [← h, DD6]
 have e2 : tn (tn g 5 m) 1 1 2 = g 2 := by funext b; rfl
 have e3 : tn (tn g 5 m) 1 1 3 = g 3 := by funext b; rfl
 have e4 : tn (tn g 5 m) 1 1 4 = g 4 := by funext b; rfl
 have h5 : D1 m (tn (tn g 5 m) 1 1 5) (val 5) % Sm.L = (-D1 m (g 5) (val 5)) % Sm.L := D1_neg (fun i hi => by
  have : tn (tn g 5 m) 1 1 5 i = lst (-(g 5 i).n) := by
   show (if i < m then lst (-(g 5 i).n) else g 5 i) = _
   rw [if_pos hi]
  rw [this, lst_n, emod_emod_L])
 have h1 : ((tn (tn g 5 m) 1 1 1 0).n * val 1 0) % Sm.L = (-((g 1 0).n * val 1 0)) % Sm.L := by
  have : tn (tn g 5 m) 1 1 1 0 = lst (-(g 1 0).n) := rfl
  rw [this, Int.mul_emod, lst_n, emod_emod_L, ← Int.mul_emod, Int.neg_mul]
 rw [e2, e3, e4]
 exact comb h5 h1
set_option maxHeartbeats 16000000 in
theorem Flatten_any {base : Nat} {w : World} {s m Kg : Nat} {vv : Value} {vs : List Value} {Q : List (List Tm)} (h : Sy base w s m Kg vv vs Q) (hW : Wk m Kg Q) (hm : m ≤ 4096) (hT : Tb w) (z : E4) (hz : z.ok) :
  Calls Tryd.prog 7 #[.pointer (some ⟨s, 0, none⟩), .agg #[.int .u64 z.x0, .int .u64 z.x1, .int .u64 z.x2, .int .u64 z.x3]] w fun e w' => ∃ (a b c d : Sl) (C : E4), e = .returned (.tuple #[.agg #[.slice a.p a.n a.c, .slice b.p b.n b.c, .slice c.p c.n c.c, .slice d.p d.n d.c, .int .u64 C.x0, .int .u64 C.x1, .int .u64 C.x2, .int .u64 C.x3], .int .i64 0]) ∧ (a.at w' ∧ b.at w' ∧ c.at w' ∧ d.at w' ∧ C.ok) ∧ (a.n = Kg ∧ b.n = Kg ∧ c.n = Kg ∧ d.n = m) ∧ Below w.heap.size w w' ∧ ∀ val : Nat → Nat → Int, (D1 Kg a.g (val 2) + D1 Kg b.g (val 3) + D1 Kg c.g (val 4) - D1 m d.g (val 5) - C.n * val 1 0) % Sm.L = zq z.n val Q Q.length % Sm.L := by
 have b2 : Below w.heap.size w ((w.alloc (.cells #[.int .u64 z.x0, .int .u64 z.x1, .int .u64 z.x2, .int .u64 z.x3] 26)).alloc (.cells #[.slice none 0 0, .slice none 0 0, .slice none 0 0, .slice none 0 0, .int .u64 0, .int .u64 0, .int .u64 0, .int .u64 0] 34)) := bl_alloc2 w (.cells #[.int .u64 z.x0, .int .u64 z.x1, .int .u64 z.x2, .int .u64 z.x3] 26) (.cells #[.slice none 0 0, .slice none 0 0, .slice none 0 0, .slice none 0 0, .int .u64 0, .int .u64 0, .int .u64 0, .int .u64 0] 34)
 have C0 := hidden (none_any (h.keep b2))
 have CZ := hidden (zeros_any (h.keep b2) hW.k hm)
 have CI := hidden (fun y => fix (Int_any 1 y (by unfold Sm.Wd; omega)) rfl)
 simp only [E4.v] at CI
 have r0 : Hid (((w.alloc (.cells #[.int .u64 z.x0, .int .u64 z.x1, .int .u64 z.x2, .int .u64 z.x3] 26)).alloc (.cells #[.slice none 0 0, .slice none 0 0, .slice none 0 0, .slice none 0 0, .int .u64 0, .int .u64 0, .int .u64 0, .int .u64 0] 34)).there (w.heap.size + 1) 0 8) := hidden (by
  have := there_newM (w.alloc (.cells #[.int .u64 z.x0, .int .u64 z.x1, .int .u64 z.x2, .int .u64 z.x3] 26)) [.slice none 0 0, .slice none 0 0, .slice none 0 0, .slice none 0 0, .int .u64 0, .int .u64 0, .int .u64 0, .int .u64 0] 34
  simpa [World.size_alloc] using this)
 have r1 : Hid (((w.alloc (.cells #[.int .u64 z.x0, .int .u64 z.x1, .int .u64 z.x2, .int .u64 z.x3] 26)).alloc (.cells #[.slice none 0 0, .slice none 0 0, .slice none 0 0, .slice none 0 0, .int .u64 0, .int .u64 0, .int .u64 0, .int .u64 0] 34)).rangeAt (w.heap.size + 1) 0 [.slice none 0 0, .slice none 0 0, .slice none 0 0, .slice none 0 0, .int .u64 0, .int .u64 0, .int .u64 0, .int .u64 0]) := hidden (by
  have := range_newM (w.alloc (.cells #[.int .u64 z.x0, .int .u64 z.x1, .int .u64 z.x2, .int .u64 z.x3] 26)) [.slice none 0 0, .slice none 0 0, .slice none 0 0, .slice none 0 0, .int .u64 0, .int .u64 0, .int .u64 0, .int .u64 0] 34
  simpa [World.size_alloc] using this)
 have z1 : Hid (((w.alloc (.cells #[.int .u64 z.x0, .int .u64 z.x1, .int .u64 z.x2, .int .u64 z.x3] 26)).alloc (.cells #[.slice none 0 0, .slice none 0 0, .slice none 0 0, .slice none 0 0, .int .u64 0, .int .u64 0, .int .u64 0, .int .u64 0] 34)).rangeAt w.heap.size 0 [.int .u64 z.x0, .int .u64 z.x1, .int .u64 z.x2, .int .u64 z.x3]) := hidden (range_bl (range_newM w [.int .u64 z.x0, .int .u64 z.x1, .int .u64 z.x2, .int .u64 z.x3] 26) (bl_alloc _ _))
 have SZ : Hid (((w.alloc (.cells #[.int .u64 z.x0, .int .u64 z.x1, .int .u64 z.x2, .int .u64 z.x3] 26)).alloc (.cells #[.slice none 0 0, .slice none 0 0, .slice none 0 0, .slice none 0 0, .int .u64 0, .int .u64 0, .int .u64 0, .int .u64 0] 34)).heap.size = w.heap.size + 1 + 1) := hidden (by simp only [World.size_alloc])
 have HB := hidden b2
 have HH := hidden h
 have HW := hidden hW
 have HT := hidden hT
 have HZ := hidden hz
 have HM := hidden hm
 obtain ⟨PQ, cQ, rfl, _, hG⟩ := h.shape
 have HG := hidden hG
 have lc2 := h.c2
 clear b2 h hW hT hz hm hG
 go_enter Tryd.func7, Tryd.ntmps7
 go_upto_region 1 with fail
 generalize ((w.alloc (.cells #[.int .u64 z.x0, .int .u64 z.x1, .int .u64 z.x2, .int .u64 z.x3] 26)).alloc (.cells #[.slice none 0 0, .slice none 0 0, .slice none 0 0, .slice none 0 0, .int .u64 0, .int .u64 0, .int .u64 0, .int .u64 0] 34)) = w2 at *
 go_upto_region 3 with (go_at_call 32; refine C0.out.mono ?_; rintro e w1 ⟨rfl, rfl⟩)
 clear C0
 go_upto_region 4 with (first | (go_at_call 33; refine CZ.out.mono ?_; rintro e w3 ⟨b, rfl, hb1, hz1, hb3⟩; have B3 := hidden hb3; have Z3 := hidden hz1; have S3 := hidden hb1; clear hb3 hz1 hb1 CZ) | (go_at_call 10; refine (CI.out _).mono ?_; rintro e w4 ⟨rfl, hb4⟩; have B4 := hidden hb4; clear hb4 CI))
 have B24 := hidden (bl_trans B3.out B4.out)
 have b5 : Below w4.heap.size w4 ((w4.alloc (.cells #[.slice (some ⟨b + 0, 0, none⟩) (cn m Kg 0) (cn m Kg 0), .slice (some ⟨b + 1, 0, none⟩) (cn m Kg 1) (cn m Kg 1), .slice (some ⟨b + 2, 0, none⟩) (cn m Kg 2) (cn m Kg 2), .slice (some ⟨b + 3, 0, none⟩) (cn m Kg 3) (cn m Kg 3), .slice (some ⟨b + 4, 0, none⟩) (cn m Kg 4) (cn m Kg 4), .slice (some ⟨b + 5, 0, none⟩) (cn m Kg 5) (cn m Kg 5)] 69)).alloc (.cells #[.int .u64 (lst 1).x0, .int .u64 (lst 1).x1, .int .u64 (lst 1).x2, .int .u64 (lst 1).x3] 26)) := bl_alloc2 w4 (.cells #[.slice (some ⟨b + 0, 0, none⟩) (cn m Kg 0) (cn m Kg 0), .slice (some ⟨b + 1, 0, none⟩) (cn m Kg 1) (cn m Kg 1), .slice (some ⟨b + 2, 0, none⟩) (cn m Kg 2) (cn m Kg 2), .slice (some ⟨b + 3, 0, none⟩) (cn m Kg 3) (cn m Kg 3), .slice (some ⟨b + 4, 0, none⟩) (cn m Kg 4) (cn m Kg 4), .slice (some ⟨b + 5, 0, none⟩) (cn m Kg 5) (cn m Kg 5)] 69) (.cells #[.int .u64 (lst 1).x0, .int .u64 (lst 1).x1, .int .u64 (lst 1).x2, .int .u64 (lst 1).x3] 26)
 have F5 : Hid (Flz w m Kg b w4.heap.size (w4.heap.size + 1) z (fun _ _ => ⟨0, 0, 0, 0⟩) (lst 1) ((w4.alloc (.cells #[.slice (some ⟨b + 0, 0, none⟩) (cn m Kg 0) (cn m Kg 0), .slice (some ⟨b + 1, 0, none⟩) (cn m Kg 1) (cn m Kg 1), .slice (some ⟨b + 2, 0, none⟩) (cn m Kg 2) (cn m Kg 2), .slice (some ⟨b + 3, 0, none⟩) (cn m Kg 3) (cn m Kg 3), .slice (some ⟨b + 4, 0, none⟩) (cn m Kg 4) (cn m Kg 4), .slice (some ⟨b + 5, 0, none⟩) (cn m Kg 5) (cn m Kg 5)] 69)).alloc (.cells #[.int .u64 (lst 1).x0, .int .u64 (lst 1).x1, .int .u64 (lst 1).x2, .int .u64 (lst 1).x3] 26))) := hidden (by
  have sz := SZ.out
  have s3 := S3.out
  have hlt := ((Z3.out.rm 5 (by omega)).keep B4.out).lt
  refine ⟨bl_trans HB.out (bl_trans B24.out b5), ⟨fun k hk => ((Z3.out.rm k hk).keep B4.out).keep b5, Z3.out.dj, fun k hk => by show w.heap.size ≤ b + k; omega, Z3.out.ok⟩, range_bl z1.out (bl_trans B24.out b5), fun k hk => ?_, there_bl r0.out (bl_trans B24.out b5), range_bl r1.out (bl_trans B24.out b5), ?_, ?_, by omega, by omega, rfl⟩
  ·have := range_bl (range_newM w4 [.slice (some ⟨b + 0, 0, none⟩) (cn m Kg 0) (cn m Kg 0), .slice (some ⟨b + 1, 0, none⟩) (cn m Kg 1) (cn m Kg 1), .slice (some ⟨b + 2, 0, none⟩) (cn m Kg 2) (cn m Kg 2), .slice (some ⟨b + 3, 0, none⟩) (cn m Kg 3) (cn m Kg 3), .slice (some ⟨b + 4, 0, none⟩) (cn m Kg 4) (cn m Kg 4), .slice (some ⟨b + 5, 0, none⟩) (cn m Kg 5) (cn m Kg 5)] 69) (bl_alloc _ (.cells #[.int .u64 (lst 1).x0, .int .u64 (lst 1).x1, .int .u64 (lst 1).x2, .int .u64 (lst 1).x3] 26)) k (.slice (some ⟨b + k, 0, none⟩) (cn m Kg k) (cn m Kg k)) (by match k, hk with | 0, _ => rfl | 1, _ => rfl | 2, _ => rfl | 3, _ => rfl | 4, _ => rfl | 5, _ => rfl)
   rwa [Nat.zero_add] at this
  ·have := range_newM (w4.alloc (.cells #[.slice (some ⟨b + 0, 0, none⟩) (cn m Kg 0) (cn m Kg 0), .slice (some ⟨b + 1, 0, none⟩) (cn m Kg 1) (cn m Kg 1), .slice (some ⟨b + 2, 0, none⟩) (cn m Kg 2) (cn m Kg 2), .slice (some ⟨b + 3, 0, none⟩) (cn m Kg 3) (cn m Kg 3), .slice (some ⟨b + 4, 0, none⟩) (cn m Kg 4) (cn m Kg 4), .slice (some ⟨b + 5, 0, none⟩) (cn m Kg 5) (cn m Kg 5)] 69)) [.int .u64 (lst 1).x0, .int .u64 (lst 1).x1, .int .u64 (lst 1).x2, .int .u64 (lst 1).x3] 26
   simpa [World.size_alloc] using this
  ·have := there_newM (w4.alloc (.cells #[.slice (some ⟨b + 0, 0, none⟩) (cn m Kg 0) (cn m Kg 0), .slice (some ⟨b + 1, 0, none⟩) (cn m Kg 1) (cn m Kg 1), .slice (some ⟨b + 2, 0, none⟩) (cn m Kg 2) (cn m Kg 2), .slice (some ⟨b + 3, 0, none⟩) (cn m Kg 3) (cn m Kg 3), .slice (some ⟨b + 4, 0, none⟩) (cn m Kg 4) (cn m Kg 4), .slice (some ⟨b + 5, 0, none⟩) (cn m Kg 5) (cn m Kg 5)] 69)) [.int .u64 (lst 1).x0, .int .u64 (lst 1).x1, .int .u64 (lst 1).x2, .int .u64 (lst 1).x3] 26
   simpa [World.size_alloc] using this)
 clear b5 B3 B4 Z3 S3 r0 r1 z1 B24 HB
 generalize ((w4.alloc (.cells #[.slice (some ⟨b + 0, 0, none⟩) (cn m Kg 0) (cn m Kg 0), .slice (some ⟨b + 1, 0, none⟩) (cn m Kg 1) (cn m Kg 1), .slice (some ⟨b + 2, 0, none⟩) (cn m Kg 2) (cn m Kg 2), .slice (some ⟨b + 3, 0, none⟩) (cn m Kg 3) (cn m Kg 3), .slice (some ⟨b + 4, 0, none⟩) (cn m Kg 4) (cn m Kg 4), .slice (some ⟨b + 5, 0, none⟩) (cn m Kg 5) (cn m Kg 5)] 69)).alloc (.cells #[.int .u64 (lst 1).x0, .int .u64 (lst 1).x1, .int .u64 (lst 1).x2, .int .u64 (lst 1).x3] 26)) = w5 at *
 generalize w4.heap.size = nb at *
 have lc5 := cell_keep lc2 F5.out.bel
 have qn : Hid (Q.length ≤ 4096) := hidden HW.out.q
 go_upto_region 5 with fail
 clear lc5 lc2
 go_loopw [21] (fun iv x => ∃ (i : Nat) (g : Nat → Nat → E4) (p : E4), i ≤ Q.length ∧ iv = .int .i64 (i : Int) ∧ Hid (Flz w m Kg b nb (nb + 1) z g p x ∧ p.ok ∧ p.n % Sm.L = z.n ^ i % Sm.L ∧ ∀ val, DD (cn m Kg) g val % Sm.L = zq z.n val Q i % Sm.L)) (fun i _ => Q.length - (intOf i).toNat)
 case atStart => exact ⟨0, _, _, by omega, rfl, hidden ⟨F5.out, lst_ok _, by rw [lst_n, emod_emod_L, Int.pow_zero], fun val => by rw [DD_0]; rfl⟩⟩
 case round =>
  clear F5
  obtain ⟨i, g, p, hi, rfl, hS⟩ := hrel
  by_cases hin : i < Q.length
  ·have i1 : (i : Int) < (Q.length : Int) := by omega
   have i0 : (0 : Int) ≤ (i : Int) := by omega
   have w9 : IntKind.i64.wrap ((i : Int) + 1) = (i : Int) + 1 := IntWalk.i64_in _ (by have := qn.out; omega)
   obtain ⟨G, rfl⟩ := HG.out (by omega)
   obtain ⟨X, hX⟩ : ∃ X, Q[i]? = some X := ⟨Q[i], by simp [hin]⟩
   obtain ⟨u, hu, hown⟩ := HH.out.ls i X hX
   obtain ⟨PX, cX, rfl, _⟩ := own_shT hown
   have cc := HH.out.row.cells (g := G) rfl i _ hu
   rw [Addr.add_mid, Nat.zero_add] at cc
   have gc := cell_keep cc hS.out.1.bel
   have LX := hidden (own_lts hown)
   have mX := hidden (List.mem_of_getElem? hX)
   have HX := hidden hX
   clear cc hown hu hX
   go_upto_region 7 with fail
   clear gc
   have p0 : wr.cell? ⟨nb + 1, 0, none⟩ = some (.int .u64 p.x0) := hS.out.1.pr 0 _ rfl
   have p1 : wr.cell? ⟨nb + 1, 1, none⟩ = some (.int .u64 p.x1) := hS.out.1.pr 1 _ rfl
   have p2 : wr.cell? ⟨nb + 1, 2, none⟩ = some (.int .u64 p.x2) := hS.out.1.pr 2 _ rfl
   have p3 : wr.cell? ⟨nb + 1, 3, none⟩ = some (.int .u64 p.x3) := hS.out.1.pr 3 _ rfl
   have z0 : wr.cell? ⟨w.heap.size, 0, none⟩ = some (.int .u64 z.x0) := hS.out.1.zc 0 _ rfl
   have z1 : wr.cell? ⟨w.heap.size, 1, none⟩ = some (.int .u64 z.x1) := hS.out.1.zc 1 _ rfl
   have z2 : wr.cell? ⟨w.heap.size, 2, none⟩ = some (.int .u64 z.x2) := hS.out.1.zc 2 _ rfl
   have z3 : wr.cell? ⟨w.heap.size, 3, none⟩ = some (.int .u64 z.x3) := hS.out.1.zc 3 _ rfl
   have CM := fix (R := lst (p.n * z.n)) (Mul_any p z wr (HT.out.keep hS.out.1.bel) hS.out.2.1 HZ.out) rfl
   simp only [E4.v] at CM
   replace CM := hidden CM
   generalize hp' : lst (p.n * z.n) = p' at *
   have HP := hidden hp'
   clear hp'
   go_upto_region 8 with (go_at_call 14; refine CM.out.mono ?_; rintro e w6 ⟨rfl, hb6⟩; have F6 := hidden (hS.out.1.keep hb6); clear hb6 CM; have q0 : w6.cell? ⟨nb + 1, 0, none⟩ = some (.int .u64 p.x0) := F6.out.pr 0 _ rfl; have q1 : w6.cell? ⟨nb + 1, 1, none⟩ = some (.int .u64 p.x1) := F6.out.pr 1 _ rfl; have q2 : w6.cell? ⟨nb + 1, 2, none⟩ = some (.int .u64 p.x2) := F6.out.pr 2 _ rfl; have q3 : w6.cell? ⟨nb + 1, 3, none⟩ = some (.int .u64 p.x3) := F6.out.pr 3 _ rfl; have f0 := (F6.out.pt 0 (by omega)).2; have f1 := (F6.out.pt 1 (by omega)).2; have f2 := (F6.out.pt 2 (by omega)).2; have f3 := (F6.out.pt 3 (by omega)).2; simp only [Nat.zero_add] at f0 f1 f2 f3)
   have F7 : Hid (Flz w m Kg b nb (nb + 1) z g p' ((((w6.setCell ⟨nb + 1, 0, none⟩ (.int .u64 p'.x0)).setCell ⟨nb + 1, 1, none⟩ (.int .u64 p'.x1)).setCell ⟨nb + 1, 2, none⟩ (.int .u64 p'.x2)).setCell ⟨nb + 1, 3, none⟩ (.int .u64 p'.x3))) := hidden (F6.out.pow (p' := p'))
   clear q0 q1 q2 q3 f0 f1 f2 f3 F6 p0 p1 p2 p3 z0 z1 z2 z3
   generalize ((((w6.setCell ⟨nb + 1, 0, none⟩ (.int .u64 p'.x0)).setCell ⟨nb + 1, 1, none⟩ (.int .u64 p'.x1)).setCell ⟨nb + 1, 2, none⟩ (.int .u64 p'.x2)).setCell ⟨nb + 1, 3, none⟩ (.int .u64 p'.x3)) = w7 at *
   have n0 := F7.out.nc 0 (by omega)
   have n1 := F7.out.nc 1 (by omega)
   have n2 := F7.out.nc 2 (by omega)
   have n3 := F7.out.nc 3 (by omega)
   have n4 := F7.out.nc 4 (by omega)
   have n5 := F7.out.nc 5 (by omega)
   have k0 : w7.cell? ⟨nb + 1, 0, none⟩ = some (.int .u64 p'.x0) := F7.out.pr 0 _ rfl
   have k1 : w7.cell? ⟨nb + 1, 1, none⟩ = some (.int .u64 p'.x1) := F7.out.pr 1 _ rfl
   have k2 : w7.cell? ⟨nb + 1, 2, none⟩ = some (.int .u64 p'.x2) := F7.out.pr 2 _ rfl
   have k3 : w7.cell? ⟨nb + 1, 3, none⟩ = some (.int .u64 p'.x3) := F7.out.pr 3 _ rfl
   have op : p'.ok := HP.out ▸ lst_ok _
   have CP := hidden (put_any (w0 := w) (w := w7) (cnt := cn m Kg) (B := fun k => b + k) (g := g) HT.out F7.out.bel F7.out.zn p' op PX X.length cX (ft X) (HW.out.ln X mX.out) (fun j hj => lst_ok _) (fun j hj => nz_of_hs (by obtain ⟨x, hx, e⟩ := ft_mem hj; rw [e]; exact HW.out.wr X mX.out x hx)) LX.out)
   go_upto_region 9 with (go_at_call 34; refine CP.out.mono ?_; rintro e w8 ⟨rfl, g', hz8, hk8, hq8⟩; have F8 := hidden (F7.out.kz hk8 hz8); have Q8 := hidden hq8; clear hz8 hk8 hq8 CP)
   have NS : Hid (Flz w m Kg b nb (nb + 1) z g' p' w8 ∧ p'.ok ∧ p'.n % Sm.L = z.n ^ (i + 1) % Sm.L ∧ ∀ val, DD (cn m Kg) g' val % Sm.L = zq z.n val Q (i + 1) % Sm.L) := hidden (by
    have hp : p'.n % Sm.L = z.n ^ (i + 1) % Sm.L := by
     rw [← HP.out, lst_n, emod_emod_L, Int.mul_emod, hS.out.2.2.1, ← Int.mul_emod, Int.pow_succ]
    refine ⟨F8.out, op, hp, fun val => ?_⟩
    rw [Q8.out val, Int.add_emod, hS.out.2.2.2 val, Int.mul_emod, hp, tq_vlv, ← Int.mul_emod, ← Int.add_emod]
    show _ = (zq z.n val Q i + z.n ^ (i + 1) * vlv val (Q.getD i [])) % _
    rw [List.getD_eq_getElem?_getD, HX.out]
    rfl)
   clear F7 F8 Q8 hS n0 n1 n2 n3 n4 n5 k0 k1 k2 k3 LX mX HX HP op
   go_wp2_with fail
   go_roundw
   case rel => exact ⟨i + 1, g', p', by omega, by go_num, NS⟩
   case measure => simp [intOf]; omega
  ·obtain rfl : i = Q.length := by omega
   have lq : ¬ (Q.length : Int) < (Q.length : Int) := by omega
   have DV := hidden hS.out.2.2.2
   have F6 := hidden hS.out.1
   clear hS
   go_upto_region 10 with fail
   have n0 := F6.out.nc 0 (by omega)
   have n1 := F6.out.nc 1 (by omega)
   have n2 := F6.out.nc 2 (by omega)
   have n3 := F6.out.nc 3 (by omega)
   have n4 := F6.out.nc 4 (by omega)
   have n5 := F6.out.nc 5 (by omega)
   have CT := hidden (turn_any (w0 := w) (w := wr) (cnt := cn m Kg) (B := fun k => b + k) (g := g) HT.out F6.out.bel F6.out.zn 5 (by omega) (by show m ≤ _; have := HM.out; omega))
   go_upto_region 11 with (go_at_call 35; refine CT.out.mono ?_; rintro e w8 ⟨rfl, hz8, hk8⟩; have F8 := hidden (F6.out.kz hk8 hz8); clear hz8 hk8 CT)
   clear n0 n1 n2 n3 n4 n5 F6
   have n0 := F8.out.nc 0 (by omega)
   have n1 := F8.out.nc 1 (by omega)
   have n2 := F8.out.nc 2 (by omega)
   have n3 := F8.out.nc 3 (by omega)
   have n4 := F8.out.nc 4 (by omega)
   have n5 := F8.out.nc 5 (by omega)
   have CT := hidden (turn_any (w0 := w) (w := w8) (cnt := cn m Kg) (B := fun k => b + k) (g := tn g 5 m) HT.out F8.out.bel F8.out.zn 1 (by omega) (by show 1 ≤ _; omega))
   go_upto_region 12 with (go_at_call 35; refine CT.out.mono ?_; rintro e w9 ⟨rfl, hz9, hk9⟩; have F9 : Hid (Flz w m Kg b nb (nb + 1) z (tn (tn g 5 m) 1 1) p w9) := hidden (F8.out.kz hk9 hz9); clear hz9 hk9 CT)
   clear n0 n1 n2 n3 n4 n5 F8
   have n0 := F9.out.nc 0 (by omega)
   have n1 := F9.out.nc 1 (by omega)
   have n2 := F9.out.nc 2 (by omega)
   have n3 := F9.out.nc 3 (by omega)
   have n4 := F9.out.nc 4 (by omega)
   have n5 := F9.out.nc 5 (by omega)
   have r1 := (F9.out.zn.rm 1 (by omega)).r
   have c0 : w9.cell? ⟨b + 1, 0, none⟩ = some (.int .u64 (tn (tn g 5 m) 1 1 1 0).x0) := r1.c0 0 (by show 0 < 1; omega)
   have c1 : w9.cell? ⟨b + 1, 1, none⟩ = some (.int .u64 (tn (tn g 5 m) 1 1 1 0).x1) := r1.c1 0 (by show 0 < 1; omega)
   have c2 : w9.cell? ⟨b + 1, 2, none⟩ = some (.int .u64 (tn (tn g 5 m) 1 1 1 0).x2) := r1.c2 0 (by show 0 < 1; omega)
   have c3 : w9.cell? ⟨b + 1, 3, none⟩ = some (.int .u64 (tn (tn g 5 m) 1 1 1 0).x3) := r1.c3 0 (by show 0 < 1; omega)
   have oC : (tn (tn g 5 m) 1 1 1 0).ok := F9.out.zn.ok 1 0 (by omega) (by show 0 < 1; omega)
   have TD := hidden (fun val => turned (DV.out val))
   clear DV r1
   generalize tn (tn g 5 m) 1 1 = g2 at *
   have s1 := F9.out.s1
   have s2 := F9.out.s2
   refine gf12 _ nb (w.heap.size + 1) (cn m Kg) (fun k => b + k) (g2 1 0) _ _ _ _ _ _ _ _ _ _ _ _ _ _ _ _ _ _ _ _ _ _ _ _ _ _ _ _ _ _ _ _ _ _ _ _ _ _ _ _ _ _ _ _ _ _ _ _ w9 (by show (0 : Int) < ((1 : Nat) : Int); omega) (by show ¬ 1 = 0; omega) (by omega) (by show b + 1 ≠ _; omega) F9.out.rt n2 n3 n4 n5 n1 c0 c1 c2 c3 (hidden ?_)
   intro wz hz
   have FE := hidden hz
   clear hz n0 n1 n2 n3 n4 n5 c0 c1 c2 c3
   have BZ : Hid (wz.rangeAt (w.heap.size + 1) 0 [.slice (some ⟨b + 2, 0, none⟩) (cn m Kg 2) (cn m Kg 2), .slice (some ⟨b + 3, 0, none⟩) (cn m Kg 3) (cn m Kg 3), .slice (some ⟨b + 4, 0, none⟩) (cn m Kg 4) (cn m Kg 4), .slice (some ⟨b + 5, 0, none⟩) (cn m Kg 5) (cn m Kg 5), .int .u64 (g2 1 0).x0, .int .u64 (g2 1 0).x1, .int .u64 (g2 1 0).x2, .int .u64 (g2 1 0).x3] ∧ Below w.heap.size w wz ∧ ∀ k, k < 6 → Rm wz (b + k) (cn m Kg k) (g2 k)) := hidden (by
    obtain ⟨wy, hy, rfl⟩ := FE.out
    have F := F9.out.keep hy
    have hg := gb_setCells (w.heap.size + 1) [.slice (some ⟨b + 2, 0, none⟩) (cn m Kg 2) (cn m Kg 2), .slice (some ⟨b + 3, 0, none⟩) (cn m Kg 3) (cn m Kg 3), .slice (some ⟨b + 4, 0, none⟩) (cn m Kg 4) (cn m Kg 4), .slice (some ⟨b + 5, 0, none⟩) (cn m Kg 5) (cn m Kg 5), .int .u64 (g2 1 0).x0, .int .u64 (g2 1 0).x1, .int .u64 (g2 1 0).x2, .int .u64 (g2 1 0).x3] 0 wy
    exact ⟨World.rangeAt_setCells_same wy (w.heap.size + 1) 0 _ F.rt, F.bel.grown hg F.bel.size (fun j hj => by have := Option.some.inj hj; omega), fun k hk => (F.zn.rm k hk).far hg (by omega)⟩)
   have v0 : wz.cell? ⟨w.heap.size + 1, 0, none⟩ = some (.slice (some ⟨b + 2, 0, none⟩) (cn m Kg 2) (cn m Kg 2)) := BZ.out.1 0 _ rfl
   have v1 : wz.cell? ⟨w.heap.size + 1, 1, none⟩ = some (.slice (some ⟨b + 3, 0, none⟩) (cn m Kg 3) (cn m Kg 3)) := BZ.out.1 1 _ rfl
   have v2 : wz.cell? ⟨w.heap.size + 1, 2, none⟩ = some (.slice (some ⟨b + 4, 0, none⟩) (cn m Kg 4) (cn m Kg 4)) := BZ.out.1 2 _ rfl
   have v3 : wz.cell? ⟨w.heap.size + 1, 3, none⟩ = some (.slice (some ⟨b + 5, 0, none⟩) (cn m Kg 5) (cn m Kg 5)) := BZ.out.1 3 _ rfl
   have v4 : wz.cell? ⟨w.heap.size + 1, 4, none⟩ = some (.int .u64 (g2 1 0).x0) := BZ.out.1 4 _ rfl
   have v5 : wz.cell? ⟨w.heap.size + 1, 5, none⟩ = some (.int .u64 (g2 1 0).x1) := BZ.out.1 5 _ rfl
   have v6 : wz.cell? ⟨w.heap.size + 1, 6, none⟩ = some (.int .u64 (g2 1 0).x2) := BZ.out.1 6 _ rfl
   have v7 : wz.cell? ⟨w.heap.size + 1, 7, none⟩ = some (.int .u64 (g2 1 0).x3) := BZ.out.1 7 _ rfl
   have OK := hidden F9.out.zn.ok
   clear FE F9
   go_wp2_with fail
   refine bodyPost_ret (v := .tuple #[.agg #[.slice (some ⟨b + 2, 0, none⟩) (cn m Kg 2) (cn m Kg 2), .slice (some ⟨b + 3, 0, none⟩) (cn m Kg 3) (cn m Kg 3), .slice (some ⟨b + 4, 0, none⟩) (cn m Kg 4) (cn m Kg 4), .slice (some ⟨b + 5, 0, none⟩) (cn m Kg 5) (cn m Kg 5), .int .u64 (g2 1 0).x0, .int .u64 (g2 1 0).x1, .int .u64 (g2 1 0).x2, .int .u64 (g2 1 0).x3], .int .i64 0]) (by simp [results, Tryd.results7, go_sem, v0, v1, v2, v3, v4, v5, v6, v7]) rfl ⟨⟨some ⟨b + 2, 0, none⟩, Kg, Kg, g2 2⟩, ⟨some ⟨b + 3, 0, none⟩, Kg, Kg, g2 3⟩, ⟨some ⟨b + 4, 0, none⟩, Kg, Kg, g2 4⟩, ⟨some ⟨b + 5, 0, none⟩, m, m, g2 5⟩, g2 1 0, rfl, ⟨?_, ?_, ?_, ?_, oC⟩, ⟨rfl, rfl, rfl, rfl⟩, BZ.out.2.1, TD.out⟩
   ·exact ⟨⟨b + 2, 0, fun _ => rfl, fun _ => (BZ.out.2.2 2 (by omega)).r⟩, fun k hk => OK.out 2 k (by omega) hk⟩
   ·exact ⟨⟨b + 3, 0, fun _ => rfl, fun _ => (BZ.out.2.2 3 (by omega)).r⟩, fun k hk => OK.out 3 k (by omega) hk⟩
   ·exact ⟨⟨b + 4, 0, fun _ => rfl, fun _ => (BZ.out.2.2 4 (by omega)).r⟩, fun k hk => OK.out 4 k (by omega) hk⟩
   ·exact ⟨⟨b + 5, 0, fun _ => rfl, fun _ => (BZ.out.2.2 5 (by omega)).r⟩, fun k hk => OK.out 5 k (by omega) hk⟩
end Ci
end Go.Proofs.YtimjfndaleccaaaDoor
