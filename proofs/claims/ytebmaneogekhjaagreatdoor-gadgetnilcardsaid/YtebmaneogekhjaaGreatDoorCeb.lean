import Derived.Test.YtebmaneogekhjaaGreatDoorTk
import Derived.Test.YtebmaneogekhjaaGreatDoorCea
namespace Go.Proofs.YtebmaneogekhjaaGreatDoor
open Go.RowKit
set_option linter.unusedVariables false
set_option linter.unusedSimpArgs false
open Cm (Wr Tm co bf Ls lf ins Eqm)
namespace Ci
set_option maxRecDepth 100000
set_option maxHeartbeats 4000000
theorem i6n : (Tryz.prog.info? 99).map (·.size) = some 6 := by kernel_rfl
theorem one6n (tb : Nat) (l r o v : Sl) : ([.slice none 0 0, .slice (some ⟨tb, 0, none⟩) 1 1, .slice l.p l.n l.c, .slice r.p r.n r.c, .slice o.p o.n o.c, .slice v.p v.n v.c] : List Value).toArray.all (·.oneCell') = true := by simp [Value.oneCell']
theorem build1S (w : World) : (Instr.buildSlice 57 1 #[(0, .agg #[.int .u64 1, .int .u64 0, .int .u64 0, .int .u64 0])]).run Tryz.prog w = .ok (.slice (some ⟨w.heap.size, 0, none⟩) 1 1) (w.alloc (.cells #[.int .u64 1, .int .u64 0, .int .u64 0, .int .u64 0] 47)) := by kernel_rfl
theorem wp_build1S {w : World} {o : Oper} {a : Act} {K : Act → World → Prop} {Q : Exit → Act → World → Prop} (x0 : Operand) (ho : o.op = .buildSlice 57 1 #[(0, x0)]) (h0 : a.eval x0 = .agg #[.int .u64 1, .int .u64 0, .int .u64 0, .int .u64 0]) (h : ∀ (tb : Nat) (wq : World), tb = w.heap.size → wq = w.alloc (.cells #[.int .u64 1, .int .u64 0, .int .u64 0, .int .u64 0] 47) → K (a.put o.dst (.slice (some ⟨tb, 0, none⟩) 1 1)) wq) : o.wp Tryz.prog a w K Q := by
 have hr := build1S w
 unfold Oper.wp execOp
 simp only [ho, Sem.run_bind, Sem.run_pure, Result.andThen_ok, List.map_toArray, List.map_cons, List.map_nil, h0, hr]
 exact h _ _ rfl rfl
def nb1o_0 : Oper := { dst := some 3, op := Op.call { callee := Callee.value (Operand.func 78), args := #[Operand.const (Value.int IntKind.u64 1)], argTypes := #[45] }, type := 47, pos := "numbers.go:24", after := #[], guard := none }
def nb1o_1 : Oper := { dst := some 4, op := Op.buildSlice 57 1 #[(0, Operand.tmp 3)], type := 57, pos := "numbers.go:24", after := #[{ on := 0, ground := Ground.data }], guard := none }
def nb1o_2 : Oper := { dst := some 5, op := Op.fieldAddr 59 (Operand.tmp 1) 0, type := 0, pos := "numbers.go:24", after := #[], guard := none }
def nb1o_3 : Oper := { dst := some 6, op := Op.load 57 (Operand.tmp 5), type := 57, pos := "numbers.go:24", after := #[{ on := 2, ground := Ground.data }], guard := none }
def nb1o_4 : Oper := { dst := some 7, op := Op.fieldAddr 59 (Operand.tmp 1) 1, type := 0, pos := "numbers.go:24", after := #[], guard := none }
def nb1o_5 : Oper := { dst := some 8, op := Op.load 57 (Operand.tmp 7), type := 57, pos := "numbers.go:24", after := #[{ on := 4, ground := Ground.data }], guard := none }
def nb1o_6 : Oper := { dst := some 9, op := Op.fieldAddr 59 (Operand.tmp 1) 2, type := 0, pos := "numbers.go:24", after := #[], guard := none }
def nb1o_7 : Oper := { dst := some 10, op := Op.load 57 (Operand.tmp 9), type := 57, pos := "numbers.go:24", after := #[{ on := 6, ground := Ground.data }], guard := none }
def nb1o_8 : Oper := { dst := some 11, op := Op.fieldAddr 59 (Operand.tmp 1) 3, type := 0, pos := "numbers.go:24", after := #[], guard := none }
def nb1o_9 : Oper := { dst := some 12, op := Op.load 57 (Operand.tmp 11), type := 57, pos := "numbers.go:24", after := #[{ on := 8, ground := Ground.data }], guard := none }
def nb1o_10 : Oper := { dst := some 13, op := Op.build 99 #[(1, Operand.tmp 4), (2, Operand.tmp 6), (3, Operand.tmp 8), (4, Operand.tmp 10), (5, Operand.tmp 12)], type := 99, pos := "numbers.go:24", after := #[{ on := 1, ground := Ground.data }, { on := 3, ground := Ground.data }, { on := 5, ground := Ground.data }, { on := 7, ground := Ground.data }, { on := 9, ground := Ground.data }], guard := none }
def nb1o_11 : Oper := { dst := none, op := Op.store 99 (Operand.tmp 2) (Operand.tmp 13), type := 0, pos := "numbers.go:24", after := #[{ on := 10, ground := Ground.data }, { on := 0, ground := Ground.chain }, { on := 0, ground := Ground.phase }, { on := 1, ground := Ground.phase }, { on := 2, ground := Ground.phase }, { on := 3, ground := Ground.phase }, { on := 4, ground := Ground.phase }, { on := 5, ground := Ground.phase }, { on := 6, ground := Ground.phase }, { on := 7, ground := Ground.phase }, { on := 8, ground := Ground.phase }, { on := 9, ground := Ground.phase }, { on := 10, ground := Ground.phase }], guard := none }
def nb1o : Array Oper := #[nb1o_0, nb1o_1, nb1o_2, nb1o_3, nb1o_4, nb1o_5, nb1o_6, nb1o_7, nb1o_8, nb1o_9, nb1o_10, nb1o_11]
set_option maxRecDepth 100000 in
set_option maxHeartbeats 16000000 in
theorem nb1 (Q : Exit → Act → World → Prop) (ab rb : Nat) (l r o v : Sl) (u0 u3 u4 u5 u6 u7 u8 u9 u10 u11 u12 u13 : Value) (W : World)
  (neA : some ab ≠ some rb) (c0 : W.cell? ⟨ab, 0, none⟩ = some (.slice l.p l.n l.c)) (c1 : W.cell? ⟨ab, 1, none⟩ = some (.slice r.p r.n r.c)) (c2 : W.cell? ⟨ab, 2, none⟩ = some (.slice o.p o.n o.c)) (c3 : W.cell? ⟨ab, 3, none⟩ = some (.slice v.p v.n v.c)) (th : W.there rb 0 6) (RL : Hid (rb < W.heap.size))
  (C1 : Hid (∀ y, Calls Tryz.prog 78 #[.int .u64 1] y fun e w' => e = .returned (.agg #[.int .u64 1, .int .u64 0, .int .u64 0, .int .u64 0]) ∧ Below y.heap.size y w'))
  (HQ : Hid (∀ (wz : World) (tb : Nat), W.grownBy wz (some rb) → wz.rangeAt tb 0 [.int .u64 1, .int .u64 0, .int .u64 0, .int .u64 0] → (∃ wy, World.there wy rb 0 6 ∧ wz = wy.setCells rb 0 [.slice none 0 0, .slice (some ⟨tb, 0, none⟩) 1 1, .slice l.p l.n l.c, .slice r.p r.n r.c, .slice o.p o.n o.c, .slice v.p v.n v.c]) → Q .normal ⟨#[u0, .pointer (some ⟨ab, 0, none⟩), .pointer (some ⟨rb, 0, none⟩), .agg #[.int .u64 1, .int .u64 0, .int .u64 0, .int .u64 0], .slice (some ⟨tb, 0, none⟩) 1 1, .pointer (some ⟨ab, 0, none⟩), .slice l.p l.n l.c, .pointer (some ⟨ab, 1, none⟩), .slice r.p r.n r.c, .pointer (some ⟨ab, 2, none⟩), .slice o.p o.n o.c, .pointer (some ⟨ab, 3, none⟩), .slice v.p v.n v.c, .agg #[.slice none 0 0, .slice (some ⟨tb, 0, none⟩) 1 1, .slice l.p l.n l.c, .slice r.p r.n r.c, .slice o.p o.n o.c, .slice v.p v.n v.c]], []⟩ wz)) : (Code.region 1 nb1o true).wp Tryz.prog Q ⟨#[u0, .pointer (some ⟨ab, 0, none⟩), .pointer (some ⟨rb, 0, none⟩), u3, u4, u5, u6, u7, u8, u9, u10, u11, u12, u13], []⟩ W := by
 have TH := hidden (there_bl th (bl_drew W))
 clear th
 unfold nb1o
 refine wp_region_noPanic ?_
 refine wp_region_held_drew (S := fun x => W.grownBy x (some rb)) (by kernel_rfl) (gbI (bl_drew W) _) (fun hH0 => ?_)
 refine tk 2 nb1o_2 (.pointer (some ⟨ab, 0, none⟩)) rfl (by kernel_rfl) hH0 rfl (fun w0 hSw => ?_) ?_
 ·(unfold nb1o_2; clear hSw; go_simp)
 simp only [nb1o_2, Act.put, sA, sB, sC]
 refine tk 4 nb1o_4 (.pointer (some ⟨ab, 1, none⟩)) rfl (by kernel_rfl) hH0 rfl (fun w0 hSw => ?_) ?_
 ·(unfold nb1o_4; clear hSw; go_simp)
 simp only [nb1o_4, Act.put, sA, sB, sC]
 refine tk 6 nb1o_6 (.pointer (some ⟨ab, 2, none⟩)) rfl (by kernel_rfl) hH0 rfl (fun w0 hSw => ?_) ?_
 ·(unfold nb1o_6; clear hSw; go_simp)
 simp only [nb1o_6, Act.put, sA, sB, sC]
 refine tk 8 nb1o_8 (.pointer (some ⟨ab, 3, none⟩)) rfl (by kernel_rfl) hH0 rfl (fun w0 hSw => ?_) ?_
 ·(unfold nb1o_8; clear hSw; go_simp)
 simp only [nb1o_8, Act.put, sA, sB, sC]
 refine tk 3 nb1o_3 (.slice l.p l.n l.c) rfl (by kernel_rfl) hH0 rfl (fun w0 hSw => ?_) ?_
 ·(unfold nb1o_3; have hS : W.grownBy w0 (some rb) := hSw; have a0 := hS.cell c0 neA; clear hS hSw; go_simp)
 simp only [nb1o_3, Act.put, sA, sB, sC]
 refine tk 5 nb1o_5 (.slice r.p r.n r.c) rfl (by kernel_rfl) hH0 rfl (fun w0 hSw => ?_) ?_
 ·(unfold nb1o_5; have hS : W.grownBy w0 (some rb) := hSw; have a0 := hS.cell c1 neA; clear hS hSw; go_simp)
 simp only [nb1o_5, Act.put, sA, sB, sC]
 refine tk 7 nb1o_7 (.slice o.p o.n o.c) rfl (by kernel_rfl) hH0 rfl (fun w0 hSw => ?_) ?_
 ·(unfold nb1o_7; have hS : W.grownBy w0 (some rb) := hSw; have a0 := hS.cell c2 neA; clear hS hSw; go_simp)
 simp only [nb1o_7, Act.put, sA, sB, sC]
 refine tk 9 nb1o_9 (.slice v.p v.n v.c) rfl (by kernel_rfl) hH0 rfl (fun w0 hSw => ?_) ?_
 ·(unfold nb1o_9; have hS : W.grownBy w0 (some rb) := hSw; have a0 := hS.cell c3 neA; clear hS hSw; go_simp)
 simp only [nb1o_9, Act.put, sA, sB, sC]
 refine wpAnyH_ready (rs := [0]) (by kernel_rfl) (by simp) ?_
 refine AllReadyH.cons (o := nb1o_0) rfl (fun K hK => ?_) AllReadyH.nil
 unfold nb1o_0
 have HH := hidden hH0
 clear hH0
 go_simp
 refine (C1.out _).mono ?_
 rintro e wn1 ⟨rfl, hb⟩
 have SN := hidden (HH.out.trans (gbI hb _))
 replace TH := hidden (there_bl TH.out hb)
 clear HH C1 hb
 go_wp2_with fail
 refine hK.out _ _ SN.out (fun hH1 => ?_)
 clear hK K SN
 refine wpAnyH_ready (rs := [1]) (by kernel_rfl) (by simp) ?_
 refine AllReadyH.cons (o := nb1o_1) rfl (fun K hK => ?_) AllReadyH.nil
 unfold nb1o_1
 have HH := hidden hH1
 clear hH1
 refine wp_build1S _ rfl rfl (fun tb wn2 htb hwq => ?_)
 have SN := hidden (by rw [hwq]; exact HH.out.trans (gbI (bl_alloc _ _) _) : W.grownBy wn2 (some rb))
 replace TH := hidden (by rw [hwq]; exact there_bl TH.out (bl_alloc _ _) : wn2.there rb 0 6)
 have ON := hidden (by rw [htb, hwq]; exact range_newM _ [.int .u64 1, .int .u64 0, .int .u64 0, .int .u64 0] _ : wn2.rangeAt tb 0 [.int .u64 1, .int .u64 0, .int .u64 0, .int .u64 0])
 have NE := hidden (by rw [htb]; intro e; have := HH.out.size; have := RL.out; omega : tb ≠ rb)
 clear HH htb hwq
 simp only [Act.put, sA, sB, sC]
 refine hK.out _ _ SN.out (fun hH2 => ?_)
 clear hK K SN
 refine tk 10 nb1o_10 (.agg #[.slice none 0 0, .slice (some ⟨tb, 0, none⟩) 1 1, .slice l.p l.n l.c, .slice r.p r.n r.c, .slice o.p o.n o.c, .slice v.p v.n v.c]) rfl (by kernel_rfl) hH2 rfl (fun w0 hSw => ?_) ?_
 ·(unfold nb1o_10; clear hSw; go_simp)
 simp only [nb1o_10, Act.put, sA, sB, sC]
 refine wpAnyH_ready (rs := [11]) (by kernel_rfl) (by simp) ?_
 refine AllReadyH.cons (o := nb1o_11) rfl (fun K hK => ?_) AllReadyH.nil
 unfold nb1o_11
 have HH := hidden hH2
 clear hH2
 refine wp_storeE 99 _ _ rfl rb 0 ([.slice none 0 0, .slice (some ⟨tb, 0, none⟩) 1 1, .slice l.p l.n l.c, .slice r.p r.n r.c, .slice o.p o.n o.c, .slice v.p v.n v.c]) (by rfl) (by rfl) TH.out i6n (one6n _ _ _ _ _) rfl (fun wn3 hw => ?_)
 have SN := hidden (HH.out.trans (gb_setCells rb [.slice none 0 0, .slice (some ⟨tb, 0, none⟩) 1 1, .slice l.p l.n l.c, .slice r.p r.n r.c, .slice o.p o.n o.c, .slice v.p v.n v.c] 0 _))
 replace ON := hidden (fun j u hu => (gb_setCells rb [.slice none 0 0, .slice (some ⟨tb, 0, none⟩) 1 1, .slice l.p l.n l.c, .slice r.p r.n r.c, .slice o.p o.n o.c, .slice v.p v.n v.c] 0 _).cell (ON.out j u hu) (fun e => NE.out (Option.some.inj e)))
 have FE := hidden ((⟨_, TH.out, hw⟩ : ∃ wy, World.there wy rb 0 6 ∧ _ = wy.setCells rb 0 [.slice none 0 0, .slice (some ⟨tb, 0, none⟩) 1 1, .slice l.p l.n l.c, .slice r.p r.n r.c, .slice o.p o.n o.c, .slice v.p v.n v.c]))
 rw [← hw] at SN ON
 clear HH hw
 refine hK.out _ _ SN.out (fun hH3 => ?_)
 clear hK K SN
 have HH := hidden hH3
 have FQ := hidden (HQ.out _ tb HH.out ON.out FE.out)
 refine wpAnyH_done (by kernel_rfl) ?_ _
 refine NoPanic.normal ?_
 exact FQ.out
def nms (b : Nat) (l r o v : Sl) : Nat → Sl
 | 1 => ⟨some ⟨b, 0, none⟩, 1, 1, fun _ => lst 1⟩
 | 2 => l
 | 3 => r
 | 4 => o
 | 5 => v
 | _ => ⟨none, 0, 0, fun _ => ⟨0, 0, 0, 0⟩⟩
theorem one_at {w : World} {b : Nat} (h : w.rangeAt b 0 [.int .u64 1, .int .u64 0, .int .u64 0, .int .u64 0]) (l r o v : Sl) : (nms b l r o v 1).at w := by
 have e : lst 1 = ⟨1, 0, 0, 0⟩ := one_is
 refine ⟨⟨b, 0, fun _ => rfl, fun _ => ?_⟩, fun k hk => lst_ok _⟩
 have key : ∀ k, k < 1 → k = 0 := fun k hk => by omega
 refine ⟨fun k hk => ?_, fun k hk => ?_, fun k hk => ?_, fun k hk => ?_⟩
 ·obtain rfl := key k hk
  show World.cell? w ⟨b, 0 + 0 * 4, none⟩ = some (Value.int .u64 (lst 1).x0)
  rw [e]; exact h 0 _ rfl
 ·obtain rfl := key k hk
  show World.cell? w ⟨b, 0 + 0 * 4 + 1, none⟩ = some (Value.int .u64 (lst 1).x1)
  rw [e]; exact h 1 _ rfl
 ·obtain rfl := key k hk
  show World.cell? w ⟨b, 0 + 0 * 4 + 2, none⟩ = some (Value.int .u64 (lst 1).x2)
  rw [e]; exact h 2 _ rfl
 ·obtain rfl := key k hk
  show World.cell? w ⟨b, 0 + 0 * 4 + 3, none⟩ = some (Value.int .u64 (lst 1).x3)
  rw [e]; exact h 3 _ rfl
theorem numbers_any (l r o v : Sl) (w : World) : Calls Tryz.prog 47 #[.agg #[l.v, r.v, o.v, v.v]] w fun e w' => ∃ b, e = .returned (.agg #[(nms b l r o v 0).v, (nms b l r o v 1).v, (nms b l r o v 2).v, (nms b l r o v 3).v, (nms b l r o v 4).v, (nms b l r o v 5).v]) ∧ (nms b l r o v 1).at w' ∧ Below w.heap.size w w' := by
 simp only [Sl.v, nms]
 have C := fun y => fix (R := ⟨1, 0, 0, 0⟩) (Int_any 1 y (by unfold Sm.Wd; omega)) one_is
 simp only [E4.v] at C
 have C1 := hidden C
 clear C
 have BA := bl_alloc2 w (.cells #[.slice l.p l.n l.c, .slice r.p r.n r.c, .slice o.p o.n o.c, .slice v.p v.n v.c] 59) (.cells #[.slice none 0 0, .slice none 0 0, .slice none 0 0, .slice none 0 0, .slice none 0 0, .slice none 0 0] 99)
 have c0 : ((w.alloc (.cells #[.slice l.p l.n l.c, .slice r.p r.n r.c, .slice o.p o.n o.c, .slice v.p v.n v.c] 59)).alloc (.cells #[.slice none 0 0, .slice none 0 0, .slice none 0 0, .slice none 0 0, .slice none 0 0, .slice none 0 0] 99)).cell? ⟨w.heap.size, 0, none⟩ = some (.slice l.p l.n l.c) := by go_simp
 have c1 : ((w.alloc (.cells #[.slice l.p l.n l.c, .slice r.p r.n r.c, .slice o.p o.n o.c, .slice v.p v.n v.c] 59)).alloc (.cells #[.slice none 0 0, .slice none 0 0, .slice none 0 0, .slice none 0 0, .slice none 0 0, .slice none 0 0] 99)).cell? ⟨w.heap.size, 1, none⟩ = some (.slice r.p r.n r.c) := by go_simp
 have c2 : ((w.alloc (.cells #[.slice l.p l.n l.c, .slice r.p r.n r.c, .slice o.p o.n o.c, .slice v.p v.n v.c] 59)).alloc (.cells #[.slice none 0 0, .slice none 0 0, .slice none 0 0, .slice none 0 0, .slice none 0 0, .slice none 0 0] 99)).cell? ⟨w.heap.size, 2, none⟩ = some (.slice o.p o.n o.c) := by go_simp
 have c3 : ((w.alloc (.cells #[.slice l.p l.n l.c, .slice r.p r.n r.c, .slice o.p o.n o.c, .slice v.p v.n v.c] 59)).alloc (.cells #[.slice none 0 0, .slice none 0 0, .slice none 0 0, .slice none 0 0, .slice none 0 0, .slice none 0 0] 99)).cell? ⟨w.heap.size, 3, none⟩ = some (.slice v.p v.n v.c) := by go_simp
 have th := there_newM (w.alloc (.cells #[.slice l.p l.n l.c, .slice r.p r.n r.c, .slice o.p o.n o.c, .slice v.p v.n v.c] 59)) [.slice none 0 0, .slice none 0 0, .slice none 0 0, .slice none 0 0, .slice none 0 0, .slice none 0 0] 99
 simp only [World.size_alloc, List.length_cons, List.length_nil] at th
 have RL : Hid (w.heap.size + 1 < ((w.alloc (.cells #[.slice l.p l.n l.c, .slice r.p r.n r.c, .slice o.p o.n o.c, .slice v.p v.n v.c] 59)).alloc (.cells #[.slice none 0 0, .slice none 0 0, .slice none 0 0, .slice none 0 0, .slice none 0 0, .slice none 0 0] 99)).heap.size) := hidden (by simp only [World.size_alloc]; omega)
 have HB := hidden BA
 have neA : some w.heap.size ≠ some (w.heap.size + 1) := fun e => by have := Option.some.inj e; omega
 clear BA
 go_enter Tryz.func47, Tryz.ntmps47
 go_upto_region 1 with fail
 generalize ((w.alloc (.cells #[.slice l.p l.n l.c, .slice r.p r.n r.c, .slice o.p o.n o.c, .slice v.p v.n v.c] 59)).alloc (.cells #[.slice none 0 0, .slice none 0 0, .slice none 0 0, .slice none 0 0, .slice none 0 0, .slice none 0 0] 99)) = w2 at *
 refine nb1 _ w.heap.size (w.heap.size + 1) l r o v _ _ _ _ _ _ _ _ _ _ _ _ w2 neA c0 c1 c2 c3 th RL C1 (hidden ?_)
 rintro wz tb hg hon ⟨wy, hty, hwz⟩
 have R := World.rangeAt_setCells_same wy (w.heap.size + 1) 0 [.slice none 0 0, .slice (some ⟨tb, 0, none⟩) 1 1, .slice l.p l.n l.c, .slice r.p r.n r.c, .slice o.p o.n o.c, .slice v.p v.n v.c] hty
 rw [← hwz] at R
 have r0 := R 0 _ rfl
 have r1 := R 1 _ rfl
 have r2 := R 2 _ rfl
 have r3 := R 3 _ rfl
 have r4 := R 4 _ rfl
 have r5 := R 5 _ rfl
 simp only [Nat.zero_add] at r0 r1 r2 r3 r4 r5
 have HG := hidden hg
 have ON := hidden hon
 clear R hwz hg c0 c1 c2 c3 th hty hon
 go_wp2_with fail
 refine bodyPost_ret (v := .agg #[.slice none 0 0, .slice (some ⟨tb, 0, none⟩) 1 1, .slice l.p l.n l.c, .slice r.p r.n r.c, .slice o.p o.n o.c, .slice v.p v.n v.c]) (by simp [results, Tryz.results47, go_sem, r0, r1, r2, r3, r4, r5]) rfl ⟨tb, rfl, one_at ON.out l r o v, ?_⟩
 exact HB.out.grown HG.out HB.out.size (fun k hk => by obtain rfl := Option.some.inj hk; exact Nat.le_succ _)
theorem Values_any {base : Nat} {w : World} {s m Kg : Nat} {vv : Value} {vs : List Value} {Q : List (List Tm)} (h : Sy base w s m Kg vv vs Q) : Calls Tryz.prog 39 #[.pointer (some ⟨s, 0, none⟩)] w fun e w' => e = .returned (.int .i64 (m : Int)) ∧ w' = w := by
 have C := hidden (none_any h)
 have c0 := h.c0
 clear h
 go_enter Tryz.func39, Tryz.ntmps39
 go_wp2_with (go_at_call 46; refine C.out.mono ?_; rintro e w1 ⟨rfl, rfl⟩)
 refine bodyPost_ret (v := .int .i64 (m : Int)) (by simp [results, Tryz.results39, go_sem]) rfl ⟨rfl, rfl⟩
def cn (m Kg : Nat) : Nat → Nat
 | 1 => 1 | 2 => Kg | 3 => Kg | 4 => Kg | 5 => m | _ => 0
theorem cn_ct (m Kg k : Nat) : ((cn m Kg k : Nat) : Int) = ct m Kg k := by
 unfold cn ct
 split <;> simp_all
def ftB (N : Nat → Sl) (m Kg : Nat) : Bool := (List.range 6).all fun k => decide ((N k).n = cn m Kg k)
theorem ftB_iff (N : Nat → Sl) (m Kg : Nat) : ftB N m Kg = true ↔ ∀ k, k < 6 → (N k).n = cn m Kg k := by
 unfold ftB
 rw [List.all_eq_true]
 simp [List.mem_range]
theorem ix_run0 (m Kg i : Nat) (h2 : i < 6) (y : World) : (Instr.index 131 (.agg #[.int .i64 0, .int .i64 1, .int .i64 (Kg : Int), .int .i64 (Kg : Int), .int .i64 (Kg : Int), .int .i64 (m : Int)]) (.int .i64 (i : Int))).run Tryz.prog y = .ok (.int .i64 ((cn m Kg i : Nat) : Int)) y := by
 have hi : Tryz.prog.info? 3 = some (Tryz.prog.info? 3).get! := by kernel_rfl
 refine run_index_arrC (n := 6) (e := 3) (by kernel_rfl) (by kernel_rfl) hi (by kernel_rfl) (by omega) ?_
 match i, h2 with
 | 0, _ => rfl
 | 1, _ => rfl
 | 2, _ => rfl
 | 3, _ => rfl
 | 4, _ => rfl
 | 5, _ => rfl
theorem fits_any {base : Nat} {w : World} {s m Kg : Nat} {vv : Value} {vs : List Value} {Q : List (List Tm)} (h : Sy base w s m Kg vv vs Q) (N : Nat → Sl) : Calls Tryz.prog 48 #[.pointer (some ⟨s, 0, none⟩), .agg #[(N 0).v, (N 1).v, (N 2).v, (N 3).v, (N 4).v, (N 5).v]] w fun e w' => e = .returned (.bool (ftB N m Kg)) ∧ Below w.heap.size w w' := by
 have BA := bl_alloc w (.cells #[(N 0).v, (N 1).v, (N 2).v, (N 3).v, (N 4).v, (N 5).v] 99)
 have C := hidden (counts_any (h.keep BA))
 have NC : Hid (∀ k, k < 6 → (w.alloc (.cells #[(N 0).v, (N 1).v, (N 2).v, (N 3).v, (N 4).v, (N 5).v] 99)).cell? ⟨w.heap.size, k, none⟩ = some (N k).v) := hidden (fun k hk => by
  match k, hk with
  | 0, _ => go_simp
  | 1, _ => go_simp
  | 2, _ => go_simp
  | 3, _ => go_simp
  | 4, _ => go_simp
  | 5, _ => go_simp)
 have HB := hidden BA
 clear h BA
 go_enter Tryz.func48, Tryz.ntmps48
 go_upto_region 1 with fail
 generalize w.alloc (.cells #[(N 0).v, (N 1).v, (N 2).v, (N 3).v, (N 4).v, (N 5).v] 99) = w2 at *
 go_upto_region 2 with (go_at_call 85; refine C.out.mono ?_; rintro e w3 ⟨rfl, hb⟩; have B3 := hidden (bl_trans HB.out hb); have N3 : Hid (∀ k, k < 6 → w3.cell? ⟨w.heap.size, k, none⟩ = some (N k).v) := hidden (fun k hk => cell_keep (NC.out k hk) hb); clear hb)
 clear C NC HB
 go_loopw [9] (fun iv w' => ∃ i : Nat, i ≤ 6 ∧ iv = .int .i64 (i : Int) ∧ Hid ((∀ k, k < i → (N k).n = cn m Kg k) ∧ w' = w3)) (fun i _ => 6 - (intOf i).toNat)
 case atStart => exact ⟨0, by omega, rfl, hidden ⟨fun k hk => by omega, rfl⟩⟩
 case round =>
  obtain ⟨i, hi, rfl, hR⟩ := hrel
  obtain rfl := hR.out.2
  by_cases hin : i < 6
  ·have i1 : (i : Int) < 6 := by omega
   have i0 : (0 : Int) ≤ (i : Int) := by omega
   have w9 : IntKind.i64.wrap ((i : Int) + 1) = (i : Int) + 1 := IntWalk.i64_in _ (by omega)
   have ix := fun y => ix_run0 m Kg i hin y
   have nc := N3.out i hin
   unfold Sl.v at nc
   by_cases he : (N i).n = cn m Kg i
   ·have hne : ((cn m Kg i : Nat) : Int) = ((cn m Kg i : Nat) : Int) := rfl
    rw [he] at nc
    have PN : Hid ((∀ k, k < i + 1 → (N k).n = cn m Kg k) ∧ wr = wr) := hidden ⟨fun k hk => by
     rcases Nat.lt_or_ge k i with h | h
     ·exact hR.out.1 k h
     ·obtain rfl : k = i := by omega
      exact he, rfl⟩
    clear hR he
    generalize cn m Kg i = q at *
    generalize (N i).p = pi at *
    generalize (N i).c = ci at *
    go_wp2_with fail
    go_roundw
    case rel => exact ⟨i + 1, by omega, by go_num, hidden ⟨PN.out.1, trivial⟩⟩
    case measure => simp [intOf]; omega
   ·have hne : ¬ ((N i).n : Int) = ((cn m Kg i : Nat) : Int) := by omega
    have fb : ftB N m Kg = false := by
     rw [Bool.eq_false_iff]
     exact fun h => he ((ftB_iff N m Kg).1 h i hin)
    clear hR he
    generalize cn m Kg i = q at *
    generalize (N i).p = pi at *
    generalize (N i).c = ci at *
    generalize (N i).n = ni at *
    go_wp2_with fail
    refine bodyPost_ret (v := .bool false) (by simp [results, Tryz.results48, go_sem]) rfl ⟨by rw [fb], B3.out⟩
  ·obtain rfl : i = 6 := by omega
   have fb : ftB N m Kg = true := (ftB_iff N m Kg).2 hR.out.1
   clear hR
   go_wp2_with fail
   refine bodyPost_ret (v := .bool true) (by simp [results, Tryz.results48, go_sem]) rfl ⟨by rw [fb], B3.out⟩
end Ci
end Go.Proofs.YtebmaneogekhjaaGreatDoor
