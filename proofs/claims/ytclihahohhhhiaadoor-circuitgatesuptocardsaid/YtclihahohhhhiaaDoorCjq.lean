import Derived.Test.YtclihahohhhhiaaDoorTk
import Derived.Test.YtclihahohhhhiaaDoorCjp
namespace Go.Proofs.YtclihahohhhhiaaDoor
open Go.RowKit
set_option linter.unusedVariables false
set_option linter.unusedSimpArgs false
open Cm (Wr Tm co bf Ls lf ins Eqm)
open Tr (By)
namespace Ci
set_option maxRecDepth 100000
set_option maxHeartbeats 16000000
theorem wp_conv {w : World} {o : Oper} {a : Act} {K : Act → World → Prop} {Q : Exit → Act → World → Prop} (x : Operand) (ho : o.op = .convert 29 9 x) {P : Option Addr} {c : Nat} {bs : List UInt8} (hx : a.eval x = .slice P bs.length c) (hB : By w P c bs) (h : K (a.put o.dst (.string (Tr.sb bs))) w) : o.wp Tryd.prog a w K Q := by
 have hr := Tr.by_conv hB
 unfold Oper.wp execOp
 simp only [ho, hx, hr, Sem.run_bind, Sem.run_pure, Result.andThen_ok]
 exact h
def N3 (a b c i : Nat) : Prop := i ≠ a ∧ i ≠ b ∧ i ≠ c
structure K3 (a b c : Nat) (w w' : World) : Prop where
 os : w'.os = w.os
 tape : w'.tape = w.tape
 output : w'.output = w.output
 size : w.heap.size ≤ w'.heap.size
 block : ∀ i, i < w.heap.size → N3 a b c i → w'.heap[i]? = w.heap[i]?
section
variable {a b c : Nat} {w w' w2 : World}
theorem K3.of (h : Below w.heap.size w w') : K3 a b c w w' := ⟨h.os, h.tape, h.output, h.size, fun i hi _ => h.block i hi⟩
theorem K3.trans (h : K3 a b c w w') (k : K3 a b c w' w2) : K3 a b c w w2 := ⟨k.os.trans h.os, k.tape.trans h.tape, k.output.trans h.output, Nat.le_trans h.size k.size, fun i hi hn => (k.block i (Nat.lt_of_lt_of_le hi h.size) hn).trans (h.block i hi hn)⟩
theorem K3.bl (h : K3 a b c w w') (k : Below w'.heap.size w' w2) : K3 a b c w w2 := h.trans (K3.of k)
theorem K3.gr (h : K3 a b c w w') {r : Nat} (k : w'.grownBy w2 (some r)) (hr : r = a ∨ r = b ∨ r = c) : K3 a b c w w2 := h.trans ⟨k.os, k.tape, k.output, k.size, fun i hi hn => k.block i hi (fun e => by
 have := Option.some.inj e
 obtain ⟨h1, h2, h3⟩ := hn
 omega)⟩
theorem K3.cell (h : K3 a b c w w') {i o : Nat} {v : Value} (hc : w.cell? ⟨i, o, none⟩ = some v) (hn : N3 a b c i) : w'.cell? ⟨i, o, none⟩ = some v := by
 rw [World.cell?_of_block (h.block i (World.block_lt_of_cell? w _ hc) hn)]; exact hc
end
theorem there_gbN {w w' : World} {b o n r : Nat} (h : w.there b o n) (hg : w.grownBy w' (some r)) (hne : b ≠ r) : w'.there b o n := fun j hj => by
 obtain ⟨h1, h2⟩ := h j hj
 obtain ⟨u, hu⟩ := Option.isSome_iff_exists.1 h1
 have hl := World.block_lt_of_cell? w _ hu
 exact ⟨by rw [hg.cell hu (fun e => hne (Option.some.inj e))]; rfl, gz_frozen hg (fun e => hne (Option.some.inj e)) hl h2⟩
def lg9ao_0 : Oper := { dst := some 59, op := Op.move (Operand.tmp 16), type := 33, pos := "outright.go:150", after := #[], guard := none }
def lg9ao_1 : Oper := { dst := some 60, op := Op.binOp BinOp.eql 33 (Operand.tmp 59) (Operand.const (Value.int IntKind.i64 200)) 33, type := 4, pos := "outright.go:150", after := #[{ on := 0, ground := Ground.data }], guard := none }
def lg9ao_2 : Oper := { dst := some 61, op := Op.move (Operand.tmp 60), type := 4, pos := "outright.go:150", after := #[{ on := 1, ground := Ground.data }], guard := none }
def lg9ao_3 : Oper := { dst := some 62, op := Op.move (Operand.tmp 16), type := 33, pos := "outright.go:150", after := #[{ on := 2, ground := Ground.guard }], guard := some (2, false) }
def lg9ao_4 : Oper := { dst := some 63, op := Op.binOp BinOp.eql 33 (Operand.tmp 62) (Operand.const (Value.int IntKind.i64 201)) 33, type := 4, pos := "outright.go:150", after := #[{ on := 3, ground := Ground.data }, { on := 2, ground := Ground.guard }], guard := some (2, false) }
def lg9ao_5 : Oper := { dst := some 64, op := Op.pick (Operand.tmp 61) (Operand.const (Value.bool true)) (Operand.tmp 63), type := 4, pos := "outright.go:150", after := #[{ on := 2, ground := Ground.data }, { on := 4, ground := Ground.data }], guard := none }
def lg9ao_6 : Oper := { dst := some 65, op := Op.move (Operand.tmp 64), type := 4, pos := "outright.go:150", after := #[{ on := 5, ground := Ground.data }, { on := 2, ground := Ground.chain }], guard := none }
def lg9ao_7 : Oper := { dst := some 66, op := Op.move (Operand.tmp 11), type := 27, pos := "outright.go:150", after := #[{ on := 6, ground := Ground.guard }], guard := some (6, true) }
def lg9ao_8 : Oper := { dst := some 67, op := Op.call { callee := Callee.value (Operand.func 6), args := #[Operand.tmp 66], argTypes := #[27] }, type := 29, pos := "outright.go:150", after := #[{ on := 7, ground := Ground.data }, { on := 6, ground := Ground.chain }, { on := 6, ground := Ground.guard }], guard := some (6, true) }
def lg9ao_9 : Oper := { dst := some 68, op := Op.convert 29 9 (Operand.tmp 67), type := 9, pos := "outright.go:150", after := #[{ on := 8, ground := Ground.data }, { on := 6, ground := Ground.guard }], guard := some (6, true) }
def lg9ao_10 : Oper := { dst := some 69, op := Op.move (Operand.tmp 12), type := 29, pos := "outright.go:150", after := #[{ on := 6, ground := Ground.guard }], guard := some (6, true) }
def lg9ao_11 : Oper := { dst := some 70, op := Op.convert 29 9 (Operand.tmp 69), type := 9, pos := "outright.go:150", after := #[{ on := 10, ground := Ground.data }, { on := 6, ground := Ground.guard }], guard := some (6, true) }
def lg9ao_12 : Oper := { dst := some 71, op := Op.binOp BinOp.eql 9 (Operand.tmp 68) (Operand.tmp 70) 9, type := 4, pos := "outright.go:150", after := #[{ on := 9, ground := Ground.data }, { on := 11, ground := Ground.data }, { on := 6, ground := Ground.guard }], guard := some (6, true) }
def lg9ao_13 : Oper := { dst := some 72, op := Op.pick (Operand.tmp 65) (Operand.tmp 71) (Operand.const (Value.bool false)), type := 4, pos := "outright.go:150", after := #[{ on := 6, ground := Ground.data }, { on := 12, ground := Ground.data }], guard := none }
def lg9ao_14 : Oper := { dst := some 10, op := Op.assign (Operand.tmp 72), type := 4, pos := "outright.go:150", after := #[{ on := 13, ground := Ground.data }, { on := 8, ground := Ground.chain }, { on := 0, ground := Ground.phase }, { on := 1, ground := Ground.phase }, { on := 2, ground := Ground.phase }, { on := 3, ground := Ground.phase }, { on := 4, ground := Ground.phase }, { on := 5, ground := Ground.phase }, { on := 6, ground := Ground.phase }, { on := 7, ground := Ground.phase }, { on := 8, ground := Ground.phase }, { on := 9, ground := Ground.phase }, { on := 10, ground := Ground.phase }, { on := 11, ground := Ground.phase }, { on := 12, ground := Ground.phase }, { on := 13, ground := Ground.phase }], guard := none }
def lg9ao : Array Oper := #[lg9ao_0, lg9ao_1, lg9ao_2, lg9ao_3, lg9ao_4, lg9ao_5, lg9ao_6, lg9ao_7, lg9ao_8, lg9ao_9, lg9ao_10, lg9ao_11, lg9ao_12, lg9ao_13, lg9ao_14]
set_option maxRecDepth 100000 in
set_option maxHeartbeats 16000000 in
theorem lg9a (Q : Exit → Act → World → Prop) (sb c0 : Nat) (p0 : Option Addr) (bs : List UInt8) (u0 u1 u2 u3 u4 u5 u6 u7 u8 u9 uA uD uE uF uH uI uJ uK uL uM uN uO uP uQ uR uS uT uU uV uW uX uY uZ ua ub uc ud ue uf ug uh ui uj uk ul um un uo up uq ur us ut uu uv uw ux uy uz u0A u0B u0C u0D u0E u0F u0G u0H u0I u0J u0K u0L u0M u0N u0O u0P u0Q u0R u0S u0T u0U u0V u0W u0X u0Y u0Z u0a u0b u0c u0d u0e u0f u0g u0h u0i u0j u0k u0l u0m u0n u0o u0p u0q u0r u0s u0t u0u u0v u0w u0x u0y u0z u1A u1B u1C u1D u1E u1F u1G u1H u1I u1J u1K u1L u1M u1N u1O u1P u1Q u1R u1S u1T u1U u1V u1W u1X u1Y u1Z u1a u1b u1c u1d u1e u1f u1g u1h u1i u1j u1k u1l u1m u1n u1o u1p u1q u1r u1s u1t u1u u1v u1w u1x u1y u1z u2A u2B u2C u2D u2E u2F u2G u2H u2I u2J u2K u2L u2M u2N u2O u2P u2Q u2R u2S u2T u2U u2V u2W u2X u2Y u2Z u2a u2b u2c u2d u2e u2f u2g u2h u2i u2j u2k u2l u2m u2n u2o u2p u2q u2r u2s u2t u2u u2v u2w u2x u2y u2z u3A u3B u3C u3D u3E u3F u3G u3H u3I u3J u3K u3L u3M u3N u3O u3P u3Q u3R u3S u3T u3U u3V u3W u3X u3Y u3Z u3a u3b u3c u3d u3e u3f u3g u3h u3i u3j u3k u3l u3m u3n u3o u3p u3q u3r u3s u3t u3u u3v u3w u3x u3y u3z : Value) (W : World)
  (by0 : By W p0 c0 bs)
  (C8 : Hid (∀ yy, Below W.heap.size W yy → Calls Tryd.prog 6 #[.pointer (some ⟨sb, 0, none⟩)] yy fun e w' => ∃ p1 c1, e = .returned (.slice p1 bs.length c1) ∧ By w' p1 c1 bs ∧ Below yy.heap.size yy w'))
  (HQ : Hid (∀ (wz : World) (p1 : Option Addr) (c1 : Nat), Below W.heap.size W wz → Q .normal ⟨#[u0, u1, u2, u3, u4, u5, u6, u7, u8, u9, .bool true, .pointer (some ⟨sb, 0, none⟩), .slice p0 bs.length c0, uD, uE, uF, .int .i64 200, uH, uI, uJ, uK, uL, uM, uN, uO, uP, uQ, uR, uS, uT, uU, uV, uW, uX, uY, uZ, ua, ub, uc, ud, ue, uf, ug, uh, ui, uj, uk, ul, um, un, uo, up, uq, ur, us, ut, uu, uv, uw, .int .i64 200, .bool true, .bool true, undef, undef, .bool true, .bool true, .pointer (some ⟨sb, 0, none⟩), .slice p1 bs.length c1, .string (Tr.sb bs), .slice p0 bs.length c0, .string (Tr.sb bs), .bool true, .bool true, u0L, u0M, u0N, u0O, u0P, u0Q, u0R, u0S, u0T, u0U, u0V, u0W, u0X, u0Y, u0Z, u0a, u0b, u0c, u0d, u0e, u0f, u0g, u0h, u0i, u0j, u0k, u0l, u0m, u0n, u0o, u0p, u0q, u0r, u0s, u0t, u0u, u0v, u0w, u0x, u0y, u0z, u1A, u1B, u1C, u1D, u1E, u1F, u1G, u1H, u1I, u1J, u1K, u1L, u1M, u1N, u1O, u1P, u1Q, u1R, u1S, u1T, u1U, u1V, u1W, u1X, u1Y, u1Z, u1a, u1b, u1c, u1d, u1e, u1f, u1g, u1h, u1i, u1j, u1k, u1l, u1m, u1n, u1o, u1p, u1q, u1r, u1s, u1t, u1u, u1v, u1w, u1x, u1y, u1z, u2A, u2B, u2C, u2D, u2E, u2F, u2G, u2H, u2I, u2J, u2K, u2L, u2M, u2N, u2O, u2P, u2Q, u2R, u2S, u2T, u2U, u2V, u2W, u2X, u2Y, u2Z, u2a, u2b, u2c, u2d, u2e, u2f, u2g, u2h, u2i, u2j, u2k, u2l, u2m, u2n, u2o, u2p, u2q, u2r, u2s, u2t, u2u, u2v, u2w, u2x, u2y, u2z, u3A, u3B, u3C, u3D, u3E, u3F, u3G, u3H, u3I, u3J, u3K, u3L, u3M, u3N, u3O, u3P, u3Q, u3R, u3S, u3T, u3U, u3V, u3W, u3X, u3Y, u3Z, u3a, u3b, u3c, u3d, u3e, u3f, u3g, u3h, u3i, u3j, u3k, u3l, u3m, u3n, u3o, u3p, u3q, u3r, u3s, u3t, u3u, u3v, u3w, u3x, u3y, u3z], []⟩ wz)) : (Code.region 9 lg9ao true).wp Tryd.prog Q ⟨#[u0, u1, u2, u3, u4, u5, u6, u7, u8, u9, uA, .pointer (some ⟨sb, 0, none⟩), .slice p0 bs.length c0, uD, uE, uF, .int .i64 200, uH, uI, uJ, uK, uL, uM, uN, uO, uP, uQ, uR, uS, uT, uU, uV, uW, uX, uY, uZ, ua, ub, uc, ud, ue, uf, ug, uh, ui, uj, uk, ul, um, un, uo, up, uq, ur, us, ut, uu, uv, uw, ux, uy, uz, u0A, u0B, u0C, u0D, u0E, u0F, u0G, u0H, u0I, u0J, u0K, u0L, u0M, u0N, u0O, u0P, u0Q, u0R, u0S, u0T, u0U, u0V, u0W, u0X, u0Y, u0Z, u0a, u0b, u0c, u0d, u0e, u0f, u0g, u0h, u0i, u0j, u0k, u0l, u0m, u0n, u0o, u0p, u0q, u0r, u0s, u0t, u0u, u0v, u0w, u0x, u0y, u0z, u1A, u1B, u1C, u1D, u1E, u1F, u1G, u1H, u1I, u1J, u1K, u1L, u1M, u1N, u1O, u1P, u1Q, u1R, u1S, u1T, u1U, u1V, u1W, u1X, u1Y, u1Z, u1a, u1b, u1c, u1d, u1e, u1f, u1g, u1h, u1i, u1j, u1k, u1l, u1m, u1n, u1o, u1p, u1q, u1r, u1s, u1t, u1u, u1v, u1w, u1x, u1y, u1z, u2A, u2B, u2C, u2D, u2E, u2F, u2G, u2H, u2I, u2J, u2K, u2L, u2M, u2N, u2O, u2P, u2Q, u2R, u2S, u2T, u2U, u2V, u2W, u2X, u2Y, u2Z, u2a, u2b, u2c, u2d, u2e, u2f, u2g, u2h, u2i, u2j, u2k, u2l, u2m, u2n, u2o, u2p, u2q, u2r, u2s, u2t, u2u, u2v, u2w, u2x, u2y, u2z, u3A, u3B, u3C, u3D, u3E, u3F, u3G, u3H, u3I, u3J, u3K, u3L, u3M, u3N, u3O, u3P, u3Q, u3R, u3S, u3T, u3U, u3V, u3W, u3X, u3Y, u3Z, u3a, u3b, u3c, u3d, u3e, u3f, u3g, u3h, u3i, u3j, u3k, u3l, u3m, u3n, u3o, u3p, u3q, u3r, u3s, u3t, u3u, u3v, u3w, u3x, u3y, u3z], []⟩ W := by
 have BY := hidden (by0.keep (bl_drew W))
 clear by0
 unfold lg9ao
 refine wp_region_noPanic ?_
 refine wp_region_held_drew (S := fun x => Below W.heap.size W x) (by kernel_rfl) (bl_drew W) (fun hH0 => ?_)
 refine tk 0 lg9ao_0 (.int .i64 200) rfl (by kernel_rfl) hH0 rfl (fun w0 hSw => ?_) ?_
 ·(unfold lg9ao_0; clear hSw; go_simp)
 simp only [lg9ao_0, Act.put, sA, sB, sC]
 refine tk 1 lg9ao_1 (.bool true) rfl (by kernel_rfl) hH0 rfl (fun w0 hSw => ?_) ?_
 ·(unfold lg9ao_1; clear hSw; go_simp)
 simp only [lg9ao_1, Act.put, sA, sB, sC]
 refine tk 2 lg9ao_2 (.bool true) rfl (by kernel_rfl) hH0 rfl (fun w0 hSw => ?_) ?_
 ·(unfold lg9ao_2; clear hSw; go_simp)
 simp only [lg9ao_2, Act.put, sA, sB, sC]
 refine wpAnyH_take (i := 3) (oi := lg9ao_3) (v := undef) rfl (by kernel_rfl) (by kernel_rfl) (by kernel_rfl) (fun _ _ _ h => h) (Or.inr ⟨by rfl, rfl⟩) hH0 ?_
 simp only [lg9ao_3, Act.put, sA, sB, sC]
 refine wpAnyH_take (i := 4) (oi := lg9ao_4) (v := undef) rfl (by kernel_rfl) (by kernel_rfl) (by kernel_rfl) (fun _ _ _ h => h) (Or.inr ⟨by rfl, rfl⟩) hH0 ?_
 simp only [lg9ao_4, Act.put, sA, sB, sC]
 refine tk 5 lg9ao_5 (.bool true) rfl (by kernel_rfl) hH0 rfl (fun w0 hSw => ?_) ?_
 ·(unfold lg9ao_5; clear hSw; go_simp)
 simp only [lg9ao_5, Act.put, sA, sB, sC]
 refine tk 6 lg9ao_6 (.bool true) rfl (by kernel_rfl) hH0 rfl (fun w0 hSw => ?_) ?_
 ·(unfold lg9ao_6; clear hSw; go_simp)
 simp only [lg9ao_6, Act.put, sA, sB, sC]
 refine tk 7 lg9ao_7 (.pointer (some ⟨sb, 0, none⟩)) rfl (by kernel_rfl) hH0 rfl (fun w0 hSw => ?_) ?_
 ·(unfold lg9ao_7; clear hSw; go_simp)
 simp only [lg9ao_7, Act.put, sA, sB, sC]
 refine tk 10 lg9ao_10 (.slice p0 bs.length c0) rfl (by kernel_rfl) hH0 rfl (fun w0 hSw => ?_) ?_
 ·(unfold lg9ao_10; clear hSw; go_simp)
 simp only [lg9ao_10, Act.put, sA, sB, sC]
 refine wpAnyH_ready (rs := [8, 11]) (by kernel_rfl) (by simp) ?_
 refine AllReadyH.cons (o := lg9ao_8) rfl (fun K hK => ?_) (AllReadyH.cons (o := lg9ao_11) rfl (fun K hK => ?_) AllReadyH.nil)
 ·unfold lg9ao_8
  have HH := hidden hH0
  clear hH0
  go_simp
  refine (C8.out _ HH.out).mono ?_
  rintro e wn1 ⟨p1, c1, rfl, hy, hb⟩
  have SN := hidden (bl_trans HH.out hb)
  replace BY := hidden (BY.out.keep hb)
  have BN := hidden (hy)
  clear HH C8 hb hy
  go_wp2_with fail
  refine hK.out _ _ SN.out (fun hH1 => ?_)
  clear hK K SN
  refine wpAnyH_ready (rs := [9, 11]) (by kernel_rfl) (by simp) ?_
  refine AllReadyH.cons (o := lg9ao_9) rfl (fun K hK => ?_) (AllReadyH.cons (o := lg9ao_11) rfl (fun K hK => ?_) AllReadyH.nil)
  ·unfold lg9ao_9
   have HH := hidden hH1
   clear hH1
   refine Eq.mpr (if_pos (by exact rfl)) ?_
   refine wp_conv _ rfl rfl BN.out ?_
   simp only [Act.put, sA, sB, sC]
   have SN := HH
   clear HH
   refine hK.out _ _ SN.out (fun hH2 => ?_)
   clear hK K SN
   refine wpAnyH_ready (rs := [11]) (by kernel_rfl) (by simp) ?_
   refine AllReadyH.cons (o := lg9ao_11) rfl (fun K hK => ?_) AllReadyH.nil
   unfold lg9ao_11
   have HH := hidden hH2
   clear hH2
   refine Eq.mpr (if_pos (by exact rfl)) ?_
   refine wp_conv _ rfl rfl BY.out ?_
   simp only [Act.put, sA, sB, sC]
   have SN := HH
   clear HH
   refine hK.out _ _ SN.out (fun hH3 => ?_)
   clear hK K SN
   refine tk 12 lg9ao_12 (.bool true) rfl (by kernel_rfl) hH3 rfl (fun w0 hSw => ?_) ?_
   ·(unfold lg9ao_12; clear hSw; go_simp)
   simp only [lg9ao_12, Act.put, sA, sB, sC]
   refine tk 13 lg9ao_13 (.bool true) rfl (by kernel_rfl) hH3 rfl (fun w0 hSw => ?_) ?_
   ·(unfold lg9ao_13; clear hSw; go_simp)
   simp only [lg9ao_13, Act.put, sA, sB, sC]
   refine tk 14 lg9ao_14 (.bool true) rfl (by kernel_rfl) hH3 rfl (fun w0 hSw => ?_) ?_
   ·(unfold lg9ao_14; clear hSw; go_simp)
   simp only [lg9ao_14, Act.put, sA, sB, sC]
   have HH := hidden hH3
   have FQ := hidden (HQ.out _ p1 c1 HH.out)
   refine wpAnyH_done (by kernel_rfl) ?_ _
   refine NoPanic.normal ?_
   exact FQ.out
  ·unfold lg9ao_11
   have HH := hidden hH1
   clear hH1
   refine Eq.mpr (if_pos (by exact rfl)) ?_
   refine wp_conv _ rfl rfl BY.out ?_
   simp only [Act.put, sA, sB, sC]
   have SN := HH
   clear HH
   refine hK.out _ _ SN.out (fun hH2 => ?_)
   clear hK K SN
   refine wpAnyH_ready (rs := [9]) (by kernel_rfl) (by simp) ?_
   refine AllReadyH.cons (o := lg9ao_9) rfl (fun K hK => ?_) AllReadyH.nil
   unfold lg9ao_9
   have HH := hidden hH2
   clear hH2
   refine Eq.mpr (if_pos (by exact rfl)) ?_
   refine wp_conv _ rfl rfl BN.out ?_
   simp only [Act.put, sA, sB, sC]
   have SN := HH
   clear HH
   refine hK.out _ _ SN.out (fun hH3 => ?_)
   clear hK K SN
   refine tk 12 lg9ao_12 (.bool true) rfl (by kernel_rfl) hH3 rfl (fun w0 hSw => ?_) ?_
   ·(unfold lg9ao_12; clear hSw; go_simp)
   simp only [lg9ao_12, Act.put, sA, sB, sC]
   refine tk 13 lg9ao_13 (.bool true) rfl (by kernel_rfl) hH3 rfl (fun w0 hSw => ?_) ?_
   ·(unfold lg9ao_13; clear hSw; go_simp)
   simp only [lg9ao_13, Act.put, sA, sB, sC]
   refine tk 14 lg9ao_14 (.bool true) rfl (by kernel_rfl) hH3 rfl (fun w0 hSw => ?_) ?_
   ·(unfold lg9ao_14; clear hSw; go_simp)
   simp only [lg9ao_14, Act.put, sA, sB, sC]
   have HH := hidden hH3
   have FQ := hidden (HQ.out _ p1 c1 HH.out)
   refine wpAnyH_done (by kernel_rfl) ?_ _
   refine NoPanic.normal ?_
   exact FQ.out
 ·unfold lg9ao_11
  have HH := hidden hH0
  clear hH0
  refine Eq.mpr (if_pos (by exact rfl)) ?_
  refine wp_conv _ rfl rfl BY.out ?_
  simp only [Act.put, sA, sB, sC]
  have SN := HH
  clear HH
  refine hK.out _ _ SN.out (fun hH1 => ?_)
  clear hK K SN
  refine wpAnyH_ready (rs := [8]) (by kernel_rfl) (by simp) ?_
  refine AllReadyH.cons (o := lg9ao_8) rfl (fun K hK => ?_) AllReadyH.nil
  unfold lg9ao_8
  have HH := hidden hH1
  clear hH1
  go_simp
  refine (C8.out _ HH.out).mono ?_
  rintro e wn2 ⟨p1, c1, rfl, hy, hb⟩
  have SN := hidden (bl_trans HH.out hb)
  replace BY := hidden (BY.out.keep hb)
  have BN := hidden (hy)
  clear HH C8 hb hy
  go_wp2_with fail
  refine hK.out _ _ SN.out (fun hH2 => ?_)
  clear hK K SN
  refine wpAnyH_ready (rs := [9]) (by kernel_rfl) (by simp) ?_
  refine AllReadyH.cons (o := lg9ao_9) rfl (fun K hK => ?_) AllReadyH.nil
  unfold lg9ao_9
  have HH := hidden hH2
  clear hH2
  refine Eq.mpr (if_pos (by exact rfl)) ?_
  refine wp_conv _ rfl rfl BN.out ?_
  simp only [Act.put, sA, sB, sC]
  have SN := HH
  clear HH
  refine hK.out _ _ SN.out (fun hH3 => ?_)
  clear hK K SN
  refine tk 12 lg9ao_12 (.bool true) rfl (by kernel_rfl) hH3 rfl (fun w0 hSw => ?_) ?_
  ·(unfold lg9ao_12; clear hSw; go_simp)
  simp only [lg9ao_12, Act.put, sA, sB, sC]
  refine tk 13 lg9ao_13 (.bool true) rfl (by kernel_rfl) hH3 rfl (fun w0 hSw => ?_) ?_
  ·(unfold lg9ao_13; clear hSw; go_simp)
  simp only [lg9ao_13, Act.put, sA, sB, sC]
  refine tk 14 lg9ao_14 (.bool true) rfl (by kernel_rfl) hH3 rfl (fun w0 hSw => ?_) ?_
  ·(unfold lg9ao_14; clear hSw; go_simp)
  simp only [lg9ao_14, Act.put, sA, sB, sC]
  have HH := hidden hH3
  have FQ := hidden (HQ.out _ p1 c1 HH.out)
  refine wpAnyH_done (by kernel_rfl) ?_ _
  refine NoPanic.normal ?_
  exact FQ.out
def lg9bo : Array Oper := #[{ dst := some 59, op := Op.move (Operand.tmp 16), type := 33, pos := "outright.go:150", after := #[], guard := none },
 { dst := some 60, op := Op.binOp BinOp.eql 33 (Operand.tmp 59) (Operand.const (Value.int IntKind.i64 200)) 33, type := 4, pos := "outright.go:150", after := #[{ on := 0, ground := Ground.data }], guard := none },
 { dst := some 61, op := Op.move (Operand.tmp 60), type := 4, pos := "outright.go:150", after := #[{ on := 1, ground := Ground.data }], guard := none },
 { dst := some 62, op := Op.move (Operand.tmp 16), type := 33, pos := "outright.go:150", after := #[{ on := 2, ground := Ground.guard }], guard := some (2, false) },
 { dst := some 63, op := Op.binOp BinOp.eql 33 (Operand.tmp 62) (Operand.const (Value.int IntKind.i64 201)) 33, type := 4, pos := "outright.go:150", after := #[{ on := 3, ground := Ground.data }, { on := 2, ground := Ground.guard }], guard := some (2, false) },
 { dst := some 64, op := Op.pick (Operand.tmp 61) (Operand.const (Value.bool true)) (Operand.tmp 63), type := 4, pos := "outright.go:150", after := #[{ on := 2, ground := Ground.data }, { on := 4, ground := Ground.data }], guard := none },
 { dst := some 65, op := Op.move (Operand.tmp 64), type := 4, pos := "outright.go:150", after := #[{ on := 5, ground := Ground.data }, { on := 2, ground := Ground.chain }], guard := none },
 { dst := some 66, op := Op.move (Operand.tmp 11), type := 27, pos := "outright.go:150", after := #[{ on := 6, ground := Ground.guard }], guard := some (6, true) },
 { dst := some 67, op := Op.call { callee := Callee.value (Operand.func 6), args := #[Operand.tmp 66], argTypes := #[27] }, type := 29, pos := "outright.go:150", after := #[{ on := 7, ground := Ground.data }, { on := 6, ground := Ground.chain }, { on := 6, ground := Ground.guard }], guard := some (6, true) },
 { dst := some 68, op := Op.convert 29 9 (Operand.tmp 67), type := 9, pos := "outright.go:150", after := #[{ on := 8, ground := Ground.data }, { on := 6, ground := Ground.guard }], guard := some (6, true) },
 { dst := some 69, op := Op.move (Operand.tmp 12), type := 29, pos := "outright.go:150", after := #[{ on := 6, ground := Ground.guard }], guard := some (6, true) },
 { dst := some 70, op := Op.convert 29 9 (Operand.tmp 69), type := 9, pos := "outright.go:150", after := #[{ on := 10, ground := Ground.data }, { on := 6, ground := Ground.guard }], guard := some (6, true) },
 { dst := some 71, op := Op.binOp BinOp.eql 9 (Operand.tmp 68) (Operand.tmp 70) 9, type := 4, pos := "outright.go:150", after := #[{ on := 9, ground := Ground.data }, { on := 11, ground := Ground.data }, { on := 6, ground := Ground.guard }], guard := some (6, true) },
 { dst := some 72, op := Op.pick (Operand.tmp 65) (Operand.tmp 71) (Operand.const (Value.bool false)), type := 4, pos := "outright.go:150", after := #[{ on := 6, ground := Ground.data }, { on := 12, ground := Ground.data }], guard := none },
 { dst := some 10, op := Op.assign (Operand.tmp 72), type := 4, pos := "outright.go:150", after := #[{ on := 13, ground := Ground.data }, { on := 8, ground := Ground.chain }, { on := 0, ground := Ground.phase }, { on := 1, ground := Ground.phase }, { on := 2, ground := Ground.phase }, { on := 3, ground := Ground.phase }, { on := 4, ground := Ground.phase }, { on := 5, ground := Ground.phase }, { on := 6, ground := Ground.phase }, { on := 7, ground := Ground.phase }, { on := 8, ground := Ground.phase }, { on := 9, ground := Ground.phase }, { on := 10, ground := Ground.phase }, { on := 11, ground := Ground.phase }, { on := 12, ground := Ground.phase }, { on := 13, ground := Ground.phase }], guard := none }]
set_option maxRecDepth 100000 in
set_option maxHeartbeats 16000000 in
theorem lg9b (Q : Exit → Act → World → Prop) (sb c0 : Nat) (p0 : Option Addr) (bs : List UInt8) (u0 u1 u2 u3 u4 u5 u6 u7 u8 u9 uA uD uE uF uH uI uJ uK uL uM uN uO uP uQ uR uS uT uU uV uW uX uY uZ ua ub uc ud ue uf ug uh ui uj uk ul um un uo up uq ur us ut uu uv uw ux uy uz u0A u0B u0C u0D u0E u0F u0G u0H u0I u0J u0K u0L u0M u0N u0O u0P u0Q u0R u0S u0T u0U u0V u0W u0X u0Y u0Z u0a u0b u0c u0d u0e u0f u0g u0h u0i u0j u0k u0l u0m u0n u0o u0p u0q u0r u0s u0t u0u u0v u0w u0x u0y u0z u1A u1B u1C u1D u1E u1F u1G u1H u1I u1J u1K u1L u1M u1N u1O u1P u1Q u1R u1S u1T u1U u1V u1W u1X u1Y u1Z u1a u1b u1c u1d u1e u1f u1g u1h u1i u1j u1k u1l u1m u1n u1o u1p u1q u1r u1s u1t u1u u1v u1w u1x u1y u1z u2A u2B u2C u2D u2E u2F u2G u2H u2I u2J u2K u2L u2M u2N u2O u2P u2Q u2R u2S u2T u2U u2V u2W u2X u2Y u2Z u2a u2b u2c u2d u2e u2f u2g u2h u2i u2j u2k u2l u2m u2n u2o u2p u2q u2r u2s u2t u2u u2v u2w u2x u2y u2z u3A u3B u3C u3D u3E u3F u3G u3H u3I u3J u3K u3L u3M u3N u3O u3P u3Q u3R u3S u3T u3U u3V u3W u3X u3Y u3Z u3a u3b u3c u3d u3e u3f u3g u3h u3i u3j u3k u3l u3m u3n u3o u3p u3q u3r u3s u3t u3u u3v u3w u3x u3y u3z : Value) (W : World)
  (by0 : By W p0 c0 bs)
  (C8 : Hid (∀ yy, Below W.heap.size W yy → Calls Tryd.prog 6 #[.pointer (some ⟨sb, 0, none⟩)] yy fun e w' => ∃ p1 c1, e = .returned (.slice p1 bs.length c1) ∧ By w' p1 c1 bs ∧ Below yy.heap.size yy w'))
  (HQ : Hid (∀ (wz : World) (p1 : Option Addr) (c1 : Nat), Below W.heap.size W wz → Q .normal ⟨#[u0, u1, u2, u3, u4, u5, u6, u7, u8, u9, .bool true, .pointer (some ⟨sb, 0, none⟩), .slice p0 bs.length c0, uD, uE, uF, .int .i64 201, uH, uI, uJ, uK, uL, uM, uN, uO, uP, uQ, uR, uS, uT, uU, uV, uW, uX, uY, uZ, ua, ub, uc, ud, ue, uf, ug, uh, ui, uj, uk, ul, um, un, uo, up, uq, ur, us, ut, uu, uv, uw, .int .i64 201, .bool false, .bool false, .int .i64 201, .bool true, .bool true, .bool true, .pointer (some ⟨sb, 0, none⟩), .slice p1 bs.length c1, .string (Tr.sb bs), .slice p0 bs.length c0, .string (Tr.sb bs), .bool true, .bool true, u0L, u0M, u0N, u0O, u0P, u0Q, u0R, u0S, u0T, u0U, u0V, u0W, u0X, u0Y, u0Z, u0a, u0b, u0c, u0d, u0e, u0f, u0g, u0h, u0i, u0j, u0k, u0l, u0m, u0n, u0o, u0p, u0q, u0r, u0s, u0t, u0u, u0v, u0w, u0x, u0y, u0z, u1A, u1B, u1C, u1D, u1E, u1F, u1G, u1H, u1I, u1J, u1K, u1L, u1M, u1N, u1O, u1P, u1Q, u1R, u1S, u1T, u1U, u1V, u1W, u1X, u1Y, u1Z, u1a, u1b, u1c, u1d, u1e, u1f, u1g, u1h, u1i, u1j, u1k, u1l, u1m, u1n, u1o, u1p, u1q, u1r, u1s, u1t, u1u, u1v, u1w, u1x, u1y, u1z, u2A, u2B, u2C, u2D, u2E, u2F, u2G, u2H, u2I, u2J, u2K, u2L, u2M, u2N, u2O, u2P, u2Q, u2R, u2S, u2T, u2U, u2V, u2W, u2X, u2Y, u2Z, u2a, u2b, u2c, u2d, u2e, u2f, u2g, u2h, u2i, u2j, u2k, u2l, u2m, u2n, u2o, u2p, u2q, u2r, u2s, u2t, u2u, u2v, u2w, u2x, u2y, u2z, u3A, u3B, u3C, u3D, u3E, u3F, u3G, u3H, u3I, u3J, u3K, u3L, u3M, u3N, u3O, u3P, u3Q, u3R, u3S, u3T, u3U, u3V, u3W, u3X, u3Y, u3Z, u3a, u3b, u3c, u3d, u3e, u3f, u3g, u3h, u3i, u3j, u3k, u3l, u3m, u3n, u3o, u3p, u3q, u3r, u3s, u3t, u3u, u3v, u3w, u3x, u3y, u3z], []⟩ wz)) : (Code.region 9 lg9bo true).wp Tryd.prog Q ⟨#[u0, u1, u2, u3, u4, u5, u6, u7, u8, u9, uA, .pointer (some ⟨sb, 0, none⟩), .slice p0 bs.length c0, uD, uE, uF, .int .i64 201, uH, uI, uJ, uK, uL, uM, uN, uO, uP, uQ, uR, uS, uT, uU, uV, uW, uX, uY, uZ, ua, ub, uc, ud, ue, uf, ug, uh, ui, uj, uk, ul, um, un, uo, up, uq, ur, us, ut, uu, uv, uw, ux, uy, uz, u0A, u0B, u0C, u0D, u0E, u0F, u0G, u0H, u0I, u0J, u0K, u0L, u0M, u0N, u0O, u0P, u0Q, u0R, u0S, u0T, u0U, u0V, u0W, u0X, u0Y, u0Z, u0a, u0b, u0c, u0d, u0e, u0f, u0g, u0h, u0i, u0j, u0k, u0l, u0m, u0n, u0o, u0p, u0q, u0r, u0s, u0t, u0u, u0v, u0w, u0x, u0y, u0z, u1A, u1B, u1C, u1D, u1E, u1F, u1G, u1H, u1I, u1J, u1K, u1L, u1M, u1N, u1O, u1P, u1Q, u1R, u1S, u1T, u1U, u1V, u1W, u1X, u1Y, u1Z, u1a, u1b, u1c, u1d, u1e, u1f, u1g, u1h, u1i, u1j, u1k, u1l, u1m, u1n, u1o, u1p, u1q, u1r, u1s, u1t, u1u, u1v, u1w, u1x, u1y, u1z, u2A, u2B, u2C, u2D, u2E, u2F, u2G, u2H, u2I, u2J, u2K, u2L, u2M, u2N, u2O, u2P, u2Q, u2R, u2S, u2T, u2U, u2V, u2W, u2X, u2Y, u2Z, u2a, u2b, u2c, u2d, u2e, u2f, u2g, u2h, u2i, u2j, u2k, u2l, u2m, u2n, u2o, u2p, u2q, u2r, u2s, u2t, u2u, u2v, u2w, u2x, u2y, u2z, u3A, u3B, u3C, u3D, u3E, u3F, u3G, u3H, u3I, u3J, u3K, u3L, u3M, u3N, u3O, u3P, u3Q, u3R, u3S, u3T, u3U, u3V, u3W, u3X, u3Y, u3Z, u3a, u3b, u3c, u3d, u3e, u3f, u3g, u3h, u3i, u3j, u3k, u3l, u3m, u3n, u3o, u3p, u3q, u3r, u3s, u3t, u3u, u3v, u3w, u3x, u3y, u3z], []⟩ W := by
 have BY := hidden (by0.keep (bl_drew W))
 clear by0
 unfold lg9bo
 refine wp_region_noPanic ?_
 refine wp_region_held_drew (S := fun x => Below W.heap.size W x) (by kernel_rfl) (bl_drew W) (fun hH0 => ?_)
 refine tk 0 lg9ao_0 (.int .i64 201) rfl (by kernel_rfl) hH0 rfl (fun w0 hSw => ?_) ?_
 ·(unfold lg9ao_0; clear hSw; go_simp)
 simp only [lg9ao_0, Act.put, sA, sB, sC]
 refine tk 1 lg9ao_1 (.bool false) rfl (by kernel_rfl) hH0 rfl (fun w0 hSw => ?_) ?_
 ·(unfold lg9ao_1; clear hSw; go_simp)
 simp only [lg9ao_1, Act.put, sA, sB, sC]
 refine tk 2 lg9ao_2 (.bool false) rfl (by kernel_rfl) hH0 rfl (fun w0 hSw => ?_) ?_
 ·(unfold lg9ao_2; clear hSw; go_simp)
 simp only [lg9ao_2, Act.put, sA, sB, sC]
 refine tk 3 lg9ao_3 (.int .i64 201) rfl (by kernel_rfl) hH0 rfl (fun w0 hSw => ?_) ?_
 ·(unfold lg9ao_3; clear hSw; go_simp)
 simp only [lg9ao_3, Act.put, sA, sB, sC]
 refine tk 4 lg9ao_4 (.bool true) rfl (by kernel_rfl) hH0 rfl (fun w0 hSw => ?_) ?_
 ·(unfold lg9ao_4; clear hSw; go_simp)
 simp only [lg9ao_4, Act.put, sA, sB, sC]
 refine tk 5 lg9ao_5 (.bool true) rfl (by kernel_rfl) hH0 rfl (fun w0 hSw => ?_) ?_
 ·(unfold lg9ao_5; clear hSw; go_simp)
 simp only [lg9ao_5, Act.put, sA, sB, sC]
 refine tk 6 lg9ao_6 (.bool true) rfl (by kernel_rfl) hH0 rfl (fun w0 hSw => ?_) ?_
 ·(unfold lg9ao_6; clear hSw; go_simp)
 simp only [lg9ao_6, Act.put, sA, sB, sC]
 refine tk 7 lg9ao_7 (.pointer (some ⟨sb, 0, none⟩)) rfl (by kernel_rfl) hH0 rfl (fun w0 hSw => ?_) ?_
 ·(unfold lg9ao_7; clear hSw; go_simp)
 simp only [lg9ao_7, Act.put, sA, sB, sC]
 refine tk 10 lg9ao_10 (.slice p0 bs.length c0) rfl (by kernel_rfl) hH0 rfl (fun w0 hSw => ?_) ?_
 ·(unfold lg9ao_10; clear hSw; go_simp)
 simp only [lg9ao_10, Act.put, sA, sB, sC]
 refine wpAnyH_ready (rs := [8, 11]) (by kernel_rfl) (by simp) ?_
 refine AllReadyH.cons (o := lg9ao_8) rfl (fun K hK => ?_) (AllReadyH.cons (o := lg9ao_11) rfl (fun K hK => ?_) AllReadyH.nil)
 ·unfold lg9ao_8
  have HH := hidden hH0
  clear hH0
  go_simp
  refine (C8.out _ HH.out).mono ?_
  rintro e wn1 ⟨p1, c1, rfl, hy, hb⟩
  have SN := hidden (bl_trans HH.out hb)
  replace BY := hidden (BY.out.keep hb)
  have BN := hidden (hy)
  clear HH C8 hb hy
  go_wp2_with fail
  refine hK.out _ _ SN.out (fun hH1 => ?_)
  clear hK K SN
  refine wpAnyH_ready (rs := [9, 11]) (by kernel_rfl) (by simp) ?_
  refine AllReadyH.cons (o := lg9ao_9) rfl (fun K hK => ?_) (AllReadyH.cons (o := lg9ao_11) rfl (fun K hK => ?_) AllReadyH.nil)
  ·unfold lg9ao_9
   have HH := hidden hH1
   clear hH1
   refine Eq.mpr (if_pos (by exact rfl)) ?_
   refine wp_conv _ rfl rfl BN.out ?_
   simp only [Act.put, sA, sB, sC]
   have SN := HH
   clear HH
   refine hK.out _ _ SN.out (fun hH2 => ?_)
   clear hK K SN
   refine wpAnyH_ready (rs := [11]) (by kernel_rfl) (by simp) ?_
   refine AllReadyH.cons (o := lg9ao_11) rfl (fun K hK => ?_) AllReadyH.nil
   unfold lg9ao_11
   have HH := hidden hH2
   clear hH2
   refine Eq.mpr (if_pos (by exact rfl)) ?_
   refine wp_conv _ rfl rfl BY.out ?_
   simp only [Act.put, sA, sB, sC]
   have SN := HH
   clear HH
   refine hK.out _ _ SN.out (fun hH3 => ?_)
   clear hK K SN
   refine tk 12 lg9ao_12 (.bool true) rfl (by kernel_rfl) hH3 rfl (fun w0 hSw => ?_) ?_
   ·(unfold lg9ao_12; clear hSw; go_simp)
   simp only [lg9ao_12, Act.put, sA, sB, sC]
   refine tk 13 lg9ao_13 (.bool true) rfl (by kernel_rfl) hH3 rfl (fun w0 hSw => ?_) ?_
   ·(unfold lg9ao_13; clear hSw; go_simp)
   simp only [lg9ao_13, Act.put, sA, sB, sC]
   refine tk 14 lg9ao_14 (.bool true) rfl (by kernel_rfl) hH3 rfl (fun w0 hSw => ?_) ?_
   ·(unfold lg9ao_14; clear hSw; go_simp)
   simp only [lg9ao_14, Act.put, sA, sB, sC]
   have HH := hidden hH3
   have FQ := hidden (HQ.out _ p1 c1 HH.out)
   refine wpAnyH_done (by kernel_rfl) ?_ _
   refine NoPanic.normal ?_
   exact FQ.out
  ·unfold lg9ao_11
   have HH := hidden hH1
   clear hH1
   refine Eq.mpr (if_pos (by exact rfl)) ?_
   refine wp_conv _ rfl rfl BY.out ?_
   simp only [Act.put, sA, sB, sC]
   have SN := HH
   clear HH
   refine hK.out _ _ SN.out (fun hH2 => ?_)
   clear hK K SN
   refine wpAnyH_ready (rs := [9]) (by kernel_rfl) (by simp) ?_
   refine AllReadyH.cons (o := lg9ao_9) rfl (fun K hK => ?_) AllReadyH.nil
   unfold lg9ao_9
   have HH := hidden hH2
   clear hH2
   refine Eq.mpr (if_pos (by exact rfl)) ?_
   refine wp_conv _ rfl rfl BN.out ?_
   simp only [Act.put, sA, sB, sC]
   have SN := HH
   clear HH
   refine hK.out _ _ SN.out (fun hH3 => ?_)
   clear hK K SN
   refine tk 12 lg9ao_12 (.bool true) rfl (by kernel_rfl) hH3 rfl (fun w0 hSw => ?_) ?_
   ·(unfold lg9ao_12; clear hSw; go_simp)
   simp only [lg9ao_12, Act.put, sA, sB, sC]
   refine tk 13 lg9ao_13 (.bool true) rfl (by kernel_rfl) hH3 rfl (fun w0 hSw => ?_) ?_
   ·(unfold lg9ao_13; clear hSw; go_simp)
   simp only [lg9ao_13, Act.put, sA, sB, sC]
   refine tk 14 lg9ao_14 (.bool true) rfl (by kernel_rfl) hH3 rfl (fun w0 hSw => ?_) ?_
   ·(unfold lg9ao_14; clear hSw; go_simp)
   simp only [lg9ao_14, Act.put, sA, sB, sC]
   have HH := hidden hH3
   have FQ := hidden (HQ.out _ p1 c1 HH.out)
   refine wpAnyH_done (by kernel_rfl) ?_ _
   refine NoPanic.normal ?_
   exact FQ.out
 ·unfold lg9ao_11
  have HH := hidden hH0
  clear hH0
  refine Eq.mpr (if_pos (by exact rfl)) ?_
  refine wp_conv _ rfl rfl BY.out ?_
  simp only [Act.put, sA, sB, sC]
  have SN := HH
  clear HH
  refine hK.out _ _ SN.out (fun hH1 => ?_)
  clear hK K SN
  refine wpAnyH_ready (rs := [8]) (by kernel_rfl) (by simp) ?_
  refine AllReadyH.cons (o := lg9ao_8) rfl (fun K hK => ?_) AllReadyH.nil
  unfold lg9ao_8
  have HH := hidden hH1
  clear hH1
  go_simp
  refine (C8.out _ HH.out).mono ?_
  rintro e wn2 ⟨p1, c1, rfl, hy, hb⟩
  have SN := hidden (bl_trans HH.out hb)
  replace BY := hidden (BY.out.keep hb)
  have BN := hidden (hy)
  clear HH C8 hb hy
  go_wp2_with fail
  refine hK.out _ _ SN.out (fun hH2 => ?_)
  clear hK K SN
  refine wpAnyH_ready (rs := [9]) (by kernel_rfl) (by simp) ?_
  refine AllReadyH.cons (o := lg9ao_9) rfl (fun K hK => ?_) AllReadyH.nil
  unfold lg9ao_9
  have HH := hidden hH2
  clear hH2
  refine Eq.mpr (if_pos (by exact rfl)) ?_
  refine wp_conv _ rfl rfl BN.out ?_
  simp only [Act.put, sA, sB, sC]
  have SN := HH
  clear HH
  refine hK.out _ _ SN.out (fun hH3 => ?_)
  clear hK K SN
  refine tk 12 lg9ao_12 (.bool true) rfl (by kernel_rfl) hH3 rfl (fun w0 hSw => ?_) ?_
  ·(unfold lg9ao_12; clear hSw; go_simp)
  simp only [lg9ao_12, Act.put, sA, sB, sC]
  refine tk 13 lg9ao_13 (.bool true) rfl (by kernel_rfl) hH3 rfl (fun w0 hSw => ?_) ?_
  ·(unfold lg9ao_13; clear hSw; go_simp)
  simp only [lg9ao_13, Act.put, sA, sB, sC]
  refine tk 14 lg9ao_14 (.bool true) rfl (by kernel_rfl) hH3 rfl (fun w0 hSw => ?_) ?_
  ·(unfold lg9ao_14; clear hSw; go_simp)
  simp only [lg9ao_14, Act.put, sA, sB, sC]
  have HH := hidden hH3
  have FQ := hidden (HQ.out _ p1 c1 HH.out)
  refine wpAnyH_done (by kernel_rfl) ?_ _
  refine NoPanic.normal ?_
  exact FQ.out
def lg24o_0 : Oper := { dst := some 179, op := Op.load 41 (Operand.tmp 30), type := 41, pos := "outright.go:167", after := #[], guard := none }
def lg24o_1 : Oper := { dst := some 180, op := Op.call { callee := Callee.value (Operand.func 14), args := #[Operand.tmp 179], argTypes := #[41] }, type := 4, pos := "outright.go:167", after := #[{ on := 0, ground := Ground.data }], guard := none }
def lg24o_2 : Oper := { dst := some 181, op := Op.unOp UnOp.not 4 (Operand.tmp 180), type := 4, pos := "outright.go:167", after := #[{ on := 1, ground := Ground.data }], guard := none }
def lg24o_3 : Oper := { dst := some 182, op := Op.move (Operand.tmp 181), type := 4, pos := "outright.go:167", after := #[{ on := 2, ground := Ground.data }, { on := 1, ground := Ground.chain }], guard := none }
def lg24o_4 : Oper := { dst := some 183, op := Op.load 41 (Operand.tmp 32), type := 41, pos := "outright.go:167", after := #[{ on := 3, ground := Ground.guard }], guard := some (3, false) }
def lg24o_5 : Oper := { dst := some 184, op := Op.call { callee := Callee.value (Operand.func 14), args := #[Operand.tmp 183], argTypes := #[41] }, type := 4, pos := "outright.go:167", after := #[{ on := 4, ground := Ground.data }, { on := 3, ground := Ground.chain }, { on := 3, ground := Ground.guard }], guard := some (3, false) }
def lg24o_6 : Oper := { dst := some 185, op := Op.unOp UnOp.not 4 (Operand.tmp 184), type := 4, pos := "outright.go:167", after := #[{ on := 5, ground := Ground.data }, { on := 3, ground := Ground.guard }], guard := some (3, false) }
def lg24o_7 : Oper := { dst := some 186, op := Op.pick (Operand.tmp 182) (Operand.const (Value.bool true)) (Operand.tmp 185), type := 4, pos := "outright.go:167", after := #[{ on := 3, ground := Ground.data }, { on := 6, ground := Ground.data }], guard := none }
def lg24o_8 : Oper := { dst := some 187, op := Op.move (Operand.tmp 186), type := 4, pos := "outright.go:167", after := #[{ on := 7, ground := Ground.data }, { on := 5, ground := Ground.chain }], guard := none }
def lg24o_9 : Oper := { dst := some 188, op := Op.load 41 (Operand.tmp 22), type := 41, pos := "outright.go:167", after := #[{ on := 8, ground := Ground.guard }], guard := some (8, false) }
def lg24o_10 : Oper := { dst := some 189, op := Op.load 41 (Operand.tmp 18), type := 41, pos := "outright.go:167", after := #[{ on := 8, ground := Ground.guard }], guard := some (8, false) }
def lg24o_11 : Oper := { dst := some 190, op := Op.load 41 (Operand.tmp 20), type := 41, pos := "outright.go:167", after := #[{ on := 8, ground := Ground.guard }], guard := some (8, false) }
def lg24o_12 : Oper := { dst := some 191, op := Op.call { callee := Callee.value (Operand.func 11), args := #[Operand.tmp 189, Operand.tmp 190], argTypes := #[41, 41] }, type := 41, pos := "outright.go:167", after := #[{ on := 10, ground := Ground.data }, { on := 11, ground := Ground.data }, { on := 8, ground := Ground.chain }, { on := 8, ground := Ground.guard }], guard := some (8, false) }
def lg24o_13 : Oper := { dst := some 192, op := Op.call { callee := Callee.value (Operand.func 15), args := #[Operand.tmp 188, Operand.tmp 191], argTypes := #[41, 41] }, type := 4, pos := "outright.go:167", after := #[{ on := 9, ground := Ground.data }, { on := 12, ground := Ground.data }, { on := 12, ground := Ground.chain }, { on := 8, ground := Ground.guard }], guard := some (8, false) }
def lg24o_14 : Oper := { dst := some 193, op := Op.unOp UnOp.not 4 (Operand.tmp 192), type := 4, pos := "outright.go:167", after := #[{ on := 13, ground := Ground.data }, { on := 8, ground := Ground.guard }], guard := some (8, false) }
def lg24o_15 : Oper := { dst := some 194, op := Op.pick (Operand.tmp 187) (Operand.const (Value.bool true)) (Operand.tmp 193), type := 4, pos := "outright.go:167", after := #[{ on := 8, ground := Ground.data }, { on := 14, ground := Ground.data }], guard := none }
def lg24o : Array Oper := #[lg24o_0, lg24o_1, lg24o_2, lg24o_3, lg24o_4, lg24o_5, lg24o_6, lg24o_7, lg24o_8, lg24o_9, lg24o_10, lg24o_11, lg24o_12, lg24o_13, lg24o_14, lg24o_15]
set_option maxRecDepth 100000 in
set_option maxHeartbeats 16000000 in
theorem lg24 (Q : Exit → Act → World → Prop) (b30 b32 b22 b18 b20 : Nat) (b c p n m u : E4) (u0 u1 u2 u3 u4 u5 u6 u7 u8 u9 uA uB uC uD uE uF uG uH uJ uL uN uO uP uQ uR uS uT uV uX uY uZ ua ub uc ud ue uf ug uh ui uj uk ul um un uo up uq ur us ut uu uv uw ux uy uz u0A u0B u0C u0D u0E u0F u0G u0H u0I u0J u0K u0L u0M u0N u0O u0P u0Q u0R u0S u0T u0U u0V u0W u0X u0Y u0Z u0a u0b u0c u0d u0e u0f u0g u0h u0i u0j u0k u0l u0m u0n u0o u0p u0q u0r u0s u0t u0u u0v u0w u0x u0y u0z u1A u1B u1C u1D u1E u1F u1G u1H u1I u1J u1K u1L u1M u1N u1O u1P u1Q u1R u1S u1T u1U u1V u1W u1X u1Y u1Z u1a u1b u1c u1d u1e u1f u1g u1h u1i u1j u1k u1l u1m u1n u1o u1p u1q u1r u1s u1t u1u u1v u1w u1x u1y u1z u2A u2B u2C u2D u2E u2F u2G u2H u2I u2J u2K u2L u2M u2N u2O u2P u2Q u2R u2S u2T u2U u2V u2W u2X u2Y u2Z u2a u2b u2c u2d u2e u2f u2g u2h u2i u2j u2k u2l u2m u2n u2o u2p u2q u2r u2s u2t u2u u2v u2w u2x u2y u2z u3A u3B u3C u3D u3E u3F u3G u3H u3I u3J u3K u3L u3M u3N u3O u3P u3Q u3R u3S u3T u3U u3V u3W u3X u3Y u3Z u3a u3b u3c u3d u3e u3f u3g u3h u3i u3j u3k u3l u3m u3n u3o u3p u3q u3r u3s u3t u3u u3v u3w u3x u3y u3z : Value) (W : World)
  (b0 : W.cell? ⟨b30, 0, none⟩ = some (.int .u64 b.x0)) (b1 : W.cell? ⟨b30, 1, none⟩ = some (.int .u64 b.x1)) (b2 : W.cell? ⟨b30, 2, none⟩ = some (.int .u64 b.x2)) (b3 : W.cell? ⟨b30, 3, none⟩ = some (.int .u64 b.x3)) (c0 : W.cell? ⟨b32, 0, none⟩ = some (.int .u64 c.x0)) (c1 : W.cell? ⟨b32, 1, none⟩ = some (.int .u64 c.x1)) (c2 : W.cell? ⟨b32, 2, none⟩ = some (.int .u64 c.x2)) (c3 : W.cell? ⟨b32, 3, none⟩ = some (.int .u64 c.x3)) (p0 : W.cell? ⟨b22, 0, none⟩ = some (.int .u64 p.x0)) (p1 : W.cell? ⟨b22, 1, none⟩ = some (.int .u64 p.x1)) (p2 : W.cell? ⟨b22, 2, none⟩ = some (.int .u64 p.x2)) (p3 : W.cell? ⟨b22, 3, none⟩ = some (.int .u64 p.x3)) (n0 : W.cell? ⟨b18, 0, none⟩ = some (.int .u64 n.x0)) (n1 : W.cell? ⟨b18, 1, none⟩ = some (.int .u64 n.x1)) (n2 : W.cell? ⟨b18, 2, none⟩ = some (.int .u64 n.x2)) (n3 : W.cell? ⟨b18, 3, none⟩ = some (.int .u64 n.x3)) (m0 : W.cell? ⟨b20, 0, none⟩ = some (.int .u64 m.x0)) (m1 : W.cell? ⟨b20, 1, none⟩ = some (.int .u64 m.x1)) (m2 : W.cell? ⟨b20, 2, none⟩ = some (.int .u64 m.x2)) (m3 : W.cell? ⟨b20, 3, none⟩ = some (.int .u64 m.x3))
  (C1 : Hid (∀ yy, Below W.heap.size W yy → Calls Tryd.prog 14 #[.agg #[.int .u64 b.x0, .int .u64 b.x1, .int .u64 b.x2, .int .u64 b.x3]] yy fun e w' => e = .returned (.bool true) ∧ Below yy.heap.size yy w'))
  (C5 : Hid (∀ yy, Below W.heap.size W yy → Calls Tryd.prog 14 #[.agg #[.int .u64 c.x0, .int .u64 c.x1, .int .u64 c.x2, .int .u64 c.x3]] yy fun e w' => e = .returned (.bool true) ∧ Below yy.heap.size yy w'))
  (C12 : Hid (∀ yy, Below W.heap.size W yy → Calls Tryd.prog 11 #[.agg #[.int .u64 n.x0, .int .u64 n.x1, .int .u64 n.x2, .int .u64 n.x3], .agg #[.int .u64 m.x0, .int .u64 m.x1, .int .u64 m.x2, .int .u64 m.x3]] yy fun e w' => e = .returned (.agg #[.int .u64 u.x0, .int .u64 u.x1, .int .u64 u.x2, .int .u64 u.x3]) ∧ Below yy.heap.size yy w'))
  (C13 : Hid (∀ yy, Below W.heap.size W yy → Calls Tryd.prog 15 #[.agg #[.int .u64 p.x0, .int .u64 p.x1, .int .u64 p.x2, .int .u64 p.x3], .agg #[.int .u64 u.x0, .int .u64 u.x1, .int .u64 u.x2, .int .u64 u.x3]] yy fun e w' => e = .returned (.bool true) ∧ Below yy.heap.size yy w'))
  (HQ : Hid (∀ (wz : World), Below W.heap.size W wz → Q .normal ⟨#[u0, u1, u2, u3, u4, u5, u6, u7, u8, u9, uA, uB, uC, uD, uE, uF, uG, uH, .pointer (some ⟨b18, 0, none⟩), uJ, .pointer (some ⟨b20, 0, none⟩), uL, .pointer (some ⟨b22, 0, none⟩), uN, uO, uP, uQ, uR, uS, uT, .pointer (some ⟨b30, 0, none⟩), uV, .pointer (some ⟨b32, 0, none⟩), uX, uY, uZ, ua, ub, uc, ud, ue, uf, ug, uh, ui, uj, uk, ul, um, un, uo, up, uq, ur, us, ut, uu, uv, uw, ux, uy, uz, u0A, u0B, u0C, u0D, u0E, u0F, u0G, u0H, u0I, u0J, u0K, u0L, u0M, u0N, u0O, u0P, u0Q, u0R, u0S, u0T, u0U, u0V, u0W, u0X, u0Y, u0Z, u0a, u0b, u0c, u0d, u0e, u0f, u0g, u0h, u0i, u0j, u0k, u0l, u0m, u0n, u0o, u0p, u0q, u0r, u0s, u0t, u0u, u0v, u0w, u0x, u0y, u0z, u1A, u1B, u1C, u1D, u1E, u1F, u1G, u1H, u1I, u1J, u1K, u1L, u1M, u1N, u1O, u1P, u1Q, u1R, u1S, u1T, u1U, u1V, u1W, u1X, u1Y, u1Z, u1a, u1b, u1c, u1d, u1e, u1f, u1g, u1h, u1i, u1j, u1k, u1l, u1m, u1n, u1o, u1p, u1q, u1r, u1s, u1t, u1u, u1v, u1w, u1x, u1y, u1z, u2A, u2B, u2C, u2D, u2E, u2F, u2G, u2H, u2I, u2J, u2K, u2L, u2M, .agg #[.int .u64 b.x0, .int .u64 b.x1, .int .u64 b.x2, .int .u64 b.x3], .bool true, .bool false, .bool false, .agg #[.int .u64 c.x0, .int .u64 c.x1, .int .u64 c.x2, .int .u64 c.x3], .bool true, .bool false, .bool false, .bool false, .agg #[.int .u64 p.x0, .int .u64 p.x1, .int .u64 p.x2, .int .u64 p.x3], .agg #[.int .u64 n.x0, .int .u64 n.x1, .int .u64 n.x2, .int .u64 n.x3], .agg #[.int .u64 m.x0, .int .u64 m.x1, .int .u64 m.x2, .int .u64 m.x3], .agg #[.int .u64 u.x0, .int .u64 u.x1, .int .u64 u.x2, .int .u64 u.x3], .bool true, .bool false, .bool false, u2d, u2e, u2f, u2g, u2h, u2i, u2j, u2k, u2l, u2m, u2n, u2o, u2p, u2q, u2r, u2s, u2t, u2u, u2v, u2w, u2x, u2y, u2z, u3A, u3B, u3C, u3D, u3E, u3F, u3G, u3H, u3I, u3J, u3K, u3L, u3M, u3N, u3O, u3P, u3Q, u3R, u3S, u3T, u3U, u3V, u3W, u3X, u3Y, u3Z, u3a, u3b, u3c, u3d, u3e, u3f, u3g, u3h, u3i, u3j, u3k, u3l, u3m, u3n, u3o, u3p, u3q, u3r, u3s, u3t, u3u, u3v, u3w, u3x, u3y, u3z], []⟩ wz)) : (Code.region 24 lg24o true).wp Tryd.prog Q ⟨#[u0, u1, u2, u3, u4, u5, u6, u7, u8, u9, uA, uB, uC, uD, uE, uF, uG, uH, .pointer (some ⟨b18, 0, none⟩), uJ, .pointer (some ⟨b20, 0, none⟩), uL, .pointer (some ⟨b22, 0, none⟩), uN, uO, uP, uQ, uR, uS, uT, .pointer (some ⟨b30, 0, none⟩), uV, .pointer (some ⟨b32, 0, none⟩), uX, uY, uZ, ua, ub, uc, ud, ue, uf, ug, uh, ui, uj, uk, ul, um, un, uo, up, uq, ur, us, ut, uu, uv, uw, ux, uy, uz, u0A, u0B, u0C, u0D, u0E, u0F, u0G, u0H, u0I, u0J, u0K, u0L, u0M, u0N, u0O, u0P, u0Q, u0R, u0S, u0T, u0U, u0V, u0W, u0X, u0Y, u0Z, u0a, u0b, u0c, u0d, u0e, u0f, u0g, u0h, u0i, u0j, u0k, u0l, u0m, u0n, u0o, u0p, u0q, u0r, u0s, u0t, u0u, u0v, u0w, u0x, u0y, u0z, u1A, u1B, u1C, u1D, u1E, u1F, u1G, u1H, u1I, u1J, u1K, u1L, u1M, u1N, u1O, u1P, u1Q, u1R, u1S, u1T, u1U, u1V, u1W, u1X, u1Y, u1Z, u1a, u1b, u1c, u1d, u1e, u1f, u1g, u1h, u1i, u1j, u1k, u1l, u1m, u1n, u1o, u1p, u1q, u1r, u1s, u1t, u1u, u1v, u1w, u1x, u1y, u1z, u2A, u2B, u2C, u2D, u2E, u2F, u2G, u2H, u2I, u2J, u2K, u2L, u2M, u2N, u2O, u2P, u2Q, u2R, u2S, u2T, u2U, u2V, u2W, u2X, u2Y, u2Z, u2a, u2b, u2c, u2d, u2e, u2f, u2g, u2h, u2i, u2j, u2k, u2l, u2m, u2n, u2o, u2p, u2q, u2r, u2s, u2t, u2u, u2v, u2w, u2x, u2y, u2z, u3A, u3B, u3C, u3D, u3E, u3F, u3G, u3H, u3I, u3J, u3K, u3L, u3M, u3N, u3O, u3P, u3Q, u3R, u3S, u3T, u3U, u3V, u3W, u3X, u3Y, u3Z, u3a, u3b, u3c, u3d, u3e, u3f, u3g, u3h, u3i, u3j, u3k, u3l, u3m, u3n, u3o, u3p, u3q, u3r, u3s, u3t, u3u, u3v, u3w, u3x, u3y, u3z], []⟩ W := by
 unfold lg24o
 refine wp_region_noPanic ?_
 refine wp_region_held_drew (S := fun x => Below W.heap.size W x) (by kernel_rfl) (bl_drew W) (fun hH0 => ?_)
 refine tk 0 lg24o_0 (.agg #[.int .u64 b.x0, .int .u64 b.x1, .int .u64 b.x2, .int .u64 b.x3]) rfl (by kernel_rfl) hH0 rfl (fun w0 hSw => ?_) ?_
 ·(unfold lg24o_0; have hS : Below W.heap.size W w0 := hSw; have a0 := cell_keep b0 hS; have a1 := cell_keep b1 hS; have a2 := cell_keep b2 hS; have a3 := cell_keep b3 hS; clear hS hSw; go_simp)
 simp only [lg24o_0, Act.put, sA, sB, sC]
 refine wpAnyH_ready (rs := [1]) (by kernel_rfl) (by simp) ?_
 refine AllReadyH.cons (o := lg24o_1) rfl (fun K hK => ?_) AllReadyH.nil
 unfold lg24o_1
 have HH := hidden hH0
 clear hH0
 go_simp
 refine (C1.out _ HH.out).mono ?_
 rintro e wn1 ⟨rfl, hb⟩
 have SN := hidden (bl_trans HH.out hb)
 clear HH C1 hb
 go_wp2_with fail
 refine hK.out _ _ SN.out (fun hH1 => ?_)
 clear hK K SN
 refine tk 2 lg24o_2 (.bool false) rfl (by kernel_rfl) hH1 rfl (fun w0 hSw => ?_) ?_
 ·(unfold lg24o_2; clear hSw; go_simp)
 simp only [lg24o_2, Act.put, sA, sB, sC]
 refine tk 3 lg24o_3 (.bool false) rfl (by kernel_rfl) hH1 rfl (fun w0 hSw => ?_) ?_
 ·(unfold lg24o_3; clear hSw; go_simp)
 simp only [lg24o_3, Act.put, sA, sB, sC]
 refine tk 4 lg24o_4 (.agg #[.int .u64 c.x0, .int .u64 c.x1, .int .u64 c.x2, .int .u64 c.x3]) rfl (by kernel_rfl) hH1 rfl (fun w0 hSw => ?_) ?_
 ·(unfold lg24o_4; have hS : Below W.heap.size W w0 := hSw; have a0 := cell_keep c0 hS; have a1 := cell_keep c1 hS; have a2 := cell_keep c2 hS; have a3 := cell_keep c3 hS; clear hS hSw; go_simp)
 simp only [lg24o_4, Act.put, sA, sB, sC]
 refine wpAnyH_ready (rs := [5]) (by kernel_rfl) (by simp) ?_
 refine AllReadyH.cons (o := lg24o_5) rfl (fun K hK => ?_) AllReadyH.nil
 unfold lg24o_5
 have HH := hidden hH1
 clear hH1
 go_simp
 refine (C5.out _ HH.out).mono ?_
 rintro e wn2 ⟨rfl, hb⟩
 have SN := hidden (bl_trans HH.out hb)
 clear HH C5 hb
 go_wp2_with fail
 refine hK.out _ _ SN.out (fun hH2 => ?_)
 clear hK K SN
 refine tk 6 lg24o_6 (.bool false) rfl (by kernel_rfl) hH2 rfl (fun w0 hSw => ?_) ?_
 ·(unfold lg24o_6; clear hSw; go_simp)
 simp only [lg24o_6, Act.put, sA, sB, sC]
 refine tk 7 lg24o_7 (.bool false) rfl (by kernel_rfl) hH2 rfl (fun w0 hSw => ?_) ?_
 ·(unfold lg24o_7; clear hSw; go_simp)
 simp only [lg24o_7, Act.put, sA, sB, sC]
 refine tk 8 lg24o_8 (.bool false) rfl (by kernel_rfl) hH2 rfl (fun w0 hSw => ?_) ?_
 ·(unfold lg24o_8; clear hSw; go_simp)
 simp only [lg24o_8, Act.put, sA, sB, sC]
 refine tk 9 lg24o_9 (.agg #[.int .u64 p.x0, .int .u64 p.x1, .int .u64 p.x2, .int .u64 p.x3]) rfl (by kernel_rfl) hH2 rfl (fun w0 hSw => ?_) ?_
 ·(unfold lg24o_9; have hS : Below W.heap.size W w0 := hSw; have a0 := cell_keep p0 hS; have a1 := cell_keep p1 hS; have a2 := cell_keep p2 hS; have a3 := cell_keep p3 hS; clear hS hSw; go_simp)
 simp only [lg24o_9, Act.put, sA, sB, sC]
 refine tk 10 lg24o_10 (.agg #[.int .u64 n.x0, .int .u64 n.x1, .int .u64 n.x2, .int .u64 n.x3]) rfl (by kernel_rfl) hH2 rfl (fun w0 hSw => ?_) ?_
 ·(unfold lg24o_10; have hS : Below W.heap.size W w0 := hSw; have a0 := cell_keep n0 hS; have a1 := cell_keep n1 hS; have a2 := cell_keep n2 hS; have a3 := cell_keep n3 hS; clear hS hSw; go_simp)
 simp only [lg24o_10, Act.put, sA, sB, sC]
 refine tk 11 lg24o_11 (.agg #[.int .u64 m.x0, .int .u64 m.x1, .int .u64 m.x2, .int .u64 m.x3]) rfl (by kernel_rfl) hH2 rfl (fun w0 hSw => ?_) ?_
 ·(unfold lg24o_11; have hS : Below W.heap.size W w0 := hSw; have a0 := cell_keep m0 hS; have a1 := cell_keep m1 hS; have a2 := cell_keep m2 hS; have a3 := cell_keep m3 hS; clear hS hSw; go_simp)
 simp only [lg24o_11, Act.put, sA, sB, sC]
 refine wpAnyH_ready (rs := [12]) (by kernel_rfl) (by simp) ?_
 refine AllReadyH.cons (o := lg24o_12) rfl (fun K hK => ?_) AllReadyH.nil
 unfold lg24o_12
 have HH := hidden hH2
 clear hH2
 go_simp
 refine (C12.out _ HH.out).mono ?_
 rintro e wn3 ⟨rfl, hb⟩
 have SN := hidden (bl_trans HH.out hb)
 clear HH C12 hb
 go_wp2_with fail
 refine hK.out _ _ SN.out (fun hH3 => ?_)
 clear hK K SN
 refine wpAnyH_ready (rs := [13]) (by kernel_rfl) (by simp) ?_
 refine AllReadyH.cons (o := lg24o_13) rfl (fun K hK => ?_) AllReadyH.nil
 unfold lg24o_13
 have HH := hidden hH3
 clear hH3
 go_simp
 refine (C13.out _ HH.out).mono ?_
 rintro e wn4 ⟨rfl, hb⟩
 have SN := hidden (bl_trans HH.out hb)
 clear HH C13 hb
 go_wp2_with fail
 refine hK.out _ _ SN.out (fun hH4 => ?_)
 clear hK K SN
 refine tk 14 lg24o_14 (.bool false) rfl (by kernel_rfl) hH4 rfl (fun w0 hSw => ?_) ?_
 ·(unfold lg24o_14; clear hSw; go_simp)
 simp only [lg24o_14, Act.put, sA, sB, sC]
 refine tk 15 lg24o_15 (.bool false) rfl (by kernel_rfl) hH4 rfl (fun w0 hSw => ?_) ?_
 ·(unfold lg24o_15; clear hSw; go_simp)
 simp only [lg24o_15, Act.put, sA, sB, sC]
 have HH := hidden hH4
 have FQ := hidden (HQ.out _ HH.out)
 refine wpAnyH_done (by kernel_rfl) ?_ _
 refine NoPanic.normal ?_
 exact FQ.out
def lg26o_0 : Oper := { dst := some 195, op := Op.fieldAddr 37 (Operand.tmp 17) 0, type := 0, pos := "outright.go:170", after := #[], guard := none }
def lg26o_1 : Oper := { dst := some 196, op := Op.load 25 (Operand.tmp 195), type := 25, pos := "outright.go:170", after := #[{ on := 0, ground := Ground.data }], guard := none }
def lg26o_2 : Oper := { dst := some 197, op := Op.move (Operand.tmp 24), type := 3, pos := "outright.go:170", after := #[], guard := none }
def lg26o_3 : Oper := { dst := some 198, op := Op.load 41 (Operand.tmp 18), type := 41, pos := "outright.go:170", after := #[], guard := none }
def lg26o_4 : Oper := { dst := some 199, op := Op.call { callee := Callee.value (Operand.func 17), args := #[Operand.const (Value.int IntKind.u64 1)], argTypes := #[39] }, type := 41, pos := "outright.go:170", after := #[], guard := none }
def lg26o_5 : Oper := { dst := some 200, op := Op.call { callee := Callee.value (Operand.func 16), args := #[Operand.tmp 198, Operand.tmp 199], argTypes := #[41, 41] }, type := 41, pos := "outright.go:170", after := #[{ on := 3, ground := Ground.data }, { on := 4, ground := Ground.data }, { on := 4, ground := Ground.chain }], guard := none }
def lg26o_6 : Oper := { dst := some 201, op := Op.indexAddr 25 (Operand.tmp 196) (Operand.tmp 197), type := 0, pos := "outright.go:170", after := #[{ on := 1, ground := Ground.data }, { on := 2, ground := Ground.data }, { on := 0, ground := Ground.phase }, { on := 1, ground := Ground.phase }, { on := 2, ground := Ground.phase }, { on := 3, ground := Ground.phase }, { on := 4, ground := Ground.phase }, { on := 5, ground := Ground.phase }], guard := none }
def lg26o_7 : Oper := { dst := none, op := Op.store 41 (Operand.tmp 201) (Operand.tmp 200), type := 0, pos := "outright.go:170", after := #[{ on := 6, ground := Ground.data }, { on := 5, ground := Ground.data }, { on := 5, ground := Ground.chain }, { on := 0, ground := Ground.phase }, { on := 1, ground := Ground.phase }, { on := 2, ground := Ground.phase }, { on := 3, ground := Ground.phase }, { on := 4, ground := Ground.phase }, { on := 5, ground := Ground.phase }], guard := none }
def lg26o : Array Oper := #[lg26o_0, lg26o_1, lg26o_2, lg26o_3, lg26o_4, lg26o_5, lg26o_6, lg26o_7]
set_option maxRecDepth 100000 in
set_option maxHeartbeats 16000000 in
theorem lg26 (Q : Exit → Act → World → Prop) (ab bx k lb ln lc : Nat) (n o r : E4) (u0 u1 u2 u3 u4 u5 u6 u7 u8 u9 uA uB uC uD uE uF uG uJ uK uL uM uN uP uQ uR uS uT uU uV uW uX uY uZ ua ub uc ud ue uf ug uh ui uj uk ul um un uo up uq ur us ut uu uv uw ux uy uz u0A u0B u0C u0D u0E u0F u0G u0H u0I u0J u0K u0L u0M u0N u0O u0P u0Q u0R u0S u0T u0U u0V u0W u0X u0Y u0Z u0a u0b u0c u0d u0e u0f u0g u0h u0i u0j u0k u0l u0m u0n u0o u0p u0q u0r u0s u0t u0u u0v u0w u0x u0y u0z u1A u1B u1C u1D u1E u1F u1G u1H u1I u1J u1K u1L u1M u1N u1O u1P u1Q u1R u1S u1T u1U u1V u1W u1X u1Y u1Z u1a u1b u1c u1d u1e u1f u1g u1h u1i u1j u1k u1l u1m u1n u1o u1p u1q u1r u1s u1t u1u u1v u1w u1x u1y u1z u2A u2B u2C u2D u2E u2F u2G u2H u2I u2J u2K u2L u2M u2N u2O u2P u2Q u2R u2S u2T u2U u2V u2W u2X u2Y u2Z u2a u2b u2c u2d u2e u2f u2g u2h u2i u2j u2k u2l u2m u2n u2o u2p u2q u2r u2s u2t u2u u2v u2w u2x u2y u2z u3A u3B u3C u3D u3E u3F u3G u3H u3I u3J u3K u3L u3M u3N u3O u3P u3Q u3R u3S u3T u3U u3V u3W u3X u3Y u3Z u3a u3b u3c u3d u3e u3f u3g u3h u3i u3j u3k u3l u3m u3n u3o u3p u3q u3r u3s u3t u3u u3v u3w u3x u3y u3z : Value) (W : World)
  (k0 : (0 : Int) ≤ (k : Int)) (k1 : (k : Int) < (ln : Int)) (nf : ab ≠ lb) (nn : bx ≠ lb) (th : W.there lb (k * 4) 4) (f0 : W.cell? ⟨ab, 0, none⟩ = some (.slice (some ⟨lb, 0, none⟩) ln lc)) (n0 : W.cell? ⟨bx, 0, none⟩ = some (.int .u64 n.x0)) (n1 : W.cell? ⟨bx, 1, none⟩ = some (.int .u64 n.x1)) (n2 : W.cell? ⟨bx, 2, none⟩ = some (.int .u64 n.x2)) (n3 : W.cell? ⟨bx, 3, none⟩ = some (.int .u64 n.x3))
  (C4 : Hid (∀ yy, Below W.heap.size W yy → Calls Tryd.prog 17 #[.int .u64 1] yy fun e w' => e = .returned (.agg #[.int .u64 o.x0, .int .u64 o.x1, .int .u64 o.x2, .int .u64 o.x3]) ∧ Below yy.heap.size yy w'))
  (C5 : Hid (∀ yy, Below W.heap.size W yy → Calls Tryd.prog 16 #[.agg #[.int .u64 n.x0, .int .u64 n.x1, .int .u64 n.x2, .int .u64 n.x3], .agg #[.int .u64 o.x0, .int .u64 o.x1, .int .u64 o.x2, .int .u64 o.x3]] yy fun e w' => e = .returned (.agg #[.int .u64 r.x0, .int .u64 r.x1, .int .u64 r.x2, .int .u64 r.x3]) ∧ Below yy.heap.size yy w'))
  (HQ : Hid (∀ (wz : World), (∃ wy, Below W.heap.size W wy ∧ wz = wy.setCells lb (k * 4) [.int .u64 r.x0, .int .u64 r.x1, .int .u64 r.x2, .int .u64 r.x3]) → Q .normal ⟨#[u0, u1, u2, u3, u4, u5, u6, u7, u8, u9, uA, uB, uC, uD, uE, uF, uG, .pointer (some ⟨ab, 0, none⟩), .pointer (some ⟨bx, 0, none⟩), uJ, uK, uL, uM, uN, .int .i64 (k : Int), uP, uQ, uR, uS, uT, uU, uV, uW, uX, uY, uZ, ua, ub, uc, ud, ue, uf, ug, uh, ui, uj, uk, ul, um, un, uo, up, uq, ur, us, ut, uu, uv, uw, ux, uy, uz, u0A, u0B, u0C, u0D, u0E, u0F, u0G, u0H, u0I, u0J, u0K, u0L, u0M, u0N, u0O, u0P, u0Q, u0R, u0S, u0T, u0U, u0V, u0W, u0X, u0Y, u0Z, u0a, u0b, u0c, u0d, u0e, u0f, u0g, u0h, u0i, u0j, u0k, u0l, u0m, u0n, u0o, u0p, u0q, u0r, u0s, u0t, u0u, u0v, u0w, u0x, u0y, u0z, u1A, u1B, u1C, u1D, u1E, u1F, u1G, u1H, u1I, u1J, u1K, u1L, u1M, u1N, u1O, u1P, u1Q, u1R, u1S, u1T, u1U, u1V, u1W, u1X, u1Y, u1Z, u1a, u1b, u1c, u1d, u1e, u1f, u1g, u1h, u1i, u1j, u1k, u1l, u1m, u1n, u1o, u1p, u1q, u1r, u1s, u1t, u1u, u1v, u1w, u1x, u1y, u1z, u2A, u2B, u2C, u2D, u2E, u2F, u2G, u2H, u2I, u2J, u2K, u2L, u2M, u2N, u2O, u2P, u2Q, u2R, u2S, u2T, u2U, u2V, u2W, u2X, u2Y, u2Z, u2a, u2b, u2c, .pointer (some ⟨ab, 0, none⟩), .slice (some ⟨lb, 0, none⟩) ln lc, .int .i64 (k : Int), .agg #[.int .u64 n.x0, .int .u64 n.x1, .int .u64 n.x2, .int .u64 n.x3], .agg #[.int .u64 o.x0, .int .u64 o.x1, .int .u64 o.x2, .int .u64 o.x3], .agg #[.int .u64 r.x0, .int .u64 r.x1, .int .u64 r.x2, .int .u64 r.x3], .pointer (some ⟨lb, k * 4, none⟩), u2k, u2l, u2m, u2n, u2o, u2p, u2q, u2r, u2s, u2t, u2u, u2v, u2w, u2x, u2y, u2z, u3A, u3B, u3C, u3D, u3E, u3F, u3G, u3H, u3I, u3J, u3K, u3L, u3M, u3N, u3O, u3P, u3Q, u3R, u3S, u3T, u3U, u3V, u3W, u3X, u3Y, u3Z, u3a, u3b, u3c, u3d, u3e, u3f, u3g, u3h, u3i, u3j, u3k, u3l, u3m, u3n, u3o, u3p, u3q, u3r, u3s, u3t, u3u, u3v, u3w, u3x, u3y, u3z], []⟩ wz)) : (Code.region 26 lg26o true).wp Tryd.prog Q ⟨#[u0, u1, u2, u3, u4, u5, u6, u7, u8, u9, uA, uB, uC, uD, uE, uF, uG, .pointer (some ⟨ab, 0, none⟩), .pointer (some ⟨bx, 0, none⟩), uJ, uK, uL, uM, uN, .int .i64 (k : Int), uP, uQ, uR, uS, uT, uU, uV, uW, uX, uY, uZ, ua, ub, uc, ud, ue, uf, ug, uh, ui, uj, uk, ul, um, un, uo, up, uq, ur, us, ut, uu, uv, uw, ux, uy, uz, u0A, u0B, u0C, u0D, u0E, u0F, u0G, u0H, u0I, u0J, u0K, u0L, u0M, u0N, u0O, u0P, u0Q, u0R, u0S, u0T, u0U, u0V, u0W, u0X, u0Y, u0Z, u0a, u0b, u0c, u0d, u0e, u0f, u0g, u0h, u0i, u0j, u0k, u0l, u0m, u0n, u0o, u0p, u0q, u0r, u0s, u0t, u0u, u0v, u0w, u0x, u0y, u0z, u1A, u1B, u1C, u1D, u1E, u1F, u1G, u1H, u1I, u1J, u1K, u1L, u1M, u1N, u1O, u1P, u1Q, u1R, u1S, u1T, u1U, u1V, u1W, u1X, u1Y, u1Z, u1a, u1b, u1c, u1d, u1e, u1f, u1g, u1h, u1i, u1j, u1k, u1l, u1m, u1n, u1o, u1p, u1q, u1r, u1s, u1t, u1u, u1v, u1w, u1x, u1y, u1z, u2A, u2B, u2C, u2D, u2E, u2F, u2G, u2H, u2I, u2J, u2K, u2L, u2M, u2N, u2O, u2P, u2Q, u2R, u2S, u2T, u2U, u2V, u2W, u2X, u2Y, u2Z, u2a, u2b, u2c, u2d, u2e, u2f, u2g, u2h, u2i, u2j, u2k, u2l, u2m, u2n, u2o, u2p, u2q, u2r, u2s, u2t, u2u, u2v, u2w, u2x, u2y, u2z, u3A, u3B, u3C, u3D, u3E, u3F, u3G, u3H, u3I, u3J, u3K, u3L, u3M, u3N, u3O, u3P, u3Q, u3R, u3S, u3T, u3U, u3V, u3W, u3X, u3Y, u3Z, u3a, u3b, u3c, u3d, u3e, u3f, u3g, u3h, u3i, u3j, u3k, u3l, u3m, u3n, u3o, u3p, u3q, u3r, u3s, u3t, u3u, u3v, u3w, u3x, u3y, u3z], []⟩ W := by
 have BB := hidden (bl_drew W)
 unfold lg26o
 refine wp_region_noPanic ?_
 refine wp_region_held_drew (S := fun x => W.grownBy x (some lb)) (by kernel_rfl) (gbI (bl_drew W) _) (fun hH0 => ?_)
 refine tk 0 lg26o_0 (.pointer (some ⟨ab, 0, none⟩)) rfl (by kernel_rfl) hH0 rfl (fun w0 hSw => ?_) ?_
 ·(unfold lg26o_0; clear hSw; go_simp)
 simp only [lg26o_0, Act.put, sA, sB, sC]
 refine tk 2 lg26o_2 (.int .i64 (k : Int)) rfl (by kernel_rfl) hH0 rfl (fun w0 hSw => ?_) ?_
 ·(unfold lg26o_2; clear hSw; go_simp)
 simp only [lg26o_2, Act.put, sA, sB, sC]
 refine tk 3 lg26o_3 (.agg #[.int .u64 n.x0, .int .u64 n.x1, .int .u64 n.x2, .int .u64 n.x3]) rfl (by kernel_rfl) hH0 rfl (fun w0 hSw => ?_) ?_
 ·(unfold lg26o_3; have hS : W.grownBy w0 (some lb) := hSw; have a0 := hS.cell n0 (fun e => nn (Option.some.inj e)); have a1 := hS.cell n1 (fun e => nn (Option.some.inj e)); have a2 := hS.cell n2 (fun e => nn (Option.some.inj e)); have a3 := hS.cell n3 (fun e => nn (Option.some.inj e)); clear hS hSw; go_simp)
 simp only [lg26o_3, Act.put, sA, sB, sC]
 refine tk 1 lg26o_1 (.slice (some ⟨lb, 0, none⟩) ln lc) rfl (by kernel_rfl) hH0 rfl (fun w0 hSw => ?_) ?_
 ·(unfold lg26o_1; have hS : W.grownBy w0 (some lb) := hSw; have a0 := hS.cell f0 (fun e => nf (Option.some.inj e)); clear hS hSw; go_simp)
 simp only [lg26o_1, Act.put, sA, sB, sC]
 refine wpAnyH_ready (rs := [4]) (by kernel_rfl) (by simp) ?_
 refine AllReadyH.cons (o := lg26o_4) rfl (fun K hK => ?_) AllReadyH.nil
 unfold lg26o_4
 have HH := hidden hH0
 clear hH0
 go_simp
 refine (C4.out _ BB.out).mono ?_
 rintro e wn1 ⟨rfl, hb⟩
 replace BB := hidden (bl_trans BB.out hb)
 have SN := hidden (HH.out.trans (gbI hb _))
 clear HH C4 hb
 go_wp2_with fail
 refine hK.out _ _ SN.out (fun hH1 => ?_)
 clear hK K SN
 refine wpAnyH_ready (rs := [5]) (by kernel_rfl) (by simp) ?_
 refine AllReadyH.cons (o := lg26o_5) rfl (fun K hK => ?_) AllReadyH.nil
 unfold lg26o_5
 have HH := hidden hH1
 clear hH1
 go_simp
 refine (C5.out _ BB.out).mono ?_
 rintro e wn2 ⟨rfl, hb⟩
 replace BB := hidden (bl_trans BB.out hb)
 have SN := hidden (HH.out.trans (gbI hb _))
 clear HH C5 hb
 go_wp2_with fail
 refine hK.out _ _ SN.out (fun hH2 => ?_)
 clear hK K SN
 refine tk 6 lg26o_6 (.pointer (some ⟨lb, k * 4, none⟩)) rfl (by kernel_rfl) hH2 rfl (fun w0 hSw => ?_) ?_
 ·(unfold lg26o_6; clear hSw; go_simp)
 simp only [lg26o_6, Act.put, sA, sB, sC]
 refine wpAnyH_ready (rs := [7]) (by kernel_rfl) (by simp) ?_
 refine AllReadyH.cons (o := lg26o_7) rfl (fun K hK => ?_) AllReadyH.nil
 unfold lg26o_7
 have HH := hidden hH2
 clear hH2
 refine wp_storeE 41 _ _ rfl lb (k * 4) ([.int .u64 r.x0, .int .u64 r.x1, .int .u64 r.x2, .int .u64 r.x3]) (by rfl) (by rfl) (there_bl th BB.out) i4_s (one4 r) rfl (fun wn3 hw => ?_)
 have SN := hidden (HH.out.trans (gb_setCells lb [.int .u64 r.x0, .int .u64 r.x1, .int .u64 r.x2, .int .u64 r.x3] (k * 4) _))
 have FE := hidden ((⟨_, BB.out, hw⟩ : ∃ wy, Below W.heap.size W wy ∧ _ = wy.setCells lb (k * 4) [.int .u64 r.x0, .int .u64 r.x1, .int .u64 r.x2, .int .u64 r.x3]))
 rw [← hw] at SN
 clear HH hw
 refine hK.out _ _ SN.out (fun hH3 => ?_)
 clear hK K SN
 have HH := hidden hH3
 have FQ := hidden (HQ.out _ FE.out)
 refine wpAnyH_done (by kernel_rfl) ?_ _
 refine NoPanic.normal ?_
 exact FQ.out
def lg28o_0 : Oper := { dst := some 209, op := Op.fieldAddr 37 (Operand.tmp 17) 1, type := 0, pos := "outright.go:172", after := #[], guard := none }
def lg28o_1 : Oper := { dst := some 210, op := Op.load 25 (Operand.tmp 209), type := 25, pos := "outright.go:172", after := #[{ on := 0, ground := Ground.data }], guard := none }
def lg28o_2 : Oper := { dst := some 211, op := Op.move (Operand.tmp 24), type := 3, pos := "outright.go:172", after := #[], guard := none }
def lg28o_3 : Oper := { dst := some 212, op := Op.load 41 (Operand.tmp 20), type := 41, pos := "outright.go:172", after := #[], guard := none }
def lg28o_4 : Oper := { dst := some 213, op := Op.call { callee := Callee.value (Operand.func 17), args := #[Operand.const (Value.int IntKind.u64 1)], argTypes := #[39] }, type := 41, pos := "outright.go:172", after := #[], guard := none }
def lg28o_5 : Oper := { dst := some 214, op := Op.call { callee := Callee.value (Operand.func 18), args := #[Operand.tmp 212, Operand.tmp 213], argTypes := #[41, 41] }, type := 41, pos := "outright.go:172", after := #[{ on := 3, ground := Ground.data }, { on := 4, ground := Ground.data }, { on := 4, ground := Ground.chain }], guard := none }
def lg28o_6 : Oper := { dst := some 215, op := Op.indexAddr 25 (Operand.tmp 210) (Operand.tmp 211), type := 0, pos := "outright.go:172", after := #[{ on := 1, ground := Ground.data }, { on := 2, ground := Ground.data }, { on := 0, ground := Ground.phase }, { on := 1, ground := Ground.phase }, { on := 2, ground := Ground.phase }, { on := 3, ground := Ground.phase }, { on := 4, ground := Ground.phase }, { on := 5, ground := Ground.phase }], guard := none }
def lg28o_7 : Oper := { dst := none, op := Op.store 41 (Operand.tmp 215) (Operand.tmp 214), type := 0, pos := "outright.go:172", after := #[{ on := 6, ground := Ground.data }, { on := 5, ground := Ground.data }, { on := 5, ground := Ground.chain }, { on := 0, ground := Ground.phase }, { on := 1, ground := Ground.phase }, { on := 2, ground := Ground.phase }, { on := 3, ground := Ground.phase }, { on := 4, ground := Ground.phase }, { on := 5, ground := Ground.phase }], guard := none }
def lg28o : Array Oper := #[lg28o_0, lg28o_1, lg28o_2, lg28o_3, lg28o_4, lg28o_5, lg28o_6, lg28o_7]
set_option maxRecDepth 100000 in
set_option maxHeartbeats 16000000 in
theorem lg28 (Q : Exit → Act → World → Prop) (ab bx k lb ln lc : Nat) (n o r : E4) (u0 u1 u2 u3 u4 u5 u6 u7 u8 u9 uA uB uC uD uE uF uG uI uJ uL uM uN uP uQ uR uS uT uU uV uW uX uY uZ ua ub uc ud ue uf ug uh ui uj uk ul um un uo up uq ur us ut uu uv uw ux uy uz u0A u0B u0C u0D u0E u0F u0G u0H u0I u0J u0K u0L u0M u0N u0O u0P u0Q u0R u0S u0T u0U u0V u0W u0X u0Y u0Z u0a u0b u0c u0d u0e u0f u0g u0h u0i u0j u0k u0l u0m u0n u0o u0p u0q u0r u0s u0t u0u u0v u0w u0x u0y u0z u1A u1B u1C u1D u1E u1F u1G u1H u1I u1J u1K u1L u1M u1N u1O u1P u1Q u1R u1S u1T u1U u1V u1W u1X u1Y u1Z u1a u1b u1c u1d u1e u1f u1g u1h u1i u1j u1k u1l u1m u1n u1o u1p u1q u1r u1s u1t u1u u1v u1w u1x u1y u1z u2A u2B u2C u2D u2E u2F u2G u2H u2I u2J u2K u2L u2M u2N u2O u2P u2Q u2R u2S u2T u2U u2V u2W u2X u2Y u2Z u2a u2b u2c u2d u2e u2f u2g u2h u2i u2j u2k u2l u2m u2n u2o u2p u2q u2r u2s u2t u2u u2v u2w u2x u2y u2z u3A u3B u3C u3D u3E u3F u3G u3H u3I u3J u3K u3L u3M u3N u3O u3P u3Q u3R u3S u3T u3U u3V u3W u3X u3Y u3Z u3a u3b u3c u3d u3e u3f u3g u3h u3i u3j u3k u3l u3m u3n u3o u3p u3q u3r u3s u3t u3u u3v u3w u3x u3y u3z : Value) (W : World)
  (k0 : (0 : Int) ≤ (k : Int)) (k1 : (k : Int) < (ln : Int)) (nf : ab ≠ lb) (nn : bx ≠ lb) (th : W.there lb (k * 4) 4) (f0 : W.cell? ⟨ab, 1, none⟩ = some (.slice (some ⟨lb, 0, none⟩) ln lc)) (n0 : W.cell? ⟨bx, 0, none⟩ = some (.int .u64 n.x0)) (n1 : W.cell? ⟨bx, 1, none⟩ = some (.int .u64 n.x1)) (n2 : W.cell? ⟨bx, 2, none⟩ = some (.int .u64 n.x2)) (n3 : W.cell? ⟨bx, 3, none⟩ = some (.int .u64 n.x3))
  (C4 : Hid (∀ yy, Below W.heap.size W yy → Calls Tryd.prog 17 #[.int .u64 1] yy fun e w' => e = .returned (.agg #[.int .u64 o.x0, .int .u64 o.x1, .int .u64 o.x2, .int .u64 o.x3]) ∧ Below yy.heap.size yy w'))
  (C5 : Hid (∀ yy, Below W.heap.size W yy → Calls Tryd.prog 18 #[.agg #[.int .u64 n.x0, .int .u64 n.x1, .int .u64 n.x2, .int .u64 n.x3], .agg #[.int .u64 o.x0, .int .u64 o.x1, .int .u64 o.x2, .int .u64 o.x3]] yy fun e w' => e = .returned (.agg #[.int .u64 r.x0, .int .u64 r.x1, .int .u64 r.x2, .int .u64 r.x3]) ∧ Below yy.heap.size yy w'))
  (HQ : Hid (∀ (wz : World), (∃ wy, Below W.heap.size W wy ∧ wz = wy.setCells lb (k * 4) [.int .u64 r.x0, .int .u64 r.x1, .int .u64 r.x2, .int .u64 r.x3]) → Q .normal ⟨#[u0, u1, u2, u3, u4, u5, u6, u7, u8, u9, uA, uB, uC, uD, uE, uF, uG, .pointer (some ⟨ab, 0, none⟩), uI, uJ, .pointer (some ⟨bx, 0, none⟩), uL, uM, uN, .int .i64 (k : Int), uP, uQ, uR, uS, uT, uU, uV, uW, uX, uY, uZ, ua, ub, uc, ud, ue, uf, ug, uh, ui, uj, uk, ul, um, un, uo, up, uq, ur, us, ut, uu, uv, uw, ux, uy, uz, u0A, u0B, u0C, u0D, u0E, u0F, u0G, u0H, u0I, u0J, u0K, u0L, u0M, u0N, u0O, u0P, u0Q, u0R, u0S, u0T, u0U, u0V, u0W, u0X, u0Y, u0Z, u0a, u0b, u0c, u0d, u0e, u0f, u0g, u0h, u0i, u0j, u0k, u0l, u0m, u0n, u0o, u0p, u0q, u0r, u0s, u0t, u0u, u0v, u0w, u0x, u0y, u0z, u1A, u1B, u1C, u1D, u1E, u1F, u1G, u1H, u1I, u1J, u1K, u1L, u1M, u1N, u1O, u1P, u1Q, u1R, u1S, u1T, u1U, u1V, u1W, u1X, u1Y, u1Z, u1a, u1b, u1c, u1d, u1e, u1f, u1g, u1h, u1i, u1j, u1k, u1l, u1m, u1n, u1o, u1p, u1q, u1r, u1s, u1t, u1u, u1v, u1w, u1x, u1y, u1z, u2A, u2B, u2C, u2D, u2E, u2F, u2G, u2H, u2I, u2J, u2K, u2L, u2M, u2N, u2O, u2P, u2Q, u2R, u2S, u2T, u2U, u2V, u2W, u2X, u2Y, u2Z, u2a, u2b, u2c, u2d, u2e, u2f, u2g, u2h, u2i, u2j, u2k, u2l, u2m, u2n, u2o, u2p, u2q, .pointer (some ⟨ab, 1, none⟩), .slice (some ⟨lb, 0, none⟩) ln lc, .int .i64 (k : Int), .agg #[.int .u64 n.x0, .int .u64 n.x1, .int .u64 n.x2, .int .u64 n.x3], .agg #[.int .u64 o.x0, .int .u64 o.x1, .int .u64 o.x2, .int .u64 o.x3], .agg #[.int .u64 r.x0, .int .u64 r.x1, .int .u64 r.x2, .int .u64 r.x3], .pointer (some ⟨lb, k * 4, none⟩), u2y, u2z, u3A, u3B, u3C, u3D, u3E, u3F, u3G, u3H, u3I, u3J, u3K, u3L, u3M, u3N, u3O, u3P, u3Q, u3R, u3S, u3T, u3U, u3V, u3W, u3X, u3Y, u3Z, u3a, u3b, u3c, u3d, u3e, u3f, u3g, u3h, u3i, u3j, u3k, u3l, u3m, u3n, u3o, u3p, u3q, u3r, u3s, u3t, u3u, u3v, u3w, u3x, u3y, u3z], []⟩ wz)) : (Code.region 28 lg28o true).wp Tryd.prog Q ⟨#[u0, u1, u2, u3, u4, u5, u6, u7, u8, u9, uA, uB, uC, uD, uE, uF, uG, .pointer (some ⟨ab, 0, none⟩), uI, uJ, .pointer (some ⟨bx, 0, none⟩), uL, uM, uN, .int .i64 (k : Int), uP, uQ, uR, uS, uT, uU, uV, uW, uX, uY, uZ, ua, ub, uc, ud, ue, uf, ug, uh, ui, uj, uk, ul, um, un, uo, up, uq, ur, us, ut, uu, uv, uw, ux, uy, uz, u0A, u0B, u0C, u0D, u0E, u0F, u0G, u0H, u0I, u0J, u0K, u0L, u0M, u0N, u0O, u0P, u0Q, u0R, u0S, u0T, u0U, u0V, u0W, u0X, u0Y, u0Z, u0a, u0b, u0c, u0d, u0e, u0f, u0g, u0h, u0i, u0j, u0k, u0l, u0m, u0n, u0o, u0p, u0q, u0r, u0s, u0t, u0u, u0v, u0w, u0x, u0y, u0z, u1A, u1B, u1C, u1D, u1E, u1F, u1G, u1H, u1I, u1J, u1K, u1L, u1M, u1N, u1O, u1P, u1Q, u1R, u1S, u1T, u1U, u1V, u1W, u1X, u1Y, u1Z, u1a, u1b, u1c, u1d, u1e, u1f, u1g, u1h, u1i, u1j, u1k, u1l, u1m, u1n, u1o, u1p, u1q, u1r, u1s, u1t, u1u, u1v, u1w, u1x, u1y, u1z, u2A, u2B, u2C, u2D, u2E, u2F, u2G, u2H, u2I, u2J, u2K, u2L, u2M, u2N, u2O, u2P, u2Q, u2R, u2S, u2T, u2U, u2V, u2W, u2X, u2Y, u2Z, u2a, u2b, u2c, u2d, u2e, u2f, u2g, u2h, u2i, u2j, u2k, u2l, u2m, u2n, u2o, u2p, u2q, u2r, u2s, u2t, u2u, u2v, u2w, u2x, u2y, u2z, u3A, u3B, u3C, u3D, u3E, u3F, u3G, u3H, u3I, u3J, u3K, u3L, u3M, u3N, u3O, u3P, u3Q, u3R, u3S, u3T, u3U, u3V, u3W, u3X, u3Y, u3Z, u3a, u3b, u3c, u3d, u3e, u3f, u3g, u3h, u3i, u3j, u3k, u3l, u3m, u3n, u3o, u3p, u3q, u3r, u3s, u3t, u3u, u3v, u3w, u3x, u3y, u3z], []⟩ W := by
 have BB := hidden (bl_drew W)
 unfold lg28o
 refine wp_region_noPanic ?_
 refine wp_region_held_drew (S := fun x => W.grownBy x (some lb)) (by kernel_rfl) (gbI (bl_drew W) _) (fun hH0 => ?_)
 refine tk 0 lg28o_0 (.pointer (some ⟨ab, 1, none⟩)) rfl (by kernel_rfl) hH0 rfl (fun w0 hSw => ?_) ?_
 ·(unfold lg28o_0; clear hSw; go_simp)
 simp only [lg28o_0, Act.put, sA, sB, sC]
 refine tk 2 lg28o_2 (.int .i64 (k : Int)) rfl (by kernel_rfl) hH0 rfl (fun w0 hSw => ?_) ?_
 ·(unfold lg28o_2; clear hSw; go_simp)
 simp only [lg28o_2, Act.put, sA, sB, sC]
 refine tk 3 lg28o_3 (.agg #[.int .u64 n.x0, .int .u64 n.x1, .int .u64 n.x2, .int .u64 n.x3]) rfl (by kernel_rfl) hH0 rfl (fun w0 hSw => ?_) ?_
 ·(unfold lg28o_3; have hS : W.grownBy w0 (some lb) := hSw; have a0 := hS.cell n0 (fun e => nn (Option.some.inj e)); have a1 := hS.cell n1 (fun e => nn (Option.some.inj e)); have a2 := hS.cell n2 (fun e => nn (Option.some.inj e)); have a3 := hS.cell n3 (fun e => nn (Option.some.inj e)); clear hS hSw; go_simp)
 simp only [lg28o_3, Act.put, sA, sB, sC]
 refine tk 1 lg28o_1 (.slice (some ⟨lb, 0, none⟩) ln lc) rfl (by kernel_rfl) hH0 rfl (fun w0 hSw => ?_) ?_
 ·(unfold lg28o_1; have hS : W.grownBy w0 (some lb) := hSw; have a0 := hS.cell f0 (fun e => nf (Option.some.inj e)); clear hS hSw; go_simp)
 simp only [lg28o_1, Act.put, sA, sB, sC]
 refine wpAnyH_ready (rs := [4]) (by kernel_rfl) (by simp) ?_
 refine AllReadyH.cons (o := lg28o_4) rfl (fun K hK => ?_) AllReadyH.nil
 unfold lg28o_4
 have HH := hidden hH0
 clear hH0
 go_simp
 refine (C4.out _ BB.out).mono ?_
 rintro e wn1 ⟨rfl, hb⟩
 replace BB := hidden (bl_trans BB.out hb)
 have SN := hidden (HH.out.trans (gbI hb _))
 clear HH C4 hb
 go_wp2_with fail
 refine hK.out _ _ SN.out (fun hH1 => ?_)
 clear hK K SN
 refine wpAnyH_ready (rs := [5]) (by kernel_rfl) (by simp) ?_
 refine AllReadyH.cons (o := lg28o_5) rfl (fun K hK => ?_) AllReadyH.nil
 unfold lg28o_5
 have HH := hidden hH1
 clear hH1
 go_simp
 refine (C5.out _ BB.out).mono ?_
 rintro e wn2 ⟨rfl, hb⟩
 replace BB := hidden (bl_trans BB.out hb)
 have SN := hidden (HH.out.trans (gbI hb _))
 clear HH C5 hb
 go_wp2_with fail
 refine hK.out _ _ SN.out (fun hH2 => ?_)
 clear hK K SN
 refine tk 6 lg28o_6 (.pointer (some ⟨lb, k * 4, none⟩)) rfl (by kernel_rfl) hH2 rfl (fun w0 hSw => ?_) ?_
 ·(unfold lg28o_6; clear hSw; go_simp)
 simp only [lg28o_6, Act.put, sA, sB, sC]
 refine wpAnyH_ready (rs := [7]) (by kernel_rfl) (by simp) ?_
 refine AllReadyH.cons (o := lg28o_7) rfl (fun K hK => ?_) AllReadyH.nil
 unfold lg28o_7
 have HH := hidden hH2
 clear hH2
 refine wp_storeE 41 _ _ rfl lb (k * 4) ([.int .u64 r.x0, .int .u64 r.x1, .int .u64 r.x2, .int .u64 r.x3]) (by rfl) (by rfl) (there_bl th BB.out) i4_s (one4 r) rfl (fun wn3 hw => ?_)
 have SN := hidden (HH.out.trans (gb_setCells lb [.int .u64 r.x0, .int .u64 r.x1, .int .u64 r.x2, .int .u64 r.x3] (k * 4) _))
 have FE := hidden ((⟨_, BB.out, hw⟩ : ∃ wy, Below W.heap.size W wy ∧ _ = wy.setCells lb (k * 4) [.int .u64 r.x0, .int .u64 r.x1, .int .u64 r.x2, .int .u64 r.x3]))
 rw [← hw] at SN
 clear HH hw
 refine hK.out _ _ SN.out (fun hH3 => ?_)
 clear hK K SN
 have HH := hidden hH3
 have FQ := hidden (HQ.out _ FE.out)
 refine wpAnyH_done (by kernel_rfl) ?_ _
 refine NoPanic.normal ?_
 exact FQ.out
def lg37o_0 : Oper := { dst := some 248, op := Op.move (Operand.tmp 36), type := 33, pos := "outright.go:180", after := #[], guard := none }
def lg37o_1 : Oper := { dst := some 249, op := Op.binOp BinOp.neq 33 (Operand.tmp 248) (Operand.const (Value.int IntKind.i64 0)) 33, type := 4, pos := "outright.go:180", after := #[{ on := 0, ground := Ground.data }], guard := none }
def lg37o_2 : Oper := { dst := some 250, op := Op.move (Operand.tmp 249), type := 4, pos := "outright.go:180", after := #[{ on := 1, ground := Ground.data }], guard := none }
def lg37o_3 : Oper := { dst := some 251, op := Op.move (Operand.tmp 38), type := 33, pos := "outright.go:180", after := #[{ on := 2, ground := Ground.guard }], guard := some (2, false) }
def lg37o_4 : Oper := { dst := some 252, op := Op.binOp BinOp.neq 33 (Operand.tmp 251) (Operand.const (Value.int IntKind.i64 0)) 33, type := 4, pos := "outright.go:180", after := #[{ on := 3, ground := Ground.data }, { on := 2, ground := Ground.guard }], guard := some (2, false) }
def lg37o_5 : Oper := { dst := some 253, op := Op.pick (Operand.tmp 250) (Operand.const (Value.bool true)) (Operand.tmp 252), type := 4, pos := "outright.go:180", after := #[{ on := 2, ground := Ground.data }, { on := 4, ground := Ground.data }], guard := none }
def lg37o_6 : Oper := { dst := some 254, op := Op.move (Operand.tmp 253), type := 4, pos := "outright.go:180", after := #[{ on := 5, ground := Ground.data }, { on := 2, ground := Ground.chain }], guard := none }
def lg37o_7 : Oper := { dst := some 255, op := Op.load 41 (Operand.tmp 37), type := 41, pos := "outright.go:180", after := #[{ on := 6, ground := Ground.guard }], guard := some (6, false) }
def lg37o_8 : Oper := { dst := some 256, op := Op.fieldAddr 37 (Operand.tmp 17) 0, type := 0, pos := "outright.go:180", after := #[{ on := 6, ground := Ground.guard }], guard := some (6, false) }
def lg37o_9 : Oper := { dst := some 257, op := Op.load 25 (Operand.tmp 256), type := 25, pos := "outright.go:180", after := #[{ on := 8, ground := Ground.data }, { on := 6, ground := Ground.guard }], guard := some (6, false) }
def lg37o_10 : Oper := { dst := some 258, op := Op.move (Operand.tmp 34), type := 3, pos := "outright.go:180", after := #[{ on := 6, ground := Ground.guard }], guard := some (6, false) }
def lg37o_11 : Oper := { dst := some 259, op := Op.indexAddr 25 (Operand.tmp 257) (Operand.tmp 258), type := 0, pos := "outright.go:180", after := #[{ on := 9, ground := Ground.data }, { on := 10, ground := Ground.data }, { on := 6, ground := Ground.guard }], guard := some (6, false) }
def lg37o_12 : Oper := { dst := some 260, op := Op.load 41 (Operand.tmp 259), type := 41, pos := "outright.go:180", after := #[{ on := 11, ground := Ground.data }, { on := 6, ground := Ground.guard }], guard := some (6, false) }
def lg37o_13 : Oper := { dst := some 261, op := Op.fieldAddr 37 (Operand.tmp 17) 3, type := 0, pos := "outright.go:180", after := #[{ on := 6, ground := Ground.guard }], guard := some (6, false) }
def lg37o_14 : Oper := { dst := some 262, op := Op.load 25 (Operand.tmp 261), type := 25, pos := "outright.go:180", after := #[{ on := 13, ground := Ground.data }, { on := 6, ground := Ground.guard }], guard := some (6, false) }
def lg37o_15 : Oper := { dst := some 263, op := Op.move (Operand.tmp 34), type := 3, pos := "outright.go:180", after := #[{ on := 6, ground := Ground.guard }], guard := some (6, false) }
def lg37o_16 : Oper := { dst := some 264, op := Op.indexAddr 25 (Operand.tmp 262) (Operand.tmp 263), type := 0, pos := "outright.go:180", after := #[{ on := 14, ground := Ground.data }, { on := 15, ground := Ground.data }, { on := 6, ground := Ground.guard }], guard := some (6, false) }
def lg37o_17 : Oper := { dst := some 265, op := Op.load 41 (Operand.tmp 264), type := 41, pos := "outright.go:180", after := #[{ on := 16, ground := Ground.data }, { on := 6, ground := Ground.guard }], guard := some (6, false) }
def lg37o_18 : Oper := { dst := some 266, op := Op.call { callee := Callee.value (Operand.func 18), args := #[Operand.tmp 260, Operand.tmp 265], argTypes := #[41, 41] }, type := 41, pos := "outright.go:180", after := #[{ on := 12, ground := Ground.data }, { on := 17, ground := Ground.data }, { on := 6, ground := Ground.chain }, { on := 6, ground := Ground.guard }], guard := some (6, false) }
def lg37o_19 : Oper := { dst := some 267, op := Op.call { callee := Callee.value (Operand.func 15), args := #[Operand.tmp 255, Operand.tmp 266], argTypes := #[41, 41] }, type := 4, pos := "outright.go:180", after := #[{ on := 7, ground := Ground.data }, { on := 18, ground := Ground.data }, { on := 18, ground := Ground.chain }, { on := 6, ground := Ground.guard }], guard := some (6, false) }
def lg37o_20 : Oper := { dst := some 268, op := Op.unOp UnOp.not 4 (Operand.tmp 267), type := 4, pos := "outright.go:180", after := #[{ on := 19, ground := Ground.data }, { on := 6, ground := Ground.guard }], guard := some (6, false) }
def lg37o_21 : Oper := { dst := some 269, op := Op.pick (Operand.tmp 254) (Operand.const (Value.bool true)) (Operand.tmp 268), type := 4, pos := "outright.go:180", after := #[{ on := 6, ground := Ground.data }, { on := 20, ground := Ground.data }], guard := none }
def lg37o : Array Oper := #[lg37o_0, lg37o_1, lg37o_2, lg37o_3, lg37o_4, lg37o_5, lg37o_6, lg37o_7, lg37o_8, lg37o_9, lg37o_10, lg37o_11, lg37o_12, lg37o_13, lg37o_14, lg37o_15, lg37o_16, lg37o_17, lg37o_18, lg37o_19, lg37o_20, lg37o_21]
set_option maxRecDepth 100000 in
set_option maxHeartbeats 16000000 in
theorem lg37 (Q : Exit → Act → World → Prop) (ab b37 j lb ln lc vb vo vn vc : Nat) (n p q u : E4) (u0 u1 u2 u3 u4 u5 u6 u7 u8 u9 uA uB uC uD uE uF uG uI uJ uK uL uM uN uO uP uQ uR uS uT uU uV uW uX uZ ud ue uf ug uh ui uj uk ul um un uo up uq ur us ut uu uv uw ux uy uz u0A u0B u0C u0D u0E u0F u0G u0H u0I u0J u0K u0L u0M u0N u0O u0P u0Q u0R u0S u0T u0U u0V u0W u0X u0Y u0Z u0a u0b u0c u0d u0e u0f u0g u0h u0i u0j u0k u0l u0m u0n u0o u0p u0q u0r u0s u0t u0u u0v u0w u0x u0y u0z u1A u1B u1C u1D u1E u1F u1G u1H u1I u1J u1K u1L u1M u1N u1O u1P u1Q u1R u1S u1T u1U u1V u1W u1X u1Y u1Z u1a u1b u1c u1d u1e u1f u1g u1h u1i u1j u1k u1l u1m u1n u1o u1p u1q u1r u1s u1t u1u u1v u1w u1x u1y u1z u2A u2B u2C u2D u2E u2F u2G u2H u2I u2J u2K u2L u2M u2N u2O u2P u2Q u2R u2S u2T u2U u2V u2W u2X u2Y u2Z u2a u2b u2c u2d u2e u2f u2g u2h u2i u2j u2k u2l u2m u2n u2o u2p u2q u2r u2s u2t u2u u2v u2w u2x u2y u2z u3A u3B u3C u3D u3E u3F u3G u3H u3I u3J u3K u3L u3M u3N u3O u3P u3Q u3R u3S u3T u3U u3V u3W u3X u3Y u3Z u3a u3b u3c u3d u3e u3f u3g u3h u3i u3j u3k u3l u3m u3n u3o u3p u3q u3r u3s u3t u3u u3v u3w u3x u3y u3z : Value) (W : World)
  (j0 : (0 : Int) ≤ (j : Int)) (j1 : (j : Int) < (ln : Int)) (j2 : (j : Int) < (vn : Int)) (f0 : W.cell? ⟨ab, 0, none⟩ = some (.slice (some ⟨lb, 0, none⟩) ln lc)) (f3 : W.cell? ⟨ab, 3, none⟩ = some (.slice (some ⟨vb, vo, none⟩) vn vc)) (n0 : W.cell? ⟨b37, 0, none⟩ = some (.int .u64 n.x0)) (n1 : W.cell? ⟨b37, 1, none⟩ = some (.int .u64 n.x1)) (n2 : W.cell? ⟨b37, 2, none⟩ = some (.int .u64 n.x2)) (n3 : W.cell? ⟨b37, 3, none⟩ = some (.int .u64 n.x3)) (p0 : W.cell? ⟨lb, j * 4, none⟩ = some (.int .u64 p.x0)) (p1 : W.cell? ⟨lb, j * 4 + 1, none⟩ = some (.int .u64 p.x1)) (p2 : W.cell? ⟨lb, j * 4 + 2, none⟩ = some (.int .u64 p.x2)) (p3 : W.cell? ⟨lb, j * 4 + 3, none⟩ = some (.int .u64 p.x3)) (q0 : W.cell? ⟨vb, vo + j * 4, none⟩ = some (.int .u64 q.x0)) (q1 : W.cell? ⟨vb, vo + j * 4 + 1, none⟩ = some (.int .u64 q.x1)) (q2 : W.cell? ⟨vb, vo + j * 4 + 2, none⟩ = some (.int .u64 q.x2)) (q3 : W.cell? ⟨vb, vo + j * 4 + 3, none⟩ = some (.int .u64 q.x3))
  (C18 : Hid (∀ yy, Below W.heap.size W yy → Calls Tryd.prog 18 #[.agg #[.int .u64 p.x0, .int .u64 p.x1, .int .u64 p.x2, .int .u64 p.x3], .agg #[.int .u64 q.x0, .int .u64 q.x1, .int .u64 q.x2, .int .u64 q.x3]] yy fun e w' => e = .returned (.agg #[.int .u64 u.x0, .int .u64 u.x1, .int .u64 u.x2, .int .u64 u.x3]) ∧ Below yy.heap.size yy w'))
  (C19 : Hid (∀ yy, Below W.heap.size W yy → Calls Tryd.prog 15 #[.agg #[.int .u64 n.x0, .int .u64 n.x1, .int .u64 n.x2, .int .u64 n.x3], .agg #[.int .u64 u.x0, .int .u64 u.x1, .int .u64 u.x2, .int .u64 u.x3]] yy fun e w' => e = .returned (.bool true) ∧ Below yy.heap.size yy w'))
  (HQ : Hid (∀ (wz : World), Below W.heap.size W wz → Q .normal ⟨#[u0, u1, u2, u3, u4, u5, u6, u7, u8, u9, uA, uB, uC, uD, uE, uF, uG, .pointer (some ⟨ab, 0, none⟩), uI, uJ, uK, uL, uM, uN, uO, uP, uQ, uR, uS, uT, uU, uV, uW, uX, .int .i64 (j : Int), uZ, .int .i64 0, .pointer (some ⟨b37, 0, none⟩), .int .i64 0, ud, ue, uf, ug, uh, ui, uj, uk, ul, um, un, uo, up, uq, ur, us, ut, uu, uv, uw, ux, uy, uz, u0A, u0B, u0C, u0D, u0E, u0F, u0G, u0H, u0I, u0J, u0K, u0L, u0M, u0N, u0O, u0P, u0Q, u0R, u0S, u0T, u0U, u0V, u0W, u0X, u0Y, u0Z, u0a, u0b, u0c, u0d, u0e, u0f, u0g, u0h, u0i, u0j, u0k, u0l, u0m, u0n, u0o, u0p, u0q, u0r, u0s, u0t, u0u, u0v, u0w, u0x, u0y, u0z, u1A, u1B, u1C, u1D, u1E, u1F, u1G, u1H, u1I, u1J, u1K, u1L, u1M, u1N, u1O, u1P, u1Q, u1R, u1S, u1T, u1U, u1V, u1W, u1X, u1Y, u1Z, u1a, u1b, u1c, u1d, u1e, u1f, u1g, u1h, u1i, u1j, u1k, u1l, u1m, u1n, u1o, u1p, u1q, u1r, u1s, u1t, u1u, u1v, u1w, u1x, u1y, u1z, u2A, u2B, u2C, u2D, u2E, u2F, u2G, u2H, u2I, u2J, u2K, u2L, u2M, u2N, u2O, u2P, u2Q, u2R, u2S, u2T, u2U, u2V, u2W, u2X, u2Y, u2Z, u2a, u2b, u2c, u2d, u2e, u2f, u2g, u2h, u2i, u2j, u2k, u2l, u2m, u2n, u2o, u2p, u2q, u2r, u2s, u2t, u2u, u2v, u2w, u2x, u2y, u2z, u3A, u3B, u3C, u3D, u3E, u3F, u3G, u3H, u3I, u3J, u3K, u3L, u3M, u3N, u3O, u3P, u3Q, u3R, u3S, u3T, u3U, u3V, u3W, u3X, u3Y, u3Z, u3a, u3b, u3c, u3d, .int .i64 0, .bool false, .bool false, .int .i64 0, .bool false, .bool false, .bool false, .agg #[.int .u64 n.x0, .int .u64 n.x1, .int .u64 n.x2, .int .u64 n.x3], .pointer (some ⟨ab, 0, none⟩), .slice (some ⟨lb, 0, none⟩) ln lc, .int .i64 (j : Int), .pointer (some ⟨lb, j * 4, none⟩), .agg #[.int .u64 p.x0, .int .u64 p.x1, .int .u64 p.x2, .int .u64 p.x3], .pointer (some ⟨ab, 3, none⟩), .slice (some ⟨vb, vo, none⟩) vn vc, .int .i64 (j : Int), .pointer (some ⟨vb, vo + j * 4, none⟩), .agg #[.int .u64 q.x0, .int .u64 q.x1, .int .u64 q.x2, .int .u64 q.x3], .agg #[.int .u64 u.x0, .int .u64 u.x1, .int .u64 u.x2, .int .u64 u.x3], .bool true, .bool false, .bool false], []⟩ wz)) : (Code.region 37 lg37o true).wp Tryd.prog Q ⟨#[u0, u1, u2, u3, u4, u5, u6, u7, u8, u9, uA, uB, uC, uD, uE, uF, uG, .pointer (some ⟨ab, 0, none⟩), uI, uJ, uK, uL, uM, uN, uO, uP, uQ, uR, uS, uT, uU, uV, uW, uX, .int .i64 (j : Int), uZ, .int .i64 0, .pointer (some ⟨b37, 0, none⟩), .int .i64 0, ud, ue, uf, ug, uh, ui, uj, uk, ul, um, un, uo, up, uq, ur, us, ut, uu, uv, uw, ux, uy, uz, u0A, u0B, u0C, u0D, u0E, u0F, u0G, u0H, u0I, u0J, u0K, u0L, u0M, u0N, u0O, u0P, u0Q, u0R, u0S, u0T, u0U, u0V, u0W, u0X, u0Y, u0Z, u0a, u0b, u0c, u0d, u0e, u0f, u0g, u0h, u0i, u0j, u0k, u0l, u0m, u0n, u0o, u0p, u0q, u0r, u0s, u0t, u0u, u0v, u0w, u0x, u0y, u0z, u1A, u1B, u1C, u1D, u1E, u1F, u1G, u1H, u1I, u1J, u1K, u1L, u1M, u1N, u1O, u1P, u1Q, u1R, u1S, u1T, u1U, u1V, u1W, u1X, u1Y, u1Z, u1a, u1b, u1c, u1d, u1e, u1f, u1g, u1h, u1i, u1j, u1k, u1l, u1m, u1n, u1o, u1p, u1q, u1r, u1s, u1t, u1u, u1v, u1w, u1x, u1y, u1z, u2A, u2B, u2C, u2D, u2E, u2F, u2G, u2H, u2I, u2J, u2K, u2L, u2M, u2N, u2O, u2P, u2Q, u2R, u2S, u2T, u2U, u2V, u2W, u2X, u2Y, u2Z, u2a, u2b, u2c, u2d, u2e, u2f, u2g, u2h, u2i, u2j, u2k, u2l, u2m, u2n, u2o, u2p, u2q, u2r, u2s, u2t, u2u, u2v, u2w, u2x, u2y, u2z, u3A, u3B, u3C, u3D, u3E, u3F, u3G, u3H, u3I, u3J, u3K, u3L, u3M, u3N, u3O, u3P, u3Q, u3R, u3S, u3T, u3U, u3V, u3W, u3X, u3Y, u3Z, u3a, u3b, u3c, u3d, u3e, u3f, u3g, u3h, u3i, u3j, u3k, u3l, u3m, u3n, u3o, u3p, u3q, u3r, u3s, u3t, u3u, u3v, u3w, u3x, u3y, u3z], []⟩ W := by
 unfold lg37o
 refine wp_region_noPanic ?_
 refine wp_region_held_drew (S := fun x => Below W.heap.size W x) (by kernel_rfl) (bl_drew W) (fun hH0 => ?_)
 refine tk 0 lg37o_0 (.int .i64 0) rfl (by kernel_rfl) hH0 rfl (fun w0 hSw => ?_) ?_
 ·(unfold lg37o_0; clear hSw; go_simp)
 simp only [lg37o_0, Act.put, sA, sB, sC]
 refine tk 1 lg37o_1 (.bool false) rfl (by kernel_rfl) hH0 rfl (fun w0 hSw => ?_) ?_
 ·(unfold lg37o_1; clear hSw; go_simp)
 simp only [lg37o_1, Act.put, sA, sB, sC]
 refine tk 2 lg37o_2 (.bool false) rfl (by kernel_rfl) hH0 rfl (fun w0 hSw => ?_) ?_
 ·(unfold lg37o_2; clear hSw; go_simp)
 simp only [lg37o_2, Act.put, sA, sB, sC]
 refine tk 3 lg37o_3 (.int .i64 0) rfl (by kernel_rfl) hH0 rfl (fun w0 hSw => ?_) ?_
 ·(unfold lg37o_3; clear hSw; go_simp)
 simp only [lg37o_3, Act.put, sA, sB, sC]
 refine tk 4 lg37o_4 (.bool false) rfl (by kernel_rfl) hH0 rfl (fun w0 hSw => ?_) ?_
 ·(unfold lg37o_4; clear hSw; go_simp)
 simp only [lg37o_4, Act.put, sA, sB, sC]
 refine tk 5 lg37o_5 (.bool false) rfl (by kernel_rfl) hH0 rfl (fun w0 hSw => ?_) ?_
 ·(unfold lg37o_5; clear hSw; go_simp)
 simp only [lg37o_5, Act.put, sA, sB, sC]
 refine tk 6 lg37o_6 (.bool false) rfl (by kernel_rfl) hH0 rfl (fun w0 hSw => ?_) ?_
 ·(unfold lg37o_6; clear hSw; go_simp)
 simp only [lg37o_6, Act.put, sA, sB, sC]
 refine tk 7 lg37o_7 (.agg #[.int .u64 n.x0, .int .u64 n.x1, .int .u64 n.x2, .int .u64 n.x3]) rfl (by kernel_rfl) hH0 rfl (fun w0 hSw => ?_) ?_
 ·(unfold lg37o_7; have hS : Below W.heap.size W w0 := hSw; have a0 := cell_keep n0 hS; have a1 := cell_keep n1 hS; have a2 := cell_keep n2 hS; have a3 := cell_keep n3 hS; clear hS hSw; go_simp)
 simp only [lg37o_7, Act.put, sA, sB, sC]
 refine tk 8 lg37o_8 (.pointer (some ⟨ab, 0, none⟩)) rfl (by kernel_rfl) hH0 rfl (fun w0 hSw => ?_) ?_
 ·(unfold lg37o_8; clear hSw; go_simp)
 simp only [lg37o_8, Act.put, sA, sB, sC]
 refine tk 10 lg37o_10 (.int .i64 (j : Int)) rfl (by kernel_rfl) hH0 rfl (fun w0 hSw => ?_) ?_
 ·(unfold lg37o_10; clear hSw; go_simp)
 simp only [lg37o_10, Act.put, sA, sB, sC]
 refine tk 13 lg37o_13 (.pointer (some ⟨ab, 3, none⟩)) rfl (by kernel_rfl) hH0 rfl (fun w0 hSw => ?_) ?_
 ·(unfold lg37o_13; clear hSw; go_simp)
 simp only [lg37o_13, Act.put, sA, sB, sC]
 refine tk 15 lg37o_15 (.int .i64 (j : Int)) rfl (by kernel_rfl) hH0 rfl (fun w0 hSw => ?_) ?_
 ·(unfold lg37o_15; clear hSw; go_simp)
 simp only [lg37o_15, Act.put, sA, sB, sC]
 refine tk 9 lg37o_9 (.slice (some ⟨lb, 0, none⟩) ln lc) rfl (by kernel_rfl) hH0 rfl (fun w0 hSw => ?_) ?_
 ·(unfold lg37o_9; have hS : Below W.heap.size W w0 := hSw; have a0 := cell_keep f0 hS; clear hS hSw; go_simp)
 simp only [lg37o_9, Act.put, sA, sB, sC]
 refine tk 14 lg37o_14 (.slice (some ⟨vb, vo, none⟩) vn vc) rfl (by kernel_rfl) hH0 rfl (fun w0 hSw => ?_) ?_
 ·(unfold lg37o_14; have hS : Below W.heap.size W w0 := hSw; have a0 := cell_keep f3 hS; clear hS hSw; go_simp)
 simp only [lg37o_14, Act.put, sA, sB, sC]
 refine tk 11 lg37o_11 (.pointer (some ⟨lb, j * 4, none⟩)) rfl (by kernel_rfl) hH0 rfl (fun w0 hSw => ?_) ?_
 ·(unfold lg37o_11; clear hSw; go_simp)
 simp only [lg37o_11, Act.put, sA, sB, sC]
 refine tk 16 lg37o_16 (.pointer (some ⟨vb, vo + j * 4, none⟩)) rfl (by kernel_rfl) hH0 rfl (fun w0 hSw => ?_) ?_
 ·(unfold lg37o_16; clear hSw; go_simp)
 simp only [lg37o_16, Act.put, sA, sB, sC]
 refine tk 12 lg37o_12 (.agg #[.int .u64 p.x0, .int .u64 p.x1, .int .u64 p.x2, .int .u64 p.x3]) rfl (by kernel_rfl) hH0 rfl (fun w0 hSw => ?_) ?_
 ·(unfold lg37o_12; have hS : Below W.heap.size W w0 := hSw; have a0 := cell_keep p0 hS; have a1 := cell_keep p1 hS; have a2 := cell_keep p2 hS; have a3 := cell_keep p3 hS; clear hS hSw; go_simp)
 simp only [lg37o_12, Act.put, sA, sB, sC]
 refine tk 17 lg37o_17 (.agg #[.int .u64 q.x0, .int .u64 q.x1, .int .u64 q.x2, .int .u64 q.x3]) rfl (by kernel_rfl) hH0 rfl (fun w0 hSw => ?_) ?_
 ·(unfold lg37o_17; have hS : Below W.heap.size W w0 := hSw; have a0 := cell_keep q0 hS; have a1 := cell_keep q1 hS; have a2 := cell_keep q2 hS; have a3 := cell_keep q3 hS; clear hS hSw; go_simp)
 simp only [lg37o_17, Act.put, sA, sB, sC]
 refine wpAnyH_ready (rs := [18]) (by kernel_rfl) (by simp) ?_
 refine AllReadyH.cons (o := lg37o_18) rfl (fun K hK => ?_) AllReadyH.nil
 unfold lg37o_18
 have HH := hidden hH0
 clear hH0
 go_simp
 refine (C18.out _ HH.out).mono ?_
 rintro e wn1 ⟨rfl, hb⟩
 have SN := hidden (bl_trans HH.out hb)
 clear HH C18 hb
 go_wp2_with fail
 refine hK.out _ _ SN.out (fun hH1 => ?_)
 clear hK K SN
 refine wpAnyH_ready (rs := [19]) (by kernel_rfl) (by simp) ?_
 refine AllReadyH.cons (o := lg37o_19) rfl (fun K hK => ?_) AllReadyH.nil
 unfold lg37o_19
 have HH := hidden hH1
 clear hH1
 go_simp
 refine (C19.out _ HH.out).mono ?_
 rintro e wn2 ⟨rfl, hb⟩
 have SN := hidden (bl_trans HH.out hb)
 clear HH C19 hb
 go_wp2_with fail
 refine hK.out _ _ SN.out (fun hH2 => ?_)
 clear hK K SN
 refine tk 20 lg37o_20 (.bool false) rfl (by kernel_rfl) hH2 rfl (fun w0 hSw => ?_) ?_
 ·(unfold lg37o_20; clear hSw; go_simp)
 simp only [lg37o_20, Act.put, sA, sB, sC]
 refine tk 21 lg37o_21 (.bool false) rfl (by kernel_rfl) hH2 rfl (fun w0 hSw => ?_) ?_
 ·(unfold lg37o_21; clear hSw; go_simp)
 simp only [lg37o_21, Act.put, sA, sB, sC]
 have HH := hidden hH2
 have FQ := hidden (HQ.out _ HH.out)
 refine wpAnyH_done (by kernel_rfl) ?_ _
 refine NoPanic.normal ?_
 exact FQ.out
def lg17o_0 : Oper := { dst := some 124, op := Op.fieldAddr 37 (Operand.tmp 17) 0, type := 0, pos := "outright.go:160", after := #[], guard := none }
def lg17o_1 : Oper := { dst := some 125, op := Op.load 25 (Operand.tmp 124), type := 25, pos := "outright.go:160", after := #[{ on := 0, ground := Ground.data }], guard := none }
def lg17o_2 : Oper := { dst := some 126, op := Op.move (Operand.tmp 24), type := 3, pos := "outright.go:160", after := #[], guard := none }
def lg17o_3 : Oper := { dst := some 127, op := Op.fieldAddr 37 (Operand.tmp 17) 1, type := 0, pos := "outright.go:160", after := #[{ on := 15, ground := Ground.gcOnly Departure.lateStores }], guard := none }
def lg17o_4 : Oper := { dst := some 128, op := Op.load 25 (Operand.tmp 127), type := 25, pos := "outright.go:160", after := #[{ on := 3, ground := Ground.data }, { on := 15, ground := Ground.gcOnly Departure.lateStores }], guard := none }
def lg17o_5 : Oper := { dst := some 129, op := Op.move (Operand.tmp 24), type := 3, pos := "outright.go:160", after := #[{ on := 15, ground := Ground.gcOnly Departure.lateStores }], guard := none }
def lg17o_6 : Oper := { dst := some 130, op := Op.fieldAddr 37 (Operand.tmp 17) 2, type := 0, pos := "outright.go:160", after := #[{ on := 17, ground := Ground.gcOnly Departure.lateStores }], guard := none }
def lg17o_7 : Oper := { dst := some 131, op := Op.load 25 (Operand.tmp 130), type := 25, pos := "outright.go:160", after := #[{ on := 6, ground := Ground.data }, { on := 17, ground := Ground.gcOnly Departure.lateStores }], guard := none }
def lg17o_8 : Oper := { dst := some 132, op := Op.move (Operand.tmp 24), type := 3, pos := "outright.go:160", after := #[{ on := 17, ground := Ground.gcOnly Departure.lateStores }], guard := none }
def lg17o_9 : Oper := { dst := some 133, op := Op.load 41 (Operand.tmp 18), type := 41, pos := "outright.go:160", after := #[], guard := none }
def lg17o_10 : Oper := { dst := some 134, op := Op.load 41 (Operand.tmp 20), type := 41, pos := "outright.go:160", after := #[{ on := 15, ground := Ground.gcOnly Departure.lateStores }], guard := none }
def lg17o_11 : Oper := { dst := some 135, op := Op.load 41 (Operand.tmp 18), type := 41, pos := "outright.go:160", after := #[], guard := none }
def lg17o_12 : Oper := { dst := some 136, op := Op.load 41 (Operand.tmp 20), type := 41, pos := "outright.go:160", after := #[], guard := none }
def lg17o_13 : Oper := { dst := some 137, op := Op.call { callee := Callee.value (Operand.func 11), args := #[Operand.tmp 135, Operand.tmp 136], argTypes := #[41, 41] }, type := 41, pos := "outright.go:160", after := #[{ on := 11, ground := Ground.data }, { on := 12, ground := Ground.data }], guard := none }
def lg17o_14 : Oper := { dst := some 138, op := Op.indexAddr 25 (Operand.tmp 125) (Operand.tmp 126), type := 0, pos := "outright.go:160", after := #[{ on := 1, ground := Ground.data }, { on := 2, ground := Ground.data }, { on := 0, ground := Ground.phase }, { on := 1, ground := Ground.phase }, { on := 2, ground := Ground.phase }, { on := 3, ground := Ground.textOnly Departure.lateStores }, { on := 4, ground := Ground.textOnly Departure.lateStores }, { on := 5, ground := Ground.textOnly Departure.lateStores }, { on := 6, ground := Ground.textOnly Departure.lateStores }, { on := 7, ground := Ground.textOnly Departure.lateStores }, { on := 8, ground := Ground.textOnly Departure.lateStores }, { on := 9, ground := Ground.phase }, { on := 10, ground := Ground.textOnly Departure.lateStores }, { on := 11, ground := Ground.textOnly Departure.lateStores }, { on := 12, ground := Ground.textOnly Departure.lateStores }, { on := 13, ground := Ground.phase }], guard := none }
def lg17o_15 : Oper := { dst := none, op := Op.store 41 (Operand.tmp 138) (Operand.tmp 133), type := 0, pos := "outright.go:160", after := #[{ on := 14, ground := Ground.data }, { on := 9, ground := Ground.data }, { on := 13, ground := Ground.chain }, { on := 0, ground := Ground.phase }, { on := 1, ground := Ground.phase }, { on := 2, ground := Ground.phase }, { on := 3, ground := Ground.textOnly Departure.lateStores }, { on := 4, ground := Ground.textOnly Departure.lateStores }, { on := 5, ground := Ground.textOnly Departure.lateStores }, { on := 6, ground := Ground.textOnly Departure.lateStores }, { on := 7, ground := Ground.textOnly Departure.lateStores }, { on := 8, ground := Ground.textOnly Departure.lateStores }, { on := 9, ground := Ground.phase }, { on := 10, ground := Ground.textOnly Departure.lateStores }, { on := 11, ground := Ground.textOnly Departure.lateStores }, { on := 12, ground := Ground.textOnly Departure.lateStores }, { on := 13, ground := Ground.phase }], guard := none }
def lg17o_16 : Oper := { dst := some 139, op := Op.indexAddr 25 (Operand.tmp 128) (Operand.tmp 129), type := 0, pos := "outright.go:160", after := #[{ on := 4, ground := Ground.data }, { on := 5, ground := Ground.data }, { on := 0, ground := Ground.phase }, { on := 1, ground := Ground.phase }, { on := 2, ground := Ground.phase }, { on := 3, ground := Ground.phase }, { on := 4, ground := Ground.phase }, { on := 5, ground := Ground.phase }, { on := 6, ground := Ground.textOnly Departure.lateStores }, { on := 7, ground := Ground.textOnly Departure.lateStores }, { on := 8, ground := Ground.textOnly Departure.lateStores }, { on := 9, ground := Ground.phase }, { on := 10, ground := Ground.phase }, { on := 11, ground := Ground.textOnly Departure.lateStores }, { on := 12, ground := Ground.textOnly Departure.lateStores }, { on := 13, ground := Ground.phase }, { on := 14, ground := Ground.phase }, { on := 15, ground := Ground.phase }], guard := none }
def lg17o_17 : Oper := { dst := none, op := Op.store 41 (Operand.tmp 139) (Operand.tmp 134), type := 0, pos := "outright.go:160", after := #[{ on := 16, ground := Ground.data }, { on := 10, ground := Ground.data }, { on := 15, ground := Ground.chain }, { on := 0, ground := Ground.phase }, { on := 1, ground := Ground.phase }, { on := 2, ground := Ground.phase }, { on := 3, ground := Ground.phase }, { on := 4, ground := Ground.phase }, { on := 5, ground := Ground.phase }, { on := 6, ground := Ground.textOnly Departure.lateStores }, { on := 7, ground := Ground.textOnly Departure.lateStores }, { on := 8, ground := Ground.textOnly Departure.lateStores }, { on := 9, ground := Ground.phase }, { on := 10, ground := Ground.phase }, { on := 11, ground := Ground.textOnly Departure.lateStores }, { on := 12, ground := Ground.textOnly Departure.lateStores }, { on := 13, ground := Ground.phase }, { on := 14, ground := Ground.phase }, { on := 15, ground := Ground.phase }], guard := none }
def lg17o_18 : Oper := { dst := some 140, op := Op.indexAddr 25 (Operand.tmp 131) (Operand.tmp 132), type := 0, pos := "outright.go:160", after := #[{ on := 7, ground := Ground.data }, { on := 8, ground := Ground.data }, { on := 0, ground := Ground.phase }, { on := 1, ground := Ground.phase }, { on := 2, ground := Ground.phase }, { on := 3, ground := Ground.phase }, { on := 4, ground := Ground.phase }, { on := 5, ground := Ground.phase }, { on := 6, ground := Ground.phase }, { on := 7, ground := Ground.phase }, { on := 8, ground := Ground.phase }, { on := 9, ground := Ground.phase }, { on := 10, ground := Ground.phase }, { on := 11, ground := Ground.phase }, { on := 12, ground := Ground.phase }, { on := 13, ground := Ground.phase }, { on := 14, ground := Ground.phase }, { on := 15, ground := Ground.phase }, { on := 16, ground := Ground.phase }, { on := 17, ground := Ground.phase }], guard := none }
def lg17o_19 : Oper := { dst := none, op := Op.store 41 (Operand.tmp 140) (Operand.tmp 137), type := 0, pos := "outright.go:160", after := #[{ on := 18, ground := Ground.data }, { on := 13, ground := Ground.data }, { on := 17, ground := Ground.chain }, { on := 0, ground := Ground.phase }, { on := 1, ground := Ground.phase }, { on := 2, ground := Ground.phase }, { on := 3, ground := Ground.phase }, { on := 4, ground := Ground.phase }, { on := 5, ground := Ground.phase }, { on := 6, ground := Ground.phase }, { on := 7, ground := Ground.phase }, { on := 8, ground := Ground.phase }, { on := 9, ground := Ground.phase }, { on := 10, ground := Ground.phase }, { on := 11, ground := Ground.phase }, { on := 12, ground := Ground.phase }, { on := 13, ground := Ground.phase }, { on := 14, ground := Ground.phase }, { on := 15, ground := Ground.phase }, { on := 16, ground := Ground.phase }, { on := 17, ground := Ground.phase }], guard := none }
def lg17o : Array Oper := #[lg17o_0, lg17o_1, lg17o_2, lg17o_3, lg17o_4, lg17o_5, lg17o_6, lg17o_7, lg17o_8, lg17o_9, lg17o_10, lg17o_11, lg17o_12, lg17o_13, lg17o_14, lg17o_15, lg17o_16, lg17o_17, lg17o_18, lg17o_19]
set_option maxRecDepth 100000 in
set_option maxHeartbeats 16000000 in
theorem lg17 (Q : Exit → Act → World → Prop) (fb b18 b20 k ab an ac bb bn bc cb cn cc : Nat) (n m u : E4) (u0 u1 u2 u3 u4 u5 u6 u7 u8 u9 uA uB uC uD uE uF uG uJ uL uM uN uP uQ uR uS uT uU uV uW uX uY uZ ua ub uc ud ue uf ug uh ui uj uk ul um un uo up uq ur us ut uu uv uw ux uy uz u0A u0B u0C u0D u0E u0F u0G u0H u0I u0J u0K u0L u0M u0N u0O u0P u0Q u0R u0S u0T u0U u0V u0W u0X u0Y u0Z u0a u0b u0c u0d u0e u0f u0g u0h u0i u0j u0k u0l u0m u0n u0o u0p u0q u0r u0s u0t u0u u0v u0w u0x u0y u0z u1A u1B u1C u1D u1E u1F u1G u1H u1I u1J u1K u1L u1M u1N u1O u1P u1Q u1R u1S u1T u1U u1V u1W u1X u1Y u1Z u1a u1b u1c u1d u1e u1f u1g u1h u1i u1j u1k u1l u1m u1n u1o u1p u1q u1r u1s u1t u1u u1v u1w u1x u1y u1z u2A u2B u2C u2D u2E u2F u2G u2H u2I u2J u2K u2L u2M u2N u2O u2P u2Q u2R u2S u2T u2U u2V u2W u2X u2Y u2Z u2a u2b u2c u2d u2e u2f u2g u2h u2i u2j u2k u2l u2m u2n u2o u2p u2q u2r u2s u2t u2u u2v u2w u2x u2y u2z u3A u3B u3C u3D u3E u3F u3G u3H u3I u3J u3K u3L u3M u3N u3O u3P u3Q u3R u3S u3T u3U u3V u3W u3X u3Y u3Z u3a u3b u3c u3d u3e u3f u3g u3h u3i u3j u3k u3l u3m u3n u3o u3p u3q u3r u3s u3t u3u u3v u3w u3x u3y u3z : Value) (W : World)
  (k0 : (0 : Int) ≤ (k : Int)) (k1 : (k : Int) < (an : Int)) (k2 : (k : Int) < (bn : Int)) (k3 : (k : Int) < (cn : Int)) (nf : N3 ab bb cb fb) (n18 : N3 ab bb cb b18) (n20 : N3 ab bb cb b20) (nba : bb ≠ ab) (nca : cb ≠ ab) (ncb : cb ≠ bb) (tha : W.there ab (k * 4) 4) (thb : W.there bb (k * 4) 4) (thc : W.there cb (k * 4) 4) (f0 : W.cell? ⟨fb, 0, none⟩ = some (.slice (some ⟨ab, 0, none⟩) an ac)) (f1 : W.cell? ⟨fb, 1, none⟩ = some (.slice (some ⟨bb, 0, none⟩) bn bc)) (f2 : W.cell? ⟨fb, 2, none⟩ = some (.slice (some ⟨cb, 0, none⟩) cn cc)) (n0 : W.cell? ⟨b18, 0, none⟩ = some (.int .u64 n.x0)) (n1 : W.cell? ⟨b18, 1, none⟩ = some (.int .u64 n.x1)) (n2 : W.cell? ⟨b18, 2, none⟩ = some (.int .u64 n.x2)) (n3 : W.cell? ⟨b18, 3, none⟩ = some (.int .u64 n.x3)) (m0 : W.cell? ⟨b20, 0, none⟩ = some (.int .u64 m.x0)) (m1 : W.cell? ⟨b20, 1, none⟩ = some (.int .u64 m.x1)) (m2 : W.cell? ⟨b20, 2, none⟩ = some (.int .u64 m.x2)) (m3 : W.cell? ⟨b20, 3, none⟩ = some (.int .u64 m.x3))
  (C13 : Hid (∀ yy, Below W.heap.size W yy → Calls Tryd.prog 11 #[.agg #[.int .u64 n.x0, .int .u64 n.x1, .int .u64 n.x2, .int .u64 n.x3], .agg #[.int .u64 m.x0, .int .u64 m.x1, .int .u64 m.x2, .int .u64 m.x3]] yy fun e w' => e = .returned (.agg #[.int .u64 u.x0, .int .u64 u.x1, .int .u64 u.x2, .int .u64 u.x3]) ∧ Below yy.heap.size yy w'))
  (HQ : Hid (∀ (wz : World), (∃ wv, (∃ wx, (∃ wy, Below W.heap.size W wy ∧ wx = wy.setCells ab (k * 4) [.int .u64 n.x0, .int .u64 n.x1, .int .u64 n.x2, .int .u64 n.x3]) ∧ wv = wx.setCells bb (k * 4) [.int .u64 m.x0, .int .u64 m.x1, .int .u64 m.x2, .int .u64 m.x3]) ∧ wz = wv.setCells cb (k * 4) [.int .u64 u.x0, .int .u64 u.x1, .int .u64 u.x2, .int .u64 u.x3]) → Q .normal ⟨#[u0, u1, u2, u3, u4, u5, u6, u7, u8, u9, uA, uB, uC, uD, uE, uF, uG, .pointer (some ⟨fb, 0, none⟩), .pointer (some ⟨b18, 0, none⟩), uJ, .pointer (some ⟨b20, 0, none⟩), uL, uM, uN, .int .i64 (k : Int), uP, uQ, uR, uS, uT, uU, uV, uW, uX, uY, uZ, ua, ub, uc, ud, ue, uf, ug, uh, ui, uj, uk, ul, um, un, uo, up, uq, ur, us, ut, uu, uv, uw, ux, uy, uz, u0A, u0B, u0C, u0D, u0E, u0F, u0G, u0H, u0I, u0J, u0K, u0L, u0M, u0N, u0O, u0P, u0Q, u0R, u0S, u0T, u0U, u0V, u0W, u0X, u0Y, u0Z, u0a, u0b, u0c, u0d, u0e, u0f, u0g, u0h, u0i, u0j, u0k, u0l, u0m, u0n, u0o, u0p, u0q, u0r, u0s, u0t, u0u, u0v, u0w, u0x, u0y, u0z, u1A, u1B, u1C, u1D, u1E, u1F, u1G, u1H, u1I, u1J, .pointer (some ⟨fb, 0, none⟩), .slice (some ⟨ab, 0, none⟩) an ac, .int .i64 (k : Int), .pointer (some ⟨fb, 1, none⟩), .slice (some ⟨bb, 0, none⟩) bn bc, .int .i64 (k : Int), .pointer (some ⟨fb, 2, none⟩), .slice (some ⟨cb, 0, none⟩) cn cc, .int .i64 (k : Int), .agg #[.int .u64 n.x0, .int .u64 n.x1, .int .u64 n.x2, .int .u64 n.x3], .agg #[.int .u64 m.x0, .int .u64 m.x1, .int .u64 m.x2, .int .u64 m.x3], .agg #[.int .u64 n.x0, .int .u64 n.x1, .int .u64 n.x2, .int .u64 n.x3], .agg #[.int .u64 m.x0, .int .u64 m.x1, .int .u64 m.x2, .int .u64 m.x3], .agg #[.int .u64 u.x0, .int .u64 u.x1, .int .u64 u.x2, .int .u64 u.x3], .pointer (some ⟨ab, k * 4, none⟩), .pointer (some ⟨bb, k * 4, none⟩), .pointer (some ⟨cb, k * 4, none⟩), u1b, u1c, u1d, u1e, u1f, u1g, u1h, u1i, u1j, u1k, u1l, u1m, u1n, u1o, u1p, u1q, u1r, u1s, u1t, u1u, u1v, u1w, u1x, u1y, u1z, u2A, u2B, u2C, u2D, u2E, u2F, u2G, u2H, u2I, u2J, u2K, u2L, u2M, u2N, u2O, u2P, u2Q, u2R, u2S, u2T, u2U, u2V, u2W, u2X, u2Y, u2Z, u2a, u2b, u2c, u2d, u2e, u2f, u2g, u2h, u2i, u2j, u2k, u2l, u2m, u2n, u2o, u2p, u2q, u2r, u2s, u2t, u2u, u2v, u2w, u2x, u2y, u2z, u3A, u3B, u3C, u3D, u3E, u3F, u3G, u3H, u3I, u3J, u3K, u3L, u3M, u3N, u3O, u3P, u3Q, u3R, u3S, u3T, u3U, u3V, u3W, u3X, u3Y, u3Z, u3a, u3b, u3c, u3d, u3e, u3f, u3g, u3h, u3i, u3j, u3k, u3l, u3m, u3n, u3o, u3p, u3q, u3r, u3s, u3t, u3u, u3v, u3w, u3x, u3y, u3z], []⟩ wz)) : (Code.region 17 lg17o true).wp Tryd.prog Q ⟨#[u0, u1, u2, u3, u4, u5, u6, u7, u8, u9, uA, uB, uC, uD, uE, uF, uG, .pointer (some ⟨fb, 0, none⟩), .pointer (some ⟨b18, 0, none⟩), uJ, .pointer (some ⟨b20, 0, none⟩), uL, uM, uN, .int .i64 (k : Int), uP, uQ, uR, uS, uT, uU, uV, uW, uX, uY, uZ, ua, ub, uc, ud, ue, uf, ug, uh, ui, uj, uk, ul, um, un, uo, up, uq, ur, us, ut, uu, uv, uw, ux, uy, uz, u0A, u0B, u0C, u0D, u0E, u0F, u0G, u0H, u0I, u0J, u0K, u0L, u0M, u0N, u0O, u0P, u0Q, u0R, u0S, u0T, u0U, u0V, u0W, u0X, u0Y, u0Z, u0a, u0b, u0c, u0d, u0e, u0f, u0g, u0h, u0i, u0j, u0k, u0l, u0m, u0n, u0o, u0p, u0q, u0r, u0s, u0t, u0u, u0v, u0w, u0x, u0y, u0z, u1A, u1B, u1C, u1D, u1E, u1F, u1G, u1H, u1I, u1J, u1K, u1L, u1M, u1N, u1O, u1P, u1Q, u1R, u1S, u1T, u1U, u1V, u1W, u1X, u1Y, u1Z, u1a, u1b, u1c, u1d, u1e, u1f, u1g, u1h, u1i, u1j, u1k, u1l, u1m, u1n, u1o, u1p, u1q, u1r, u1s, u1t, u1u, u1v, u1w, u1x, u1y, u1z, u2A, u2B, u2C, u2D, u2E, u2F, u2G, u2H, u2I, u2J, u2K, u2L, u2M, u2N, u2O, u2P, u2Q, u2R, u2S, u2T, u2U, u2V, u2W, u2X, u2Y, u2Z, u2a, u2b, u2c, u2d, u2e, u2f, u2g, u2h, u2i, u2j, u2k, u2l, u2m, u2n, u2o, u2p, u2q, u2r, u2s, u2t, u2u, u2v, u2w, u2x, u2y, u2z, u3A, u3B, u3C, u3D, u3E, u3F, u3G, u3H, u3I, u3J, u3K, u3L, u3M, u3N, u3O, u3P, u3Q, u3R, u3S, u3T, u3U, u3V, u3W, u3X, u3Y, u3Z, u3a, u3b, u3c, u3d, u3e, u3f, u3g, u3h, u3i, u3j, u3k, u3l, u3m, u3n, u3o, u3p, u3q, u3r, u3s, u3t, u3u, u3v, u3w, u3x, u3y, u3z], []⟩ W := by
 have BB := hidden (bl_drew W)
 have TA := hidden (there_bl tha (bl_drew W))
 have TB2 := hidden (there_bl thb (bl_drew W))
 have TC := hidden (there_bl thc (bl_drew W))
 clear tha thb thc
 unfold lg17o
 refine wp_region_noPanic ?_
 refine wp_region_held_drew (S := fun x => K3 ab bb cb W x) (by kernel_rfl) (K3.of (bl_drew W)) (fun hH0 => ?_)
 refine tk 0 lg17o_0 (.pointer (some ⟨fb, 0, none⟩)) rfl (by kernel_rfl) hH0 rfl (fun w0 hSw => ?_) ?_
 ·(unfold lg17o_0; clear hSw; go_simp)
 simp only [lg17o_0, Act.put, sA, sB, sC]
 refine tk 2 lg17o_2 (.int .i64 (k : Int)) rfl (by kernel_rfl) hH0 rfl (fun w0 hSw => ?_) ?_
 ·(unfold lg17o_2; clear hSw; go_simp)
 simp only [lg17o_2, Act.put, sA, sB, sC]
 refine tk 3 lg17o_3 (.pointer (some ⟨fb, 1, none⟩)) rfl (by kernel_rfl) hH0 rfl (fun w0 hSw => ?_) ?_
 ·(unfold lg17o_3; clear hSw; go_simp)
 simp only [lg17o_3, Act.put, sA, sB, sC]
 refine tk 5 lg17o_5 (.int .i64 (k : Int)) rfl (by kernel_rfl) hH0 rfl (fun w0 hSw => ?_) ?_
 ·(unfold lg17o_5; clear hSw; go_simp)
 simp only [lg17o_5, Act.put, sA, sB, sC]
 refine tk 6 lg17o_6 (.pointer (some ⟨fb, 2, none⟩)) rfl (by kernel_rfl) hH0 rfl (fun w0 hSw => ?_) ?_
 ·(unfold lg17o_6; clear hSw; go_simp)
 simp only [lg17o_6, Act.put, sA, sB, sC]
 refine tk 8 lg17o_8 (.int .i64 (k : Int)) rfl (by kernel_rfl) hH0 rfl (fun w0 hSw => ?_) ?_
 ·(unfold lg17o_8; clear hSw; go_simp)
 simp only [lg17o_8, Act.put, sA, sB, sC]
 refine tk 9 lg17o_9 (.agg #[.int .u64 n.x0, .int .u64 n.x1, .int .u64 n.x2, .int .u64 n.x3]) rfl (by kernel_rfl) hH0 rfl (fun w0 hSw => ?_) ?_
 ·(unfold lg17o_9; have hS : K3 ab bb cb W w0 := hSw; have a0 := hS.cell n0 n18; have a1 := hS.cell n1 n18; have a2 := hS.cell n2 n18; have a3 := hS.cell n3 n18; clear hS hSw; go_simp)
 simp only [lg17o_9, Act.put, sA, sB, sC]
 refine tk 10 lg17o_10 (.agg #[.int .u64 m.x0, .int .u64 m.x1, .int .u64 m.x2, .int .u64 m.x3]) rfl (by kernel_rfl) hH0 rfl (fun w0 hSw => ?_) ?_
 ·(unfold lg17o_10; have hS : K3 ab bb cb W w0 := hSw; have a0 := hS.cell m0 n20; have a1 := hS.cell m1 n20; have a2 := hS.cell m2 n20; have a3 := hS.cell m3 n20; clear hS hSw; go_simp)
 simp only [lg17o_10, Act.put, sA, sB, sC]
 refine tk 11 lg17o_11 (.agg #[.int .u64 n.x0, .int .u64 n.x1, .int .u64 n.x2, .int .u64 n.x3]) rfl (by kernel_rfl) hH0 rfl (fun w0 hSw => ?_) ?_
 ·(unfold lg17o_11; have hS : K3 ab bb cb W w0 := hSw; have a0 := hS.cell n0 n18; have a1 := hS.cell n1 n18; have a2 := hS.cell n2 n18; have a3 := hS.cell n3 n18; clear hS hSw; go_simp)
 simp only [lg17o_11, Act.put, sA, sB, sC]
 refine tk 12 lg17o_12 (.agg #[.int .u64 m.x0, .int .u64 m.x1, .int .u64 m.x2, .int .u64 m.x3]) rfl (by kernel_rfl) hH0 rfl (fun w0 hSw => ?_) ?_
 ·(unfold lg17o_12; have hS : K3 ab bb cb W w0 := hSw; have a0 := hS.cell m0 n20; have a1 := hS.cell m1 n20; have a2 := hS.cell m2 n20; have a3 := hS.cell m3 n20; clear hS hSw; go_simp)
 simp only [lg17o_12, Act.put, sA, sB, sC]
 refine tk 1 lg17o_1 (.slice (some ⟨ab, 0, none⟩) an ac) rfl (by kernel_rfl) hH0 rfl (fun w0 hSw => ?_) ?_
 ·(unfold lg17o_1; have hS : K3 ab bb cb W w0 := hSw; have a0 := hS.cell f0 nf; clear hS hSw; go_simp)
 simp only [lg17o_1, Act.put, sA, sB, sC]
 refine tk 4 lg17o_4 (.slice (some ⟨bb, 0, none⟩) bn bc) rfl (by kernel_rfl) hH0 rfl (fun w0 hSw => ?_) ?_
 ·(unfold lg17o_4; have hS : K3 ab bb cb W w0 := hSw; have a0 := hS.cell f1 nf; clear hS hSw; go_simp)
 simp only [lg17o_4, Act.put, sA, sB, sC]
 refine tk 7 lg17o_7 (.slice (some ⟨cb, 0, none⟩) cn cc) rfl (by kernel_rfl) hH0 rfl (fun w0 hSw => ?_) ?_
 ·(unfold lg17o_7; have hS : K3 ab bb cb W w0 := hSw; have a0 := hS.cell f2 nf; clear hS hSw; go_simp)
 simp only [lg17o_7, Act.put, sA, sB, sC]
 refine wpAnyH_ready (rs := [13]) (by kernel_rfl) (by simp) ?_
 refine AllReadyH.cons (o := lg17o_13) rfl (fun K hK => ?_) AllReadyH.nil
 unfold lg17o_13
 have HH := hidden hH0
 clear hH0
 go_simp
 refine (C13.out _ BB.out).mono ?_
 rintro e wn1 ⟨rfl, hb⟩
 replace BB := hidden (bl_trans BB.out hb)
 replace TA := hidden (there_bl TA.out hb)
 replace TB2 := hidden (there_bl TB2.out hb)
 replace TC := hidden (there_bl TC.out hb)
 have SN := hidden (HH.out.bl hb)
 clear HH C13 hb
 go_wp2_with fail
 refine hK.out _ _ SN.out (fun hH1 => ?_)
 clear hK K SN
 refine tk 14 lg17o_14 (.pointer (some ⟨ab, k * 4, none⟩)) rfl (by kernel_rfl) hH1 rfl (fun w0 hSw => ?_) ?_
 ·(unfold lg17o_14; clear hSw; go_simp)
 simp only [lg17o_14, Act.put, sA, sB, sC]
 refine wpAnyH_ready (rs := [15]) (by kernel_rfl) (by simp) ?_
 refine AllReadyH.cons (o := lg17o_15) rfl (fun K hK => ?_) AllReadyH.nil
 unfold lg17o_15
 have HH := hidden hH1
 clear hH1
 refine wp_storeE 41 _ _ rfl ab (k * 4) ([.int .u64 n.x0, .int .u64 n.x1, .int .u64 n.x2, .int .u64 n.x3]) (by rfl) (by rfl) TA.out i4_s (one4 n) rfl (fun wn2 hw => ?_)
 have SN := hidden (HH.out.gr (gb_setCells ab [.int .u64 n.x0, .int .u64 n.x1, .int .u64 n.x2, .int .u64 n.x3] (k * 4) _) (Or.inl rfl))
 replace TB2 := hidden (there_gbN TB2.out (gb_setCells ab [.int .u64 n.x0, .int .u64 n.x1, .int .u64 n.x2, .int .u64 n.x3] (k * 4) _) nba)
 replace TC := hidden (there_gbN TC.out (gb_setCells ab [.int .u64 n.x0, .int .u64 n.x1, .int .u64 n.x2, .int .u64 n.x3] (k * 4) _) nca)
 have F1 := hidden ((⟨_, BB.out, hw⟩ : ∃ wy, Below W.heap.size W wy ∧ _ = wy.setCells ab (k * 4) [.int .u64 n.x0, .int .u64 n.x1, .int .u64 n.x2, .int .u64 n.x3]))
 rw [← hw] at SN TB2 TC
 clear HH hw
 refine hK.out _ _ SN.out (fun hH2 => ?_)
 clear hK K SN
 refine tk 16 lg17o_16 (.pointer (some ⟨bb, k * 4, none⟩)) rfl (by kernel_rfl) hH2 rfl (fun w0 hSw => ?_) ?_
 ·(unfold lg17o_16; clear hSw; go_simp)
 simp only [lg17o_16, Act.put, sA, sB, sC]
 refine wpAnyH_ready (rs := [17]) (by kernel_rfl) (by simp) ?_
 refine AllReadyH.cons (o := lg17o_17) rfl (fun K hK => ?_) AllReadyH.nil
 unfold lg17o_17
 have HH := hidden hH2
 clear hH2
 refine wp_storeE 41 _ _ rfl bb (k * 4) ([.int .u64 m.x0, .int .u64 m.x1, .int .u64 m.x2, .int .u64 m.x3]) (by rfl) (by rfl) TB2.out i4_s (one4 m) rfl (fun wn3 hw => ?_)
 have SN := hidden (HH.out.gr (gb_setCells bb [.int .u64 m.x0, .int .u64 m.x1, .int .u64 m.x2, .int .u64 m.x3] (k * 4) _) (Or.inr (Or.inl rfl)))
 replace TC := hidden (there_gbN TC.out (gb_setCells bb [.int .u64 m.x0, .int .u64 m.x1, .int .u64 m.x2, .int .u64 m.x3] (k * 4) _) ncb)
 have F2 := hidden ((⟨_, F1.out, hw⟩ : ∃ wx, (∃ wy, Below W.heap.size W wy ∧ wx = wy.setCells ab (k * 4) [.int .u64 n.x0, .int .u64 n.x1, .int .u64 n.x2, .int .u64 n.x3]) ∧ _ = wx.setCells bb (k * 4) [.int .u64 m.x0, .int .u64 m.x1, .int .u64 m.x2, .int .u64 m.x3]))
 rw [← hw] at SN TC
 clear HH hw
 refine hK.out _ _ SN.out (fun hH3 => ?_)
 clear hK K SN
 refine tk 18 lg17o_18 (.pointer (some ⟨cb, k * 4, none⟩)) rfl (by kernel_rfl) hH3 rfl (fun w0 hSw => ?_) ?_
 ·(unfold lg17o_18; clear hSw; go_simp)
 simp only [lg17o_18, Act.put, sA, sB, sC]
 refine wpAnyH_ready (rs := [19]) (by kernel_rfl) (by simp) ?_
 refine AllReadyH.cons (o := lg17o_19) rfl (fun K hK => ?_) AllReadyH.nil
 unfold lg17o_19
 have HH := hidden hH3
 clear hH3
 refine wp_storeE 41 _ _ rfl cb (k * 4) ([.int .u64 u.x0, .int .u64 u.x1, .int .u64 u.x2, .int .u64 u.x3]) (by rfl) (by rfl) TC.out i4_s (one4 u) rfl (fun wn4 hw => ?_)
 have SN := hidden (HH.out.gr (gb_setCells cb [.int .u64 u.x0, .int .u64 u.x1, .int .u64 u.x2, .int .u64 u.x3] (k * 4) _) (Or.inr (Or.inr rfl)))
 have F3 := hidden ((⟨_, F2.out, hw⟩ : ∃ wv, (∃ wx, (∃ wy, Below W.heap.size W wy ∧ wx = wy.setCells ab (k * 4) [.int .u64 n.x0, .int .u64 n.x1, .int .u64 n.x2, .int .u64 n.x3]) ∧ wv = wx.setCells bb (k * 4) [.int .u64 m.x0, .int .u64 m.x1, .int .u64 m.x2, .int .u64 m.x3]) ∧ _ = wv.setCells cb (k * 4) [.int .u64 u.x0, .int .u64 u.x1, .int .u64 u.x2, .int .u64 u.x3]))
 rw [← hw] at SN
 clear HH hw
 refine hK.out _ _ SN.out (fun hH4 => ?_)
 clear hK K SN
 have HH := hidden hH4
 have FQ := hidden (HQ.out _ F3.out)
 refine wpAnyH_done (by kernel_rfl) ?_ _
 refine NoPanic.normal ?_
 exact FQ.out
def lg23o_0 : Oper := { dst := some 172, op := Op.move (Operand.tmp 11), type := 27, pos := "outright.go:166", after := #[], guard := none }
def lg23o_1 : Oper := { dst := some 173, op := Op.load 37 (Operand.tmp 17), type := 37, pos := "outright.go:166", after := #[], guard := none }
def lg23o_2 : Oper := { dst := some 174, op := Op.load 32 (Operand.tmp 15), type := 32, pos := "outright.go:166", after := #[], guard := none }
def lg23o_3 : Oper := { dst := some 175, op := Op.call { callee := Callee.value (Operand.func 10), args := #[Operand.tmp 174], argTypes := #[32] }, type := 24, pos := "outright.go:166", after := #[{ on := 2, ground := Ground.data }], guard := none }
def lg23o_4 : Oper := { dst := some 176, op := Op.call { callee := Callee.value (Operand.func 9), args := #[Operand.tmp 172, Operand.tmp 173, Operand.tmp 175], argTypes := #[27, 37, 24] }, type := 42, pos := "outright.go:166", after := #[{ on := 0, ground := Ground.data }, { on := 1, ground := Ground.data }, { on := 3, ground := Ground.data }, { on := 3, ground := Ground.chain }], guard := none }
def lg23o_5 : Oper := { dst := some 171, op := Op.move (Operand.tmp 176), type := 42, pos := "outright.go:166", after := #[{ on := 4, ground := Ground.data }], guard := none }
def lg23o_6 : Oper := { dst := some 177, op := Op.extract (Operand.tmp 171) 0, type := 41, pos := "outright.go:166", after := #[{ on := 5, ground := Ground.data }], guard := none }
def lg23o_7 : Oper := { dst := some 178, op := Op.extract (Operand.tmp 171) 1, type := 33, pos := "outright.go:166", after := #[{ on := 5, ground := Ground.data }, { on := 8, ground := Ground.gcOnly Departure.lateStores }], guard := none }
def lg23o_8 : Oper := { dst := none, op := Op.store 41 (Operand.tmp 22) (Operand.tmp 177), type := 0, pos := "outright.go:166", after := #[{ on := 6, ground := Ground.data }, { on := 4, ground := Ground.chain }, { on := 0, ground := Ground.phase }, { on := 1, ground := Ground.phase }, { on := 2, ground := Ground.phase }, { on := 3, ground := Ground.phase }, { on := 4, ground := Ground.phase }, { on := 5, ground := Ground.phase }, { on := 6, ground := Ground.phase }, { on := 7, ground := Ground.textOnly Departure.lateStores }], guard := none }
def lg23o : Array Oper := #[lg23o_0, lg23o_1, lg23o_2, lg23o_3, lg23o_4, lg23o_5, lg23o_6, lg23o_7, lg23o_8]
set_option maxRecDepth 100000 in
set_option maxHeartbeats 16000000 in
theorem lg23 (Q : Exit → Act → World → Prop) (sb fb ob pb k : Nat) (a b c d : Sl) (z : E4) (u0 u1 u2 u3 u4 u5 u6 u7 u8 u9 uA uC uD uE uG uI uJ uK uL uN uO uP uQ uR uS uT uU uV uW uX uY uZ ua ub uc ud ue uf ug uh ui uj uk ul um un uo up uq ur us ut uu uv uw ux uy uz u0A u0B u0C u0D u0E u0F u0G u0H u0I u0J u0K u0L u0M u0N u0O u0P u0Q u0R u0S u0T u0U u0V u0W u0X u0Y u0Z u0a u0b u0c u0d u0e u0f u0g u0h u0i u0j u0k u0l u0m u0n u0o u0p u0q u0r u0s u0t u0u u0v u0w u0x u0y u0z u1A u1B u1C u1D u1E u1F u1G u1H u1I u1J u1K u1L u1M u1N u1O u1P u1Q u1R u1S u1T u1U u1V u1W u1X u1Y u1Z u1a u1b u1c u1d u1e u1f u1g u1h u1i u1j u1k u1l u1m u1n u1o u1p u1q u1r u1s u1t u1u u1v u1w u1x u1y u1z u2A u2B u2C u2D u2E u2F u2G u2H u2I u2J u2K u2L u2M u2N u2O u2P u2Q u2R u2S u2T u2U u2V u2W u2X u2Y u2Z u2a u2b u2c u2d u2e u2f u2g u2h u2i u2j u2k u2l u2m u2n u2o u2p u2q u2r u2s u2t u2u u2v u2w u2x u2y u2z u3A u3B u3C u3D u3E u3F u3G u3H u3I u3J u3K u3L u3M u3N u3O u3P u3Q u3R u3S u3T u3U u3V u3W u3X u3Y u3Z u3a u3b u3c u3d u3e u3f u3g u3h u3i u3j u3k u3l u3m u3n u3o u3p u3q u3r u3s u3t u3u u3v u3w u3x u3y u3z : Value) (W : World)
  (nf : fb ≠ pb) (no : ob ≠ pb) (th : W.there pb 0 4) (f0 : W.cell? ⟨fb, 0, none⟩ = some (.slice a.p a.n a.c)) (f1 : W.cell? ⟨fb, 1, none⟩ = some (.slice b.p b.n b.c)) (f2 : W.cell? ⟨fb, 2, none⟩ = some (.slice c.p c.n c.c)) (f3 : W.cell? ⟨fb, 3, none⟩ = some (.slice d.p d.n d.c)) (o0 : W.cell? ⟨ob, 0, none⟩ = some (.int .i64 4)) (o1 : W.cell? ⟨ob, 1, none⟩ = some (.int .i64 (k : Int)))
  (C3 : Hid (∀ yy, Below W.heap.size W yy → Calls Tryd.prog 10 #[.agg #[.int .i64 4, .int .i64 (k : Int)]] yy fun e w' => ∃ p1 c1, e = .returned (.slice p1 1 c1) ∧ Lt w' p1 1 (ft [((4, (k : Int)), 1)]) ∧ Below yy.heap.size yy w'))
  (C4 : Hid (∀ (p1 : Option Addr) (c1 : Nat) (yy : World), Below W.heap.size W yy → Lt yy p1 1 (ft [((4, (k : Int)), 1)]) → Calls Tryd.prog 9 #[.pointer (some ⟨sb, 0, none⟩), .agg #[.slice a.p a.n a.c, .slice b.p b.n b.c, .slice c.p c.n c.c, .slice d.p d.n d.c], .slice p1 1 c1] yy fun e w' => e = .returned (.tuple #[.agg #[.int .u64 z.x0, .int .u64 z.x1, .int .u64 z.x2, .int .u64 z.x3], .int .i64 0]) ∧ Below yy.heap.size yy w'))
  (HQ : Hid (∀ (wz : World) (p1 : Option Addr) (c1 : Nat), (∃ wy, Below W.heap.size W wy ∧ wz = wy.setCells pb 0 [.int .u64 z.x0, .int .u64 z.x1, .int .u64 z.x2, .int .u64 z.x3]) → Q .normal ⟨#[u0, u1, u2, u3, u4, u5, u6, u7, u8, u9, uA, .pointer (some ⟨sb, 0, none⟩), uC, uD, uE, .pointer (some ⟨ob, 0, none⟩), uG, .pointer (some ⟨fb, 0, none⟩), uI, uJ, uK, uL, .pointer (some ⟨pb, 0, none⟩), uN, uO, uP, uQ, uR, uS, uT, uU, uV, uW, uX, uY, uZ, ua, ub, uc, ud, ue, uf, ug, uh, ui, uj, uk, ul, um, un, uo, up, uq, ur, us, ut, uu, uv, uw, ux, uy, uz, u0A, u0B, u0C, u0D, u0E, u0F, u0G, u0H, u0I, u0J, u0K, u0L, u0M, u0N, u0O, u0P, u0Q, u0R, u0S, u0T, u0U, u0V, u0W, u0X, u0Y, u0Z, u0a, u0b, u0c, u0d, u0e, u0f, u0g, u0h, u0i, u0j, u0k, u0l, u0m, u0n, u0o, u0p, u0q, u0r, u0s, u0t, u0u, u0v, u0w, u0x, u0y, u0z, u1A, u1B, u1C, u1D, u1E, u1F, u1G, u1H, u1I, u1J, u1K, u1L, u1M, u1N, u1O, u1P, u1Q, u1R, u1S, u1T, u1U, u1V, u1W, u1X, u1Y, u1Z, u1a, u1b, u1c, u1d, u1e, u1f, u1g, u1h, u1i, u1j, u1k, u1l, u1m, u1n, u1o, u1p, u1q, u1r, u1s, u1t, u1u, u1v, u1w, u1x, u1y, u1z, u2A, u2B, u2C, u2D, u2E, .tuple #[.agg #[.int .u64 z.x0, .int .u64 z.x1, .int .u64 z.x2, .int .u64 z.x3], .int .i64 0], .pointer (some ⟨sb, 0, none⟩), .agg #[.slice a.p a.n a.c, .slice b.p b.n b.c, .slice c.p c.n c.c, .slice d.p d.n d.c], .agg #[.int .i64 4, .int .i64 (k : Int)], .slice p1 1 c1, .tuple #[.agg #[.int .u64 z.x0, .int .u64 z.x1, .int .u64 z.x2, .int .u64 z.x3], .int .i64 0], .agg #[.int .u64 z.x0, .int .u64 z.x1, .int .u64 z.x2, .int .u64 z.x3], .int .i64 0, u2N, u2O, u2P, u2Q, u2R, u2S, u2T, u2U, u2V, u2W, u2X, u2Y, u2Z, u2a, u2b, u2c, u2d, u2e, u2f, u2g, u2h, u2i, u2j, u2k, u2l, u2m, u2n, u2o, u2p, u2q, u2r, u2s, u2t, u2u, u2v, u2w, u2x, u2y, u2z, u3A, u3B, u3C, u3D, u3E, u3F, u3G, u3H, u3I, u3J, u3K, u3L, u3M, u3N, u3O, u3P, u3Q, u3R, u3S, u3T, u3U, u3V, u3W, u3X, u3Y, u3Z, u3a, u3b, u3c, u3d, u3e, u3f, u3g, u3h, u3i, u3j, u3k, u3l, u3m, u3n, u3o, u3p, u3q, u3r, u3s, u3t, u3u, u3v, u3w, u3x, u3y, u3z], []⟩ wz)) : (Code.region 23 lg23o true).wp Tryd.prog Q ⟨#[u0, u1, u2, u3, u4, u5, u6, u7, u8, u9, uA, .pointer (some ⟨sb, 0, none⟩), uC, uD, uE, .pointer (some ⟨ob, 0, none⟩), uG, .pointer (some ⟨fb, 0, none⟩), uI, uJ, uK, uL, .pointer (some ⟨pb, 0, none⟩), uN, uO, uP, uQ, uR, uS, uT, uU, uV, uW, uX, uY, uZ, ua, ub, uc, ud, ue, uf, ug, uh, ui, uj, uk, ul, um, un, uo, up, uq, ur, us, ut, uu, uv, uw, ux, uy, uz, u0A, u0B, u0C, u0D, u0E, u0F, u0G, u0H, u0I, u0J, u0K, u0L, u0M, u0N, u0O, u0P, u0Q, u0R, u0S, u0T, u0U, u0V, u0W, u0X, u0Y, u0Z, u0a, u0b, u0c, u0d, u0e, u0f, u0g, u0h, u0i, u0j, u0k, u0l, u0m, u0n, u0o, u0p, u0q, u0r, u0s, u0t, u0u, u0v, u0w, u0x, u0y, u0z, u1A, u1B, u1C, u1D, u1E, u1F, u1G, u1H, u1I, u1J, u1K, u1L, u1M, u1N, u1O, u1P, u1Q, u1R, u1S, u1T, u1U, u1V, u1W, u1X, u1Y, u1Z, u1a, u1b, u1c, u1d, u1e, u1f, u1g, u1h, u1i, u1j, u1k, u1l, u1m, u1n, u1o, u1p, u1q, u1r, u1s, u1t, u1u, u1v, u1w, u1x, u1y, u1z, u2A, u2B, u2C, u2D, u2E, u2F, u2G, u2H, u2I, u2J, u2K, u2L, u2M, u2N, u2O, u2P, u2Q, u2R, u2S, u2T, u2U, u2V, u2W, u2X, u2Y, u2Z, u2a, u2b, u2c, u2d, u2e, u2f, u2g, u2h, u2i, u2j, u2k, u2l, u2m, u2n, u2o, u2p, u2q, u2r, u2s, u2t, u2u, u2v, u2w, u2x, u2y, u2z, u3A, u3B, u3C, u3D, u3E, u3F, u3G, u3H, u3I, u3J, u3K, u3L, u3M, u3N, u3O, u3P, u3Q, u3R, u3S, u3T, u3U, u3V, u3W, u3X, u3Y, u3Z, u3a, u3b, u3c, u3d, u3e, u3f, u3g, u3h, u3i, u3j, u3k, u3l, u3m, u3n, u3o, u3p, u3q, u3r, u3s, u3t, u3u, u3v, u3w, u3x, u3y, u3z], []⟩ W := by
 have BB := hidden (bl_drew W)
 unfold lg23o
 refine wp_region_noPanic ?_
 refine wp_region_held_drew (S := fun x => W.grownBy x (some pb)) (by kernel_rfl) (gbI (bl_drew W) _) (fun hH0 => ?_)
 refine tk 0 lg23o_0 (.pointer (some ⟨sb, 0, none⟩)) rfl (by kernel_rfl) hH0 rfl (fun w0 hSw => ?_) ?_
 ·(unfold lg23o_0; clear hSw; go_simp)
 simp only [lg23o_0, Act.put, sA, sB, sC]
 refine tk 1 lg23o_1 (.agg #[.slice a.p a.n a.c, .slice b.p b.n b.c, .slice c.p c.n c.c, .slice d.p d.n d.c]) rfl (by kernel_rfl) hH0 rfl (fun w0 hSw => ?_) ?_
 ·(unfold lg23o_1; have hS : W.grownBy w0 (some pb) := hSw; have a0 := hS.cell f0 (fun e => nf (Option.some.inj e)); have a1 := hS.cell f1 (fun e => nf (Option.some.inj e)); have a2 := hS.cell f2 (fun e => nf (Option.some.inj e)); have a3 := hS.cell f3 (fun e => nf (Option.some.inj e)); clear hS hSw; go_simp)
 simp only [lg23o_1, Act.put, sA, sB, sC]
 refine tk 2 lg23o_2 (.agg #[.int .i64 4, .int .i64 (k : Int)]) rfl (by kernel_rfl) hH0 rfl (fun w0 hSw => ?_) ?_
 ·(unfold lg23o_2; have hS : W.grownBy w0 (some pb) := hSw; have a0 := hS.cell o0 (fun e => no (Option.some.inj e)); have a1 := hS.cell o1 (fun e => no (Option.some.inj e)); clear hS hSw; go_simp)
 simp only [lg23o_2, Act.put, sA, sB, sC]
 refine wpAnyH_ready (rs := [3]) (by kernel_rfl) (by simp) ?_
 refine AllReadyH.cons (o := lg23o_3) rfl (fun K hK => ?_) AllReadyH.nil
 unfold lg23o_3
 have HH := hidden hH0
 clear hH0
 go_simp
 refine (C3.out _ BB.out).mono ?_
 rintro e wn1 ⟨p1, c1, rfl, hl, hb⟩
 replace BB := hidden (bl_trans BB.out hb)
 have SN := hidden (HH.out.trans (gbI hb _))
 have L1 := hidden (hl)
 clear HH C3 hb hl
 go_wp2_with fail
 refine hK.out _ _ SN.out (fun hH1 => ?_)
 clear hK K SN
 refine wpAnyH_ready (rs := [4]) (by kernel_rfl) (by simp) ?_
 refine AllReadyH.cons (o := lg23o_4) rfl (fun K hK => ?_) AllReadyH.nil
 unfold lg23o_4
 have HH := hidden hH1
 clear hH1
 go_simp
 refine (C4.out _ _ _ BB.out L1.out).mono ?_
 rintro e wn2 ⟨rfl, hb⟩
 replace BB := hidden (bl_trans BB.out hb)
 have SN := hidden (HH.out.trans (gbI hb _))
 clear HH C4 hb L1
 go_wp2_with fail
 refine hK.out _ _ SN.out (fun hH2 => ?_)
 clear hK K SN
 refine tk 5 lg23o_5 (.tuple #[.agg #[.int .u64 z.x0, .int .u64 z.x1, .int .u64 z.x2, .int .u64 z.x3], .int .i64 0]) rfl (by kernel_rfl) hH2 rfl (fun w0 hSw => ?_) ?_
 ·(unfold lg23o_5; clear hSw; go_simp)
 simp only [lg23o_5, Act.put, sA, sB, sC]
 refine tk 6 lg23o_6 (.agg #[.int .u64 z.x0, .int .u64 z.x1, .int .u64 z.x2, .int .u64 z.x3]) rfl (by kernel_rfl) hH2 rfl (fun w0 hSw => ?_) ?_
 ·(unfold lg23o_6; clear hSw; go_simp)
 simp only [lg23o_6, Act.put, sA, sB, sC]
 refine tk 7 lg23o_7 (.int .i64 0) rfl (by kernel_rfl) hH2 rfl (fun w0 hSw => ?_) ?_
 ·(unfold lg23o_7; clear hSw; go_simp)
 simp only [lg23o_7, Act.put, sA, sB, sC]
 refine wpAnyH_ready (rs := [8]) (by kernel_rfl) (by simp) ?_
 refine AllReadyH.cons (o := lg23o_8) rfl (fun K hK => ?_) AllReadyH.nil
 unfold lg23o_8
 have HH := hidden hH2
 clear hH2
 refine wp_storeE 41 _ _ rfl pb 0 ([.int .u64 z.x0, .int .u64 z.x1, .int .u64 z.x2, .int .u64 z.x3]) (by rfl) (by rfl) (there_bl th BB.out) i4_s (one4 z) rfl (fun wn3 hw => ?_)
 have SN := hidden (HH.out.trans (gb_setCells pb [.int .u64 z.x0, .int .u64 z.x1, .int .u64 z.x2, .int .u64 z.x3] 0 _))
 have FE := hidden ((⟨_, BB.out, hw⟩ : ∃ wy, Below W.heap.size W wy ∧ _ = wy.setCells pb 0 [.int .u64 z.x0, .int .u64 z.x1, .int .u64 z.x2, .int .u64 z.x3]))
 rw [← hw] at SN
 clear HH hw
 refine hK.out _ _ SN.out (fun hH3 => ?_)
 clear hK K SN
 have HH := hidden hH3
 have FQ := hidden (HQ.out _ p1 c1 FE.out)
 refine wpAnyH_done (by kernel_rfl) ?_ _
 refine NoPanic.normal ?_
 exact FQ.out
end Ci
end Go.Proofs.YtclihahohhhhiaaDoor
