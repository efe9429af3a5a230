import Derived.Test.YtghcfcglakbkeaaGreatDoorCsiz
namespace Go.Proofs.YtghcfcglakbkeaaGreatDoor
set_option maxRecDepth 100000
set_option maxHeartbeats 16000000
open Go.RowKit
set_option linter.unusedVariables false
set_option linter.unusedSimpArgs false
open Cm (Wr Tm co bf Ls lf ins Eqm)
namespace Ci
def mkT : Trm := ⟨(77, 78), ⟨79, 0, 0, 0⟩⟩
def ex (n : Nat) (f : Nat → Trm) (k : Nat) : Trm := if k < n then f k else mkT
theorem ex_lt {n k : Nat} (f : Nat → Trm) (h : k < n) : ex n f k = f k := if_pos h
theorem ex_ge {n k : Nat} (f : Nat → Trm) (h : n ≤ k) : ex n f k = mkT := if_neg (by omega)
theorem tvs_ex (n : Nat) (f : Nat → Trm) : tvs n f ++ [.int .i64 77, .int .i64 78, .int .u64 79, .int .u64 0, .int .u64 0, .int .u64 0, .int .i64 77, .int .i64 78, .int .u64 79, .int .u64 0, .int .u64 0, .int .u64 0] = tvs (n + 2) (ex n f) := by
 rw [tvs_succ, tvs_succ, ex_ge f (Nat.le_refl n), ex_ge f (Nat.le_succ n), tvs_congr (f := ex n f) (g := f) (fun k hk => ex_lt f hk), List.append_assoc]
 rfl
theorem m12 : ∀ u ∈ ([.int .i64 77, .int .i64 78, .int .u64 79, .int .u64 0, .int .u64 0, .int .u64 0, .int .i64 77, .int .i64 78, .int .u64 79, .int .u64 0, .int .u64 0, .int .u64 0] : List Value), u.oneCell' = true := by simp [Value.oneCell']
structure Mk (w : World) : Prop where
 m0 : w.cell? ⟨0, 0, none⟩ = some (.int .i64 77)
 m1 : w.cell? ⟨0, 1, none⟩ = some (.int .i64 78)
 m2 : w.cell? ⟨0, 2, none⟩ = some (.int .u64 79)
 m3 : w.cell? ⟨0, 3, none⟩ = some (.int .u64 0)
 m4 : w.cell? ⟨0, 4, none⟩ = some (.int .u64 0)
 m5 : w.cell? ⟨0, 5, none⟩ = some (.int .u64 0)
theorem Mk.keep {w w' : World} (h : Mk w) (hb : Below w.heap.size w w') : Mk w' := ⟨cell_keep h.m0 hb, cell_keep h.m1 hb, cell_keep h.m2 hb, cell_keep h.m3 hb, cell_keep h.m4 hb, cell_keep h.m5 hb⟩
theorem stays_any (g cc ca n : Nat) (P : Option Addr) (f : Nat → Trm) (w : World) (hn : n ≤ 2932031007400) (hc : n + 2 ≤ cc) (hM : Mk w) (hA : Rt w g 0 (n + 2) (ex n f)) (hB : Lt w P n f) :
  Calls Tryz.prog 42 #[.slice (some ⟨g, 0, none⟩) n cc, .slice P n ca] w fun e w' => e = .returned (.bool true) ∧ Below w.heap.size w w' := by
 have HA := Hn hA
 have HB := Hn hB
 have HM := Hn hM
 have HS := Hn hn
 have R0 := Hn (Below.refl w.heap.size w)
 have c0 : (0 : Int) ≤ (n : Int) + 2 := by omega
 have c1 : (n : Int) + 2 ≤ (cc : Int) := by omega
 have c2 : ((n : Int) + 2).toNat = n + 2 := by omega
 have c3 : IntKind.i64.wrap ((n : Int) + 2) = (n : Int) + 2 := IntWalk.i64_in _ (by omega)
 have c4 : ((n + 2 : Nat) : Int) = (n : Int) + 2 := by omega
 clear hA hB hn hM hc
 go_enter Tryz.func42, Tryz.ntmps42
 go_upto_region 3 with fail
 go_loopw [6] (fun iv w' => ∃ i : Nat, i ≤ n ∧ iv = .int .i64 (i : Int) ∧ Hid (Below w.heap.size w w')) (fun i _ => n - (intOf i).toNat)
 case atStart => exact ⟨0, by omega, rfl, R0⟩
 case round =>
  clear R0
  obtain ⟨i, hi, rfl, hR⟩ := hrel
  by_cases hin : i < n
  ·have i1 : (i : Int) < (n : Int) := by omega
   have i0 : (0 : Int) ≤ (i : Int) := by omega
   have i2 : (i : Int) < ((n + 2 : Nat) : Int) := by omega
   have w9 : IntKind.i64.wrap ((i : Int) + 1) = (i : Int) + 1 := IntWalk.i64_in _ (by have := HS.out; omega)
   have fx := ex_lt f hin
   have rt := HA.out
   have a0 := cell_keep (rt.c0 i (by omega)) hR.out
   have a1 := cell_keep (rt.c1 i (by omega)) hR.out
   have a2 := cell_keep (rt.c2 i (by omega)) hR.out
   have a3 := cell_keep (rt.c3 i (by omega)) hR.out
   have a4 := cell_keep (rt.c4 i (by omega)) hR.out
   have a5 := cell_keep (rt.c5 i (by omega)) hR.out
   rw [fx] at a0 a1 a2 a3 a4 a5
   obtain ⟨sb, ob, hPs, hRt⟩ := HB.out
   obtain rfl := hPs (by omega)
   have rt2 := (hRt (by omega))
   have b0 := cell_keep (rt2.c0 i hin) hR.out
   have b1 := cell_keep (rt2.c1 i hin) hR.out
   have b2 := cell_keep (rt2.c2 i hin) hR.out
   have b3 := cell_keep (rt2.c3 i hin) hR.out
   have b4 := cell_keep (rt2.c4 i hin) hR.out
   have b5 := cell_keep (rt2.c5 i hin) hR.out
   clear rt rt2 hRt hPs fx
   generalize (f i).q.1 = qk at *
   generalize (f i).q.2 = qi at *
   generalize (f i).a = p at *
   have NQ := Hn (fun y => self9 p y)
   go_upto_region 5 with fail
   refine sy5 _ g 0 (n + 2) cc sb ob ca n i qk qi p _ _ _ _ _ _ _ _ _ _ _ _ _ _ _ _ _ _ _ _ _ _ _ _ _ _ _ _ _ _ _ _ _ _ _ _ _ _ _ _ _ wr i0 i1 i2 a0 a1 a2 a3 a4 a5 b0 b1 b2 b3 b4 b5 NQ (Hn ?_)
   intro w2 hb2
   have PN := Hn (bl_trans hR.out hb2)
   clear hb2 hR NQ a0 a1 a2 a3 a4 a5 b0 b1 b2 b3 b4 b5
   go_wp2_with fail
   go_roundw
   case rel => exact ⟨i + 1, by omega, by go_num, PN⟩
   case measure => simp [intOf]; omega
  ·obtain rfl : i = n := by omega
   have lq : ¬ (i : Int) < (i : Int) := by omega
   have i2 : (i : Int) < ((i + 2 : Nat) : Int) := by omega
   have n0 : (0 : Int) ≤ (i : Int) := by omega
   have n1 : IntKind.i64.wrap ((i : Int) + 1) = ((i + 1 : Nat) : Int) := by rw [IntWalk.i64_in _ (by have := HS.out; omega)]; omega
   have i3 : (i : Int) + 1 < ((i + 2 : Nat) : Int) := by omega
   have n2 : (0 : Int) ≤ (i : Int) + 1 := by omega
   have rt := HA.out
   have fx := ex_ge f (Nat.le_refl i)
   have fy := ex_ge f (Nat.le_succ i)
   have a0 := cell_keep (rt.c0 i (by omega)) hR.out
   have a1 := cell_keep (rt.c1 i (by omega)) hR.out
   have a2 := cell_keep (rt.c2 i (by omega)) hR.out
   have a3 := cell_keep (rt.c3 i (by omega)) hR.out
   have a4 := cell_keep (rt.c4 i (by omega)) hR.out
   have a5 := cell_keep (rt.c5 i (by omega)) hR.out
   have b0 := cell_keep (rt.c0 (i + 1) (by omega)) hR.out
   have b1 := cell_keep (rt.c1 (i + 1) (by omega)) hR.out
   have b2 := cell_keep (rt.c2 (i + 1) (by omega)) hR.out
   have b3 := cell_keep (rt.c3 (i + 1) (by omega)) hR.out
   have b4 := cell_keep (rt.c4 (i + 1) (by omega)) hR.out
   have b5 := cell_keep (rt.c5 (i + 1) (by omega)) hR.out
   rw [fx] at a0 a1 a2 a3 a4 a5
   rw [fy] at b0 b1 b2 b3 b4 b5
   simp only [mkT] at a0 a1 a2 a3 a4 a5 b0 b1 b2 b3 b4 b5
   have mm := HM.out.keep hR.out
   clear rt fx fy
   go_upto_region 7 with fail
   refine sy7 _ g 0 (i + 2) cc i ca P _ _ _ _ _ _ _ _ _ _ _ _ _ _ _ _ _ _ _ _ _ _ _ _ _ _ _ _ _ _ _ _ _ _ _ _ _ _ _ _ _ _ wr i2 n0 n1 i3 n2 a0 a1 a2 a3 a4 a5 b0 b1 b2 b3 b4 b5 mm.m0 mm.m1 mm.m2 mm.m3 mm.m4 mm.m5 (Hn ?_)
   intro w2 hb2
   have PN := Hn (bl_trans hR.out hb2)
   clear hb2 hR mm a0 a1 a2 a3 a4 a5 b0 b1 b2 b3 b4 b5
   go_wp2_with fail
   exact bodyPost_ret (v := .bool true) (by simp [results, Tryz.results42, go_sem]) rfl ⟨rfl, PN.out⟩
theorem cellG {w w' : World} {a : Addr} {v : Value} (h : w.cell? a = some v) (hb : Below w.heap.size w w') : w'.cell? a = some v := by
 rw [hb.cell (p := a) (World.block_lt_of_cell? w a h)]; exact h
theorem gbN {w w' : World} (h : w.grownBy w' none) : Below w.heap.size w w' := ⟨h.os, h.tape, h.output, h.size, fun k hk => h.block k hk (by simp)⟩
theorem appN {P : Program} {w : World} {base : Nat} {o : Oper} {a : Act} {K : Act → World → Prop} {Q : Exit → Act → World → Prop} {s x : Operand} (t : TypeId) {e : TypeId} {i : TypeInfo} {z : Value} (ht : P.underlying t = some (.slice e)) (hi : P.info? e = some i) (hz : i.zero = some z) (hsize : i.size = 6) (hby : i.bytes = 48) (hzs : z.cells.size = 6) (n : Nat) (f : Nat → Trm) (ho : o.op = .call { callee := .builtin .append, args := #[s, x], argTypes := #[t, t] })
  (hs : a.eval s = .slice none 0 0) (ad : Addr) (c : Nat) (hx : a.eval x = .slice (some ad) n c) (hnews : ∀ j u, (tvs n f)[j]? = some u → w.cell? (ad.add j) = some u) (h63 : 0 + n ≤ maxLen) (hbytes : (0 + n) * 48 ≤ 140737488355328) (hbase : base ≤ w.heap.size)
  (h : ∀ v' w', w'.ownsRow base e 6 v' n (tvs n f) → Below w.heap.size w w' → K (a.put o.dst v') w') : o.wp P a w K Q :=
 wp_append_own _ _ _ t ho base e _ _ 6 48 ht hi hz hsize hby hzs (by decide) _ 0 [] hs (World.ownsRow_nil _ _ _ _) ad n c (tvs n f) hx (tvs_len n f) hnews (tvs_one n f) h63 hbytes hbase (fun v' w' h1 h2 _ => h v' w' (by rw [Nat.zero_add, List.nil_append] at h1; exact h1) (gbN h2))
theorem appNil {P : Program} {w : World} {o : Oper} {a : Act} {K : Act → World → Prop} {Q : Exit → Act → World → Prop} {s x : Operand} (t e : TypeId) {i : TypeInfo} (ht : P.underlying t = some (.slice e)) (hi : P.info? e = some i) (ho : o.op = .call { callee := .builtin .append, args := #[s, x], argTypes := #[t, t] }) (hs : a.eval s = .slice none 0 0) (hx : a.eval x = .slice none 0 0) (h : ∀ w', w' = w → K (a.put o.dst (.slice none 0 0)) w') : o.wp P a w K Q := by
 have hr := run_append_owned_none (P := P) (w := w) 0 t o.type e i 6 ht hi (.slice none 0 0) 0 [] (World.ownsRow_nil _ _ _ _)
 unfold Oper.wp execOp
 simp only [ho, resolve, invoke, builtin, Sem.run_bind, Sem.run_pure, Result.andThen_ok, List.map_toArray, List.map_cons, List.map_nil, hs, hx, hr]
 exact h _ rfl
theorem build2M (w : World) : (Instr.buildSlice 38 2 #[(0, .agg #[.int .i64 77, .int .i64 78, .int .u64 79, .int .u64 0, .int .u64 0, .int .u64 0]), (1, .agg #[.int .i64 77, .int .i64 78, .int .u64 79, .int .u64 0, .int .u64 0, .int .u64 0])]).run Tryz.prog w = .ok (.slice (some ⟨w.heap.size, 0, none⟩) 2 2) (w.alloc (.cells #[.int .i64 77, .int .i64 78, .int .u64 79, .int .u64 0, .int .u64 0, .int .u64 0, .int .i64 77, .int .i64 78, .int .u64 79, .int .u64 0, .int .u64 0, .int .u64 0] 123)) := by kernel_rfl
theorem wp_build2M {w : World} {o : Oper} {a : Act} {K : Act → World → Prop} {Q : Exit → Act → World → Prop} (x0 x1 : Operand) (ho : o.op = .buildSlice 38 2 #[(0, x0), (1, x1)]) (h0 : a.eval x0 = .agg #[.int .i64 77, .int .i64 78, .int .u64 79, .int .u64 0, .int .u64 0, .int .u64 0]) (h1 : a.eval x1 = .agg #[.int .i64 77, .int .i64 78, .int .u64 79, .int .u64 0, .int .u64 0, .int .u64 0]) (h : ∀ (tb : Nat) (wq : World), tb = w.heap.size → wq = w.alloc (.cells #[.int .i64 77, .int .i64 78, .int .u64 79, .int .u64 0, .int .u64 0, .int .u64 0, .int .i64 77, .int .i64 78, .int .u64 79, .int .u64 0, .int .u64 0, .int .u64 0] 123) → K (a.put o.dst (.slice (some ⟨tb, 0, none⟩) 2 2)) wq) : o.wp Tryz.prog a w K Q := by
 have hr := build2M w
 unfold Oper.wp execOp
 simp only [ho, Sem.run_bind, Sem.run_pure, Result.andThen_ok, List.map_toArray, List.map_cons, List.map_nil, h0, h1, hr]
 exact h _ _ rfl rfl
def pCsk0 : String := "law.go:62"
def rm1ao_0 : Oper := oO 4 (Op.move (Operand.tmp 0)) 38 pCsk0 #[]
def rm1ao_1 : Oper := oO 5 (Op.call { callee := Callee.builtin Builtin.append, args := #[Operand.const (Value.slice none 0 0), Operand.tmp 4], argTypes := #[38, 38] }) 38 pCsk0 #[DD 0]
def rm1ao_2 : Oper := oO 6 (Op.load 123 (Operand.global 0)) 123 pCsk0 #[]
def rm1ao_3 : Oper := oO 7 (Op.load 123 (Operand.global 0)) 123 pCsk0 #[]
def rm1ao_4 : Oper := oO 8 (Op.buildSlice 38 2 #[(0, Operand.tmp 6), (1, Operand.tmp 7)]) 38 pCsk0 #[DD 2, DD 3]
def rm1ao_5 : Oper := oO 9 (Op.call { callee := Callee.builtin Builtin.append, args := #[Operand.tmp 5, Operand.tmp 8], argTypes := #[38, 38] }) 38 pCsk0 #[DD 1, DD 4, CH 1]
def rm1ao_6 : Oper := oO 3 (Op.assign (Operand.tmp 9)) 38 pCsk0 #[DD 5, CH 5, PH 0, PH 1, PH 2, PH 3, PH 4, PH 5]
def rm1ao : Array Oper := #[rm1ao_0, rm1ao_1, rm1ao_2, rm1ao_3, rm1ao_4, rm1ao_5, rm1ao_6]
theorem rm1a (Q : Exit → Act → World → Prop) (ad : Addr) (n c : Nat) (f : Nat → Trm) (u1 u2 u3 u4 u5 u6 u7 u8 u9 u10 u11 u12 u13 : Value) (W : World)
  (m0 : W.cell? ⟨0, 0, none⟩ = some (.int .i64 77)) (m1 : W.cell? ⟨0, 1, none⟩ = some (.int .i64 78)) (m2 : W.cell? ⟨0, 2, none⟩ = some (.int .u64 79)) (m3 : W.cell? ⟨0, 3, none⟩ = some (.int .u64 0)) (m4 : W.cell? ⟨0, 4, none⟩ = some (.int .u64 0)) (m5 : W.cell? ⟨0, 5, none⟩ = some (.int .u64 0))
  (NW : Hid (∀ j u, (tvs n f)[j]? = some u → W.cell? (ad.add j) = some u)) (MX : Hid (0 + n ≤ maxLen)) (BY : Hid ((0 + n) * 48 ≤ 140737488355328)) (MX2 : Hid (n + 2 ≤ maxLen)) (BY2 : Hid ((n + 2) * 48 ≤ 140737488355328))
  (HQ : Hid (∀ (wz : World) (tb : Nat) (v5 v9 : Value), Below W.heap.size W wz → wz.ownsRow W.heap.size 123 6 v9 (n + 2) (tvs (n + 2) (ex n f)) → Q .normal ⟨#[.slice (some ad) n c, u1, u2, v9, .slice (some ad) n c, v5, .agg #[.int .i64 77, .int .i64 78, .int .u64 79, .int .u64 0, .int .u64 0, .int .u64 0], .agg #[.int .i64 77, .int .i64 78, .int .u64 79, .int .u64 0, .int .u64 0, .int .u64 0], .slice (some ⟨tb, 0, none⟩) 2 2, v9, u10, u11, u12, u13], []⟩ wz)) : (Code.region 1 rm1ao true).wp Tryz.prog Q ⟨#[.slice (some ad) n c, u1, u2, u3, u4, u5, u6, u7, u8, u9, u10, u11, u12, u13], []⟩ W := by
 have HI : Hid ((Tryz.prog.info? 123) = some (Tryz.prog.info? 123).get!) := Hn (by kernel_rfl)
 have HZ0 : Hid ((Tryz.prog.info? 123).get!.zero = some (.agg #[.int .i64 0, .int .i64 0, .int .u64 0, .int .u64 0, .int .u64 0, .int .u64 0])) := Hn (by kernel_rfl)
 have HZ1 : Hid ((Tryz.prog.info? 123).get!.size = 6) := Hn (by kernel_rfl)
 have HZ2 : Hid ((Tryz.prog.info? 123).get!.bytes = 48) := Hn (by kernel_rfl)
 have T1 : Hid (Tryz.prog.underlying 38 = some (.slice 123)) := Hn (by kernel_rfl)
 unfold rm1ao
 refine wp_region_noPanic ?_
 refine wp_region_held_drew (S := fun x => Below W.heap.size W x) (by kernel_rfl) (bl_drew W) (fun hH0 => ?_)
 refine tj 0 rm1ao_0 (.slice (some ad) n c) hH0 (fun w0 hSw => ?_) ?_
 ·(unfold rm1ao_0 oO; clear hSw; go_simp)
 simp only [rm1ao_0, oO, Act.put, sA, sB, sC]
 refine tj 2 rm1ao_2 (.agg #[.int .i64 77, .int .i64 78, .int .u64 79, .int .u64 0, .int .u64 0, .int .u64 0]) hH0 (fun w0 hSw => ?_) ?_
 ·(unfold rm1ao_2 oO; have hS : Below W.heap.size W w0 := hSw; have a0 := cell_keep m0 hS; have a1 := cell_keep m1 hS; have a2 := cell_keep m2 hS; have a3 := cell_keep m3 hS; have a4 := cell_keep m4 hS; have a5 := cell_keep m5 hS; clear hS hSw; go_simp)
 simp only [rm1ao_2, oO, Act.put, sA, sB, sC]
 refine tj 3 rm1ao_3 (.agg #[.int .i64 77, .int .i64 78, .int .u64 79, .int .u64 0, .int .u64 0, .int .u64 0]) hH0 (fun w0 hSw => ?_) ?_
 ·(unfold rm1ao_3 oO; have hS : Below W.heap.size W w0 := hSw; have a0 := cell_keep m0 hS; have a1 := cell_keep m1 hS; have a2 := cell_keep m2 hS; have a3 := cell_keep m3 hS; have a4 := cell_keep m4 hS; have a5 := cell_keep m5 hS; clear hS hSw; go_simp)
 simp only [rm1ao_3, oO, Act.put, sA, sB, sC]
 refine ar [1, 4] ?_
 refine ac rm1ao_1 (fun K hK => ?_) (ac rm1ao_4 (fun K hK => ?_) AllReadyH.nil)
 ·unfold rm1ao_1 oO
  have HH := Hn hH0
  clear hH0
  refine appN 38 T1.out HI.out HZ0.out HZ1.out HZ2.out rfl n f rfl rfl ad c rfl (fun j u h => cellG (NW.out j u h) HH.out) MX.out BY.out HH.out.size (fun v5 wn1 ho hb => ?_)
  have SN := Hn (bl_trans HH.out hb)
  have OW := Hn (ho)
  clear HH ho hb
  simp only [Act.put, sA, sB, sC]
  refine hK.out _ _ SN.out (fun hH1 => ?_)
  clear hK K SN
  refine ar [4] ?_
  refine ac rm1ao_4 (fun K hK => ?_) AllReadyH.nil
  unfold rm1ao_4 oO
  have HH := Hn hH1
  clear hH1
  refine wp_build2M _ _ rfl rfl rfl (fun tb wn2 htb hwq => ?_)
  have SN := Hn (by rw [hwq]; exact bl_trans HH.out (bl_alloc _ _) : Below W.heap.size W wn2)
  have CN := Hn (by rw [htb, hwq]; exact cells_newT _ [.int .i64 77, .int .i64 78, .int .u64 79, .int .u64 0, .int .u64 0, .int .u64 0, .int .i64 77, .int .i64 78, .int .u64 79, .int .u64 0, .int .u64 0, .int .u64 0] _ : ∀ j u, ([.int .i64 77, .int .i64 78, .int .u64 79, .int .u64 0, .int .u64 0, .int .u64 0, .int .i64 77, .int .i64 78, .int .u64 79, .int .u64 0, .int .u64 0, .int .u64 0] : List Value)[j]? = some u → wn2.cell? ((⟨tb, 0, none⟩ : Addr).add j) = some u)
  replace OW := Hn (by rw [hwq]; exact own_keepT OW.out (bl_alloc _ _) : wn2.ownsRow W.heap.size 123 6 v5 n (tvs n f))
  clear HH htb hwq
  simp only [Act.put, sA, sB, sC]
  refine hK.out _ _ SN.out (fun hH2 => ?_)
  clear hK K SN
  refine ar [5] ?_
  refine ac rm1ao_5 (fun K hK => ?_) AllReadyH.nil
  unfold rm1ao_5 oO
  have HH := Hn hH2
  clear hH2
  refine wp_append_own _ _ _ 38 rfl W.heap.size 123 _ _ 6 48 T1.out HI.out HZ0.out HZ1.out HZ2.out rfl (by decide) _ n (tvs n f) rfl OW.out ⟨tb, 0, none⟩ 2 2 [.int .i64 77, .int .i64 78, .int .u64 79, .int .u64 0, .int .u64 0, .int .u64 0, .int .i64 77, .int .i64 78, .int .u64 79, .int .u64 0, .int .u64 0, .int .u64 0] rfl rfl CN.out m12 MX2.out BY2.out HH.out.size (fun v9 wn3 ho hg _ => ?_)
  have SN := Hn (told_bel HH.out (Below.refl _ _) OW.out hg)
  have FE := Hn (tvs_ex n f ▸ ho)
  clear HH ho hg
  simp only [Act.put, sA, sB, sC]
  refine hK.out _ _ SN.out (fun hH3 => ?_)
  clear hK K SN
  refine tj 6 rm1ao_6 (v9) hH3 (fun w0 hSw => ?_) ?_
  ·(unfold rm1ao_6 oO; clear hSw; go_simp)
  simp only [rm1ao_6, oO, Act.put, sA, sB, sC]
  have HH := Hn hH3
  have FQ := Hn (HQ.out _ tb v5 v9 HH.out FE.out)
  refine wpAnyH_done (by kernel_rfl) ?_ _
  refine NoPanic.normal ?_
  exact FQ.out
 ·unfold rm1ao_4 oO
  have HH := Hn hH0
  clear hH0
  refine wp_build2M _ _ rfl rfl rfl (fun tb wn1 htb hwq => ?_)
  have SN := Hn (by rw [hwq]; exact bl_trans HH.out (bl_alloc _ _) : Below W.heap.size W wn1)
  have CN := Hn (by rw [htb, hwq]; exact cells_newT _ [.int .i64 77, .int .i64 78, .int .u64 79, .int .u64 0, .int .u64 0, .int .u64 0, .int .i64 77, .int .i64 78, .int .u64 79, .int .u64 0, .int .u64 0, .int .u64 0] _ : ∀ j u, ([.int .i64 77, .int .i64 78, .int .u64 79, .int .u64 0, .int .u64 0, .int .u64 0, .int .i64 77, .int .i64 78, .int .u64 79, .int .u64 0, .int .u64 0, .int .u64 0] : List Value)[j]? = some u → wn1.cell? ((⟨tb, 0, none⟩ : Addr).add j) = some u)
  clear HH htb hwq
  simp only [Act.put, sA, sB, sC]
  refine hK.out _ _ SN.out (fun hH1 => ?_)
  clear hK K SN
  refine ar [1] ?_
  refine ac rm1ao_1 (fun K hK => ?_) AllReadyH.nil
  unfold rm1ao_1 oO
  have HH := Hn hH1
  clear hH1
  refine appN 38 T1.out HI.out HZ0.out HZ1.out HZ2.out rfl n f rfl rfl ad c rfl (fun j u h => cellG (NW.out j u h) HH.out) MX.out BY.out HH.out.size (fun v5 wn2 ho hb => ?_)
  have SN := Hn (bl_trans HH.out hb)
  have OW := Hn (ho)
  replace CN := Hn (fun j u h => cellG (CN.out j u h) hb)
  clear HH ho hb
  simp only [Act.put, sA, sB, sC]
  refine hK.out _ _ SN.out (fun hH2 => ?_)
  clear hK K SN
  refine ar [5] ?_
  refine ac rm1ao_5 (fun K hK => ?_) AllReadyH.nil
  unfold rm1ao_5 oO
  have HH := Hn hH2
  clear hH2
  refine wp_append_own _ _ _ 38 rfl W.heap.size 123 _ _ 6 48 T1.out HI.out HZ0.out HZ1.out HZ2.out rfl (by decide) _ n (tvs n f) rfl OW.out ⟨tb, 0, none⟩ 2 2 [.int .i64 77, .int .i64 78, .int .u64 79, .int .u64 0, .int .u64 0, .int .u64 0, .int .i64 77, .int .i64 78, .int .u64 79, .int .u64 0, .int .u64 0, .int .u64 0] rfl rfl CN.out m12 MX2.out BY2.out HH.out.size (fun v9 wn3 ho hg _ => ?_)
  have SN := Hn (told_bel HH.out (Below.refl _ _) OW.out hg)
  have FE := Hn (tvs_ex n f ▸ ho)
  clear HH ho hg
  simp only [Act.put, sA, sB, sC]
  refine hK.out _ _ SN.out (fun hH3 => ?_)
  clear hK K SN
  refine tj 6 rm1ao_6 (v9) hH3 (fun w0 hSw => ?_) ?_
  ·(unfold rm1ao_6 oO; clear hSw; go_simp)
  simp only [rm1ao_6, oO, Act.put, sA, sB, sC]
  have HH := Hn hH3
  have FQ := Hn (HQ.out _ tb v5 v9 HH.out FE.out)
  refine wpAnyH_done (by kernel_rfl) ?_ _
  refine NoPanic.normal ?_
  exact FQ.out
def rm1bo : Array Oper := #[rm1ao_0,
 rm1ao_1,
 rm1ao_2,
 rm1ao_3,
 rm1ao_4,
 rm1ao_5,
 rm1ao_6]
theorem rm1b (Q : Exit → Act → World → Prop) (f : Nat → Trm) (u1 u2 u3 u4 u5 u6 u7 u8 u9 u10 u11 u12 u13 : Value) (W : World)
  (m0 : W.cell? ⟨0, 0, none⟩ = some (.int .i64 77)) (m1 : W.cell? ⟨0, 1, none⟩ = some (.int .i64 78)) (m2 : W.cell? ⟨0, 2, none⟩ = some (.int .u64 79)) (m3 : W.cell? ⟨0, 3, none⟩ = some (.int .u64 0)) (m4 : W.cell? ⟨0, 4, none⟩ = some (.int .u64 0)) (m5 : W.cell? ⟨0, 5, none⟩ = some (.int .u64 0))
  (MX2 : Hid (0 + 2 ≤ maxLen)) (BY2 : Hid ((0 + 2) * 48 ≤ 140737488355328))
  (HQ : Hid (∀ (wz : World) (tb : Nat) (v9 : Value), Below W.heap.size W wz → wz.ownsRow W.heap.size 123 6 v9 (0 + 2) (tvs (0 + 2) (ex 0 f)) → Q .normal ⟨#[.slice none 0 0, u1, u2, v9, .slice none 0 0, .slice none 0 0, .agg #[.int .i64 77, .int .i64 78, .int .u64 79, .int .u64 0, .int .u64 0, .int .u64 0], .agg #[.int .i64 77, .int .i64 78, .int .u64 79, .int .u64 0, .int .u64 0, .int .u64 0], .slice (some ⟨tb, 0, none⟩) 2 2, v9, u10, u11, u12, u13], []⟩ wz)) : (Code.region 1 rm1bo true).wp Tryz.prog Q ⟨#[.slice none 0 0, u1, u2, u3, u4, u5, u6, u7, u8, u9, u10, u11, u12, u13], []⟩ W := by
 have HI : Hid ((Tryz.prog.info? 123) = some (Tryz.prog.info? 123).get!) := Hn (by kernel_rfl)
 have HZ0 : Hid ((Tryz.prog.info? 123).get!.zero = some (.agg #[.int .i64 0, .int .i64 0, .int .u64 0, .int .u64 0, .int .u64 0, .int .u64 0])) := Hn (by kernel_rfl)
 have HZ1 : Hid ((Tryz.prog.info? 123).get!.size = 6) := Hn (by kernel_rfl)
 have HZ2 : Hid ((Tryz.prog.info? 123).get!.bytes = 48) := Hn (by kernel_rfl)
 have T1 : Hid (Tryz.prog.underlying 38 = some (.slice 123)) := Hn (by kernel_rfl)
 unfold rm1bo
 refine wp_region_noPanic ?_
 refine wp_region_held_drew (S := fun x => Below W.heap.size W x) (by kernel_rfl) (bl_drew W) (fun hH0 => ?_)
 refine tj 0 rm1ao_0 (.slice none 0 0) hH0 (fun w0 hSw => ?_) ?_
 ·(unfold rm1ao_0 oO; clear hSw; go_simp)
 simp only [rm1ao_0, oO, Act.put, sA, sB, sC]
 refine tj 2 rm1ao_2 (.agg #[.int .i64 77, .int .i64 78, .int .u64 79, .int .u64 0, .int .u64 0, .int .u64 0]) hH0 (fun w0 hSw => ?_) ?_
 ·(unfold rm1ao_2 oO; have hS : Below W.heap.size W w0 := hSw; have a0 := cell_keep m0 hS; have a1 := cell_keep m1 hS; have a2 := cell_keep m2 hS; have a3 := cell_keep m3 hS; have a4 := cell_keep m4 hS; have a5 := cell_keep m5 hS; clear hS hSw; go_simp)
 simp only [rm1ao_2, oO, Act.put, sA, sB, sC]
 refine tj 3 rm1ao_3 (.agg #[.int .i64 77, .int .i64 78, .int .u64 79, .int .u64 0, .int .u64 0, .int .u64 0]) hH0 (fun w0 hSw => ?_) ?_
 ·(unfold rm1ao_3 oO; have hS : Below W.heap.size W w0 := hSw; have a0 := cell_keep m0 hS; have a1 := cell_keep m1 hS; have a2 := cell_keep m2 hS; have a3 := cell_keep m3 hS; have a4 := cell_keep m4 hS; have a5 := cell_keep m5 hS; clear hS hSw; go_simp)
 simp only [rm1ao_3, oO, Act.put, sA, sB, sC]
 refine ar [1, 4] ?_
 refine ac rm1ao_1 (fun K hK => ?_) (ac rm1ao_4 (fun K hK => ?_) AllReadyH.nil)
 ·unfold rm1ao_1 oO
  have HH := Hn hH0
  clear hH0
  refine appNil 38 123 T1.out HI.out rfl rfl rfl (fun wn1 hwq => ?_)
  have SN := Hn (by rw [hwq]; exact HH.out : Below W.heap.size W wn1)
  have OW := Hn (by rw [hwq]; exact World.ownsRow_nil _ _ _ _ : wn1.ownsRow W.heap.size 123 6 (.slice none 0 0) 0 (tvs 0 f))
  clear HH hwq
  simp only [Act.put, sA, sB, sC]
  refine hK.out _ _ SN.out (fun hH1 => ?_)
  clear hK K SN
  refine ar [4] ?_
  refine ac rm1ao_4 (fun K hK => ?_) AllReadyH.nil
  unfold rm1ao_4 oO
  have HH := Hn hH1
  clear hH1
  refine wp_build2M _ _ rfl rfl rfl (fun tb wn2 htb hwq => ?_)
  have SN := Hn (by rw [hwq]; exact bl_trans HH.out (bl_alloc _ _) : Below W.heap.size W wn2)
  have CN := Hn (by rw [htb, hwq]; exact cells_newT _ [.int .i64 77, .int .i64 78, .int .u64 79, .int .u64 0, .int .u64 0, .int .u64 0, .int .i64 77, .int .i64 78, .int .u64 79, .int .u64 0, .int .u64 0, .int .u64 0] _ : ∀ j u, ([.int .i64 77, .int .i64 78, .int .u64 79, .int .u64 0, .int .u64 0, .int .u64 0, .int .i64 77, .int .i64 78, .int .u64 79, .int .u64 0, .int .u64 0, .int .u64 0] : List Value)[j]? = some u → wn2.cell? ((⟨tb, 0, none⟩ : Addr).add j) = some u)
  replace OW := Hn (by rw [hwq]; exact own_keepT OW.out (bl_alloc _ _) : wn2.ownsRow W.heap.size 123 6 (.slice none 0 0) 0 (tvs 0 f))
  clear HH htb hwq
  simp only [Act.put, sA, sB, sC]
  refine hK.out _ _ SN.out (fun hH2 => ?_)
  clear hK K SN
  refine ar [5] ?_
  refine ac rm1ao_5 (fun K hK => ?_) AllReadyH.nil
  unfold rm1ao_5 oO
  have HH := Hn hH2
  clear hH2
  refine wp_append_own _ _ _ 38 rfl W.heap.size 123 _ _ 6 48 T1.out HI.out HZ0.out HZ1.out HZ2.out rfl (by decide) _ 0 (tvs 0 f) rfl OW.out ⟨tb, 0, none⟩ 2 2 [.int .i64 77, .int .i64 78, .int .u64 79, .int .u64 0, .int .u64 0, .int .u64 0, .int .i64 77, .int .i64 78, .int .u64 79, .int .u64 0, .int .u64 0, .int .u64 0] rfl rfl CN.out m12 MX2.out BY2.out HH.out.size (fun v9 wn3 ho hg _ => ?_)
  have SN := Hn (told_bel HH.out (Below.refl _ _) OW.out hg)
  have FE := Hn (tvs_ex 0 f ▸ ho)
  clear HH ho hg
  simp only [Act.put, sA, sB, sC]
  refine hK.out _ _ SN.out (fun hH3 => ?_)
  clear hK K SN
  refine tj 6 rm1ao_6 (v9) hH3 (fun w0 hSw => ?_) ?_
  ·(unfold rm1ao_6 oO; clear hSw; go_simp)
  simp only [rm1ao_6, oO, Act.put, sA, sB, sC]
  have HH := Hn hH3
  have FQ := Hn (HQ.out _ tb v9 HH.out FE.out)
  refine wpAnyH_done (by kernel_rfl) ?_ _
  refine NoPanic.normal ?_
  exact FQ.out
 ·unfold rm1ao_4 oO
  have HH := Hn hH0
  clear hH0
  refine wp_build2M _ _ rfl rfl rfl (fun tb wn1 htb hwq => ?_)
  have SN := Hn (by rw [hwq]; exact bl_trans HH.out (bl_alloc _ _) : Below W.heap.size W wn1)
  have CN := Hn (by rw [htb, hwq]; exact cells_newT _ [.int .i64 77, .int .i64 78, .int .u64 79, .int .u64 0, .int .u64 0, .int .u64 0, .int .i64 77, .int .i64 78, .int .u64 79, .int .u64 0, .int .u64 0, .int .u64 0] _ : ∀ j u, ([.int .i64 77, .int .i64 78, .int .u64 79, .int .u64 0, .int .u64 0, .int .u64 0, .int .i64 77, .int .i64 78, .int .u64 79, .int .u64 0, .int .u64 0, .int .u64 0] : List Value)[j]? = some u → wn1.cell? ((⟨tb, 0, none⟩ : Addr).add j) = some u)
  clear HH htb hwq
  simp only [Act.put, sA, sB, sC]
  refine hK.out _ _ SN.out (fun hH1 => ?_)
  clear hK K SN
  refine ar [1] ?_
  refine ac rm1ao_1 (fun K hK => ?_) AllReadyH.nil
  unfold rm1ao_1 oO
  have HH := Hn hH1
  clear hH1
  refine appNil 38 123 T1.out HI.out rfl rfl rfl (fun wn2 hwq => ?_)
  have SN := Hn (by rw [hwq]; exact HH.out : Below W.heap.size W wn2)
  have OW := Hn (by rw [hwq]; exact World.ownsRow_nil _ _ _ _ : wn2.ownsRow W.heap.size 123 6 (.slice none 0 0) 0 (tvs 0 f))
  replace CN := Hn (by rw [hwq]; exact CN.out : ∀ j u, ([.int .i64 77, .int .i64 78, .int .u64 79, .int .u64 0, .int .u64 0, .int .u64 0, .int .i64 77, .int .i64 78, .int .u64 79, .int .u64 0, .int .u64 0, .int .u64 0] : List Value)[j]? = some u → wn2.cell? ((⟨tb, 0, none⟩ : Addr).add j) = some u)
  clear HH hwq
  simp only [Act.put, sA, sB, sC]
  refine hK.out _ _ SN.out (fun hH2 => ?_)
  clear hK K SN
  refine ar [5] ?_
  refine ac rm1ao_5 (fun K hK => ?_) AllReadyH.nil
  unfold rm1ao_5 oO
  have HH := Hn hH2
  clear hH2
  refine wp_append_own _ _ _ 38 rfl W.heap.size 123 _ _ 6 48 T1.out HI.out HZ0.out HZ1.out HZ2.out rfl (by decide) _ 0 (tvs 0 f) rfl OW.out ⟨tb, 0, none⟩ 2 2 [.int .i64 77, .int .i64 78, .int .u64 79, .int .u64 0, .int .u64 0, .int .u64 0, .int .i64 77, .int .i64 78, .int .u64 79, .int .u64 0, .int .u64 0, .int .u64 0] rfl rfl CN.out m12 MX2.out BY2.out HH.out.size (fun v9 wn3 ho hg _ => ?_)
  have SN := Hn (told_bel HH.out (Below.refl _ _) OW.out hg)
  have FE := Hn (tvs_ex 0 f ▸ ho)
  clear HH ho hg
  simp only [Act.put, sA, sB, sC]
  refine hK.out _ _ SN.out (fun hH3 => ?_)
  clear hK K SN
  refine tj 6 rm1ao_6 (v9) hH3 (fun w0 hSw => ?_) ?_
  ·(unfold rm1ao_6 oO; clear hSw; go_simp)
  simp only [rm1ao_6, oO, Act.put, sA, sB, sC]
  have HH := Hn hH3
  have FQ := Hn (HQ.out _ tb v9 HH.out FE.out)
  refine wpAnyH_done (by kernel_rfl) ?_ _
  refine NoPanic.normal ?_
  exact FQ.out
theorem room_any (P : Option Addr) (n c : Nat) (f : Nat → Trm) (w : World) (hn : n ≤ 2932031007400) (hP : P = none → c = 0) (hM : Mk w) (hB : Lt w P n f) :
  Calls Tryz.prog 39 #[.slice P n c] w fun e w' => ∃ g cc, e = .returned (.slice (some ⟨g, 0, none⟩) n cc) ∧ n + 2 ≤ cc ∧ w'.ownsRow w.heap.size 123 6 (.slice (some ⟨g, 0, none⟩) (n + 2) cc) (n + 2) (tvs (n + 2) (ex n f)) ∧ Below w.heap.size w w' := by
 have HS := Hn hn
 have mm := hM
 obtain ⟨sb, so, h1, h2⟩ := hB
 cases P with
 | none =>
  have n0 : n = 0 := by
   rcases Nat.eq_zero_or_pos n with h | h
   ·exact h
   ·exact absurd (h1 h) (by simp)
  subst n0
  obtain rfl := hP rfl
  clear h1 h2 hP hM
  go_enter Tryz.func39, Tryz.ntmps39
  go_upto_region 1 with fail
  refine rm1b _ f _ _ _ _ _ _ _ _ _ _ _ _ _ w mm.m0 mm.m1 mm.m2 mm.m3 mm.m4 mm.m5 (Hn (by unfold maxLen; omega)) (Hn (by omega)) (Hn ?_)
  intro w2 tb v9 hb2 ho2
  obtain ⟨P9, c9, e9, hc9, hg9⟩ := own_shT ho2
  obtain ⟨g, rfl⟩ := hg9 (by omega)
  subst e9
  have PO := Hn ho2
  have PN := Hn hb2
  have c1 : (0 : Int) ≤ (c9 : Int) := by omega
  clear ho2 hb2 mm hg9
  go_wp2_with fail
  exact bodyPost_ret (v := .slice (some ⟨g, 0, none⟩) 0 c9) (by simp [results, Tryz.results39, go_sem]) rfl ⟨g, c9, rfl, hc9, PO.out, PN.out⟩
 | some ad =>
  have NW : Hid (∀ j u, (tvs n f)[j]? = some u → w.cell? (ad.add j) = some u) := Hn (fun j u hu => by
   have hl : j < n * 6 := by have := (List.getElem?_eq_some_iff.1 hu).1; rwa [tvs_len] at this
   obtain rfl := Option.some.inj (h1 (by omega))
   rw [Addr.add_mid]
   exact rt_cells (h2 (by omega)) n (Nat.le_refl n) j u hu)
  clear h1 h2 hP hM
  go_enter Tryz.func39, Tryz.ntmps39
  go_upto_region 1 with fail
  refine rm1a _ ad n c f _ _ _ _ _ _ _ _ _ _ _ _ _ w mm.m0 mm.m1 mm.m2 mm.m3 mm.m4 mm.m5 NW (Hn (by unfold maxLen; omega)) (Hn (by omega)) (Hn (by unfold maxLen; omega)) (Hn (by omega)) (Hn ?_)
  intro w2 tb v5 v9 hb2 ho2
  obtain ⟨P9, c9, e9, hc9, hg9⟩ := own_shT ho2
  obtain ⟨g, rfl⟩ := hg9 (by omega)
  subst e9
  have PO := Hn ho2
  have PN := Hn hb2
  have c1 : (n : Int) ≤ (c9 : Int) := by omega
  have c0 : (0 : Int) ≤ (n : Int) := by omega
  clear ho2 hb2 mm hg9 NW
  go_wp2_with fail
  exact bodyPost_ret (v := .slice (some ⟨g, 0, none⟩) n c9) (by simp [results, Tryz.results39, go_sem]) rfl ⟨g, c9, rfl, hc9, PO.out, PN.out⟩
end Ci
end Go.Proofs.YtghcfcglakbkeaaGreatDoor
