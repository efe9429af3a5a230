import Derived.Test.YtebmaneogekhjaaGreatDoorTk
import Derived.Test.YtebmaneogekhjaaGreatDoorDjz
import Derived.Test.YtebmaneogekhjaaGreatDoorRx
namespace Go.Proofs.YtebmaneogekhjaaGreatDoor
open Go.RowKit
set_option linter.unusedVariables false
set_option linter.unusedSimpArgs false
open Cm (Wr Tm co bf Ls lf ins Eqm)
namespace Ci
set_option maxRecDepth 100000
set_option maxHeartbeats 16000000
def lsG (g : Nat → E4) : Nat → E4 := fun k => lst (g k).n
structure Va (s : Sl) (x : World) (i : Nat) (a b : Value) (w : World) : Prop where
 bl : Below x.heap.size x w
 ra : w.ownsRow x.heap.size 47 4 a i (s4s i s.g)
 rb : w.ownsRow x.heap.size 107 4 b i (s4s i (lsG s.g))
def VaP (s : Sl) (x : World) (e : Ending) (w' : World) : Prop := ∃ a b, e = .returned (.tuple #[a, b]) ∧ Va s x s.n a b w'
theorem s4s_s (g : Nat → E4) (i : Nat) : s4s i g ++ [.int .u64 (g i).x0, .int .u64 (g i).x1, .int .u64 (g i).x2, .int .u64 (g i).x3] = s4s (i + 1) g := by rw [s4s_succ]
theorem wpL_apA {ops : Array Oper} {rest : List Oper} {o : Oper} {a : Act} {w : World} {Q : Exit → Act → World → Prop} (hgd : o.guard = none) (s x : Operand) (ho : o.op = .call { callee := .builtin .append, args := #[s, x], argTypes := #[57, 57] }) (base i : Nat) (v : Value) (g : Nat → E4) (hs : a.eval s = v) (hw : w.ownsRow base 47 4 v i (s4s i g)) (tb : Nat) (hx : a.eval x = .slice (some ⟨tb, 0, none⟩) 1 1) (hc : w.rangeAt tb 0 [.int .u64 (g i).x0, .int .u64 (g i).x1, .int .u64 (g i).x2, .int .u64 (g i).x3]) (hi : i + 1 ≤ 4398046511104) (hb : base ≤ w.heap.size)
  (h : ∀ v' w', w'.ownsRow base 47 4 v' (i + 1) (s4s (i + 1) g) → w.grownBy w' v.ownBlock → wpList Tryz.prog ops Q rest (a.put o.dst v') w') : wpList Tryz.prog ops Q (o :: rest) a w := by
 have HI : (Tryz.prog.info? 47) = some (Tryz.prog.info? 47).get! := by kernel_rfl
 refine wpList_append_own_at _ hgd s x 57 ho base 47 _ (.agg #[.int .u64 0, .int .u64 0, .int .u64 0, .int .u64 0]) 4 32 (by kernel_rfl) HI (by kernel_rfl) (by kernel_rfl) (by kernel_rfl) rfl (by decide) v i (s4s i g) hs hw ⟨tb, 0, none⟩ 1 1 [.int .u64 (g i).x0, .int .u64 (g i).x1, .int .u64 (g i).x2, .int .u64 (g i).x3] hx rfl (fun d u hu => by rw [Addr.add_mid]; exact hc d u hu) (by simp [Value.oneCell']) (by unfold maxLen; omega) (by omega) hb (fun v' w' k1 k2 _ _ => ?_)
 rw [s4s_s] at k1
 exact h v' w' k1 k2
theorem wpL_apB {ops : Array Oper} {rest : List Oper} {o : Oper} {a : Act} {w : World} {Q : Exit → Act → World → Prop} (hgd : o.guard = none) (s x : Operand) (ho : o.op = .call { callee := .builtin .append, args := #[s, x], argTypes := #[74, 74] }) (base i : Nat) (v : Value) (g : Nat → E4) (hs : a.eval s = v) (hw : w.ownsRow base 107 4 v i (s4s i g)) (tb : Nat) (hx : a.eval x = .slice (some ⟨tb, 0, none⟩) 1 1) (hc : w.rangeAt tb 0 [.int .u64 (g i).x0, .int .u64 (g i).x1, .int .u64 (g i).x2, .int .u64 (g i).x3]) (hi : i + 1 ≤ 4398046511104) (hb : base ≤ w.heap.size)
  (h : ∀ v' w', w'.ownsRow base 107 4 v' (i + 1) (s4s (i + 1) g) → w.grownBy w' v.ownBlock → wpList Tryz.prog ops Q rest (a.put o.dst v') w') : wpList Tryz.prog ops Q (o :: rest) a w := by
 have HI : (Tryz.prog.info? 107) = some (Tryz.prog.info? 107).get! := by kernel_rfl
 refine wpList_append_own_at _ hgd s x 74 ho base 107 _ (.agg #[.int .u64 0, .int .u64 0, .int .u64 0, .int .u64 0]) 4 32 (by kernel_rfl) HI (by kernel_rfl) (by kernel_rfl) (by kernel_rfl) rfl (by decide) v i (s4s i g) hs hw ⟨tb, 0, none⟩ 1 1 [.int .u64 (g i).x0, .int .u64 (g i).x1, .int .u64 (g i).x2, .int .u64 (g i).x3] hx rfl (fun d u hu => by rw [Addr.add_mid]; exact hc d u hu) (by simp [Value.oneCell']) (by unfold maxLen; omega) (by omega) hb (fun v' w' k1 k2 _ _ => ?_)
 rw [s4s_s] at k1
 exact h v' w' k1 k2
section
variable {s : Sl} {x w y : World} {i : Nat} {a b a' b' : Value}
theorem Va.keep (h : Va s x i a b w) (hb : Below w.heap.size w y) : Va s x i a b y := ⟨bl_trans h.bl hb, own_keepT h.ra hb, own_keepT h.rb hb⟩
end
theorem values_any (s : Sl) (x : World) (hs : s.at x) (hn : s.n ≤ 4398046511104) :
  Calls Tryz.prog 30 #[.slice s.p s.n s.c] x fun e w' => VaP s x e w' := by
 obtain ⟨P, n, c, g⟩ := s
 have HS := Hn hs
 have HN := Hn hn
 have V0 : Hid (Va ⟨P, n, c, g⟩ x 0 (.slice none 0 0) (.slice none 0 0) x) := Hn ⟨Below.refl _ _, World.ownsRow_nil _ _ _ _, World.ownsRow_nil _ _ _ _⟩
 clear hs hn
 go_enter Tryz.func30, Tryz.ntmps30
 go_wp2_with fail
 go_loopw [6, 4, 5] (fun iv a b w' => ∃ i : Nat, i ≤ n ∧ iv = .int .i64 (i : Int) ∧ Hid (Va ⟨P, n, c, g⟩ x i a b w')) (fun i _ _ _ => n - (intOf i).toNat)
 case atStart => exact ⟨0, by omega, rfl, V0⟩
 case round =>
  clear V0
  obtain ⟨i, hi, rfl, HV⟩ := hrel
  by_cases hin : i < n
  ·have i1 : (i : Int) < (n : Int) := by omega
   have i0 : (0 : Int) ≤ (i : Int) := by omega
   have w9 : IntKind.i64.wrap ((i : Int) + 1) = (i : Int) + 1 := IntWalk.i64_in _ (by have : n ≤ 4398046511104 := HN.out; omega)
   obtain ⟨sb, so, hPs, hRt⟩ := HS.out.at'
   have rt0 := hRt (show 0 < n by omega)
   have hp0 : P = _ := hPs (show 0 < n by omega)
   subst hp0
   have RT := Hn rt0
   have AK := Hn (HS.out.ok i hin)
   clear rt0 hRt hPs
   have a0 : wr.cell? ⟨sb, so + i * 4, none⟩ = some (.int .u64 (g i).x0) := bl_cellO HV.out.bl (RT.out.c0 i hin)
   have a1 : wr.cell? ⟨sb, so + i * 4 + 1, none⟩ = some (.int .u64 (g i).x1) := bl_cellO HV.out.bl (RT.out.c1 i hin)
   have a2 : wr.cell? ⟨sb, so + i * 4 + 2, none⟩ = some (.int .u64 (g i).x2) := bl_cellO HV.out.bl (RT.out.c2 i hin)
   have a3 : wr.cell? ⟨sb, so + i * 4 + 3, none⟩ = some (.int .u64 (g i).x3) := bl_cellO HV.out.bl (RT.out.c3 i hin)
   have NB : Hid (n ≤ 4398046511104) := Hn HN.out
   go_upto_region 7 with (at_builtin; have h1 := HV.out.keep (bl_alloc wr (.cells #[.int .u64 (g i).x0, .int .u64 (g i).x1, .int .u64 (g i).x2, .int .u64 (g i).x3] 47)); refine wpL_apA rfl _ _ rfl x.heap.size i _ g rfl h1.ra wr.heap.size rfl (range_newM wr [.int .u64 (g i).x0, .int .u64 (g i).x1, .int .u64 (g i).x2, .int .u64 (g i).x3] 47) (by have := NB.out; omega) h1.bl.size ?_; intro a5 w5 ho5 hg5; have V5 := Hn (And.intro (below_tr h1.bl (below_grown hg5 h1.bl.size (fun k hk => (h1.ra.lt k hk).1))) (And.intro ho5 (own_kept h1.rb h1.ra (by decide) hg5))); clear ho5 hg5 h1)
   clear a0 a1 a2 a3
   have a0 : w5.cell? ⟨sb, so + i * 4, none⟩ = some (.int .u64 (g i).x0) := bl_cellO V5.out.1 (RT.out.c0 i hin)
   have a1 : w5.cell? ⟨sb, so + i * 4 + 1, none⟩ = some (.int .u64 (g i).x1) := bl_cellO V5.out.1 (RT.out.c1 i hin)
   have a2 : w5.cell? ⟨sb, so + i * 4 + 2, none⟩ = some (.int .u64 (g i).x2) := bl_cellO V5.out.1 (RT.out.c2 i hin)
   have a3 : w5.cell? ⟨sb, so + i * 4 + 3, none⟩ = some (.int .u64 (g i).x3) := bl_cellO V5.out.1 (RT.out.c3 i hin)
   have CL := Hn (by
    have c := fix (R := lst (g i).n) (rleast_any (g i) w5 AK.out) rfl
    simp only [E4.v] at c
    exact c)
   go_wp2_with (first | (go_at_call 63; refine CL.out.mono ?_; rintro e w6 ⟨rfl, hb⟩; have V6 := Hn (And.intro (bl_trans V5.out.1 hb) (And.intro (own_keepT V5.out.2.1 hb) (own_keepT V5.out.2.2 hb))); clear hb CL) | (at_builtin; have b1 := bl_alloc w6 (.cells #[.int .u64 (lst (g i).n).x0, .int .u64 (lst (g i).n).x1, .int .u64 (lst (g i).n).x2, .int .u64 (lst (g i).n).x3] 107); have rb := own_keepT V6.out.2.2 b1; have ra := own_keepT V6.out.2.1 b1; have bb := bl_trans V6.out.1 b1; refine wpL_apB rfl _ _ rfl x.heap.size i _ (lsG g) rfl rb w6.heap.size rfl (range_newM w6 [.int .u64 (lst (g i).n).x0, .int .u64 (lst (g i).n).x1, .int .u64 (lst (g i).n).x2, .int .u64 (lst (g i).n).x3] 107) (by have := NB.out; omega) bb.size ?_; intro b7 w7 ho7 hg7; have V7 := Hn (⟨below_tr bb (below_grown hg7 bb.size (fun k hk => (rb.lt k hk).1)), own_kept ra rb (by decide) hg7, ho7⟩ : Va ⟨some ⟨sb, so, none⟩, n, c, g⟩ x (i + 1) a5 b7 w7); clear ho7 hg7 b1 rb ra bb))
   go_roundw
   case rel => exact ⟨i + 1, by omega, by go_num, V7⟩
   case measure => simp [intOf]; omega
  ·obtain rfl : i = n := by omega
   have lq : ¬ (i : Int) < (i : Int) := by omega
   go_wp2_with fail
   exact bodyPost_ret (v := .tuple #[u4, u5]) (by simp [results, Tryz.results30, go_sem]) rfl ⟨_, _, rfl, HV.out⟩
end Ci
end Go.Proofs.YtebmaneogekhjaaGreatDoor
namespace Go.Proofs.YtebmaneogekhjaaGreatDoor
set_option maxRecDepth 100000
set_option maxHeartbeats 16000000
open Go.RowKit
set_option linter.unusedVariables false
set_option linter.unusedSimpArgs false
open Cm (Wr Tm co bf Ls lf ins Eqm)
namespace Ci
def Rr (base : Nat) (x : World) (v : Value) (n : Nat) : Prop := ∃ xs, x.ownsRow base 107 4 v n xs ∧ n ≤ 100000
theorem Rr.keep {base n : Nat} {x y : World} {v : Value} (h : Rr base x v n) (hb : Below x.heap.size x y) : Rr base y v n := by
 obtain ⟨xs, h1, h2⟩ := h
 exact ⟨xs, own_keepT h1 hb, h2⟩
theorem i1_R : (Tryz.prog.info? 74).map (·.size) = some 1 := by kernel_rfl
theorem loadSr (w : World) (b o : Nat) (p : Option Addr) (n c : Nat) (hc : w.cell? ⟨b, o, none⟩ = some (.slice p n c)) : (loadVar 74 ⟨b, o, none⟩).run Tryz.prog w = .ok (.slice p n c) w := by
 have ha : (isAgg 74).run Tryz.prog w = .ok false w := by kernel_rfl
 unfold loadVar
 simp only [Sem.run_bind, ha, Result.andThen_ok, Bool.false_eq_true, if_false]
 simp [go_sem, hc]
theorem wp_ldSr {w : World} {o : Oper} {a : Act} {K : Act → World → Prop} {Q : Exit → Act → World → Prop} (x0 : Operand) (ho : o.op = .load 74 x0) (b j : Nat) (p : Option Addr) (n c : Nat) (h0 : a.eval x0 = .pointer (some ⟨b, j, none⟩)) (hc : w.cell? ⟨b, j, none⟩ = some (.slice p n c)) (h : K (a.put o.dst (.slice p n c)) w) : o.wp Tryz.prog a w K Q := by
 have hr := loadSr w b j p n c hc
 unfold Oper.wp execOp
 simp only [ho, h0, Instr.loadAt, Instr.sureAddr, Sem.run_bind, Sem.run_pure, Result.andThen_ok, hr]
 exact h
theorem build1R (p : E4) (w : World) : (Instr.buildSlice 74 1 #[(0, .agg #[.int .u64 p.x0, .int .u64 p.x1, .int .u64 p.x2, .int .u64 p.x3])]).run Tryz.prog w = .ok (.slice (some ⟨w.heap.size, 0, none⟩) 1 1) (w.alloc (.cells #[.int .u64 p.x0, .int .u64 p.x1, .int .u64 p.x2, .int .u64 p.x3] 107)) := by kernel_rfl
theorem wp_bs1r {w : World} {o : Oper} {a : Act} {K : Act → World → Prop} {Q : Exit → Act → World → Prop} (x0 : Operand) (ho : o.op = .buildSlice 74 1 #[(0, x0)]) (p : E4) (h0 : a.eval x0 = .agg #[.int .u64 p.x0, .int .u64 p.x1, .int .u64 p.x2, .int .u64 p.x3]) (h : ∀ (tb : Nat) (wq : World), Below w.heap.size w wq → wq.rangeAt tb 0 [.int .u64 p.x0, .int .u64 p.x1, .int .u64 p.x2, .int .u64 p.x3] → K (a.put o.dst (.slice (some ⟨tb, 0, none⟩) 1 1)) wq) : o.wp Tryz.prog a w K Q := by
 have hr := build1R p w
 have hk := h w.heap.size _ (bl_alloc w (.cells #[.int .u64 p.x0, .int .u64 p.x1, .int .u64 p.x2, .int .u64 p.x3] 107)) (range_newM w [.int .u64 p.x0, .int .u64 p.x1, .int .u64 p.x2, .int .u64 p.x3] 107)
 unfold Oper.wp execOp
 simp only [ho, Sem.run_bind, Sem.run_pure, Result.andThen_ok, List.map_toArray, List.map_cons, List.map_nil, h0, hr]
 exact hk
theorem wp_apR {base n c : Nat} {P : Option Addr} {w : World} {o : Oper} {a : Act} {K : Act → World → Prop} {Q : Exit → Act → World → Prop} (hr : Rr base w (.slice P n c) n) (hb : base ≤ w.heap.size) (x0 x1 : Operand) (ho : o.op = .call { callee := .builtin .append, args := #[x0, x1], argTypes := #[74, 74] }) (h0 : a.eval x0 = .slice P n c) (tb : Nat) (h1 : a.eval x1 = .slice (some ⟨tb, 0, none⟩) 1 1) (z : E4) (hc : w.rangeAt tb 0 [.int .u64 z.x0, .int .u64 z.x1, .int .u64 z.x2, .int .u64 z.x3])
  (h : ∀ (p : Option Addr) (c' : Nat) (wq : World), (∃ xs, wq.ownsRow base 107 4 (.slice p (n + 1) c') (n + 1) xs) → w.grownBy wq (Value.slice P n c).ownBlock → (∀ k, (Value.slice p (n + 1) c').ownBlock = some k → (Value.slice P n c).ownBlock = some k ∨ w.heap.size ≤ k) → K (a.put o.dst (.slice p (n + 1) c')) wq) : o.wp Tryz.prog a w K Q := by
 have HI : (Tryz.prog.info? 107) = some (Tryz.prog.info? 107).get! := by kernel_rfl
 obtain ⟨xs, hw, hn⟩ := hr
 refine wp_appG x0 x1 74 ho base 107 _ (.agg #[.int .u64 0, .int .u64 0, .int .u64 0, .int .u64 0]) 4 32 (by kernel_rfl) HI (by kernel_rfl) (by kernel_rfl) (by kernel_rfl) rfl (by decide) (.slice P n c) n xs h0 hw ⟨tb, 0, none⟩ 1 1 [.int .u64 z.x0, .int .u64 z.x1, .int .u64 z.x2, .int .u64 z.x3] h1 rfl (fun d u hu => by rw [Addr.add_mid]; exact hc d u hu) (by simp [Value.oneCell']) (by unfold maxLen; omega) (by omega) hb (fun v' w' k1 k2 k3 => ?_)
 obtain ⟨p, c', e⟩ : ∃ p c', v' = .slice p (n + 1) c' := by
  rcases k1.2 with ⟨_, e2⟩ | ⟨g, c, cur, e1, _⟩
  ·omega
  ·exact ⟨_, _, e1⟩
 subst e
 refine h p c' w' ⟨_, k1⟩ k2 (fun k hk => ?_)
 rcases k3 with k3 | k3
 ·rw [k3] at hk; exact .inl hk
 ·rw [k3] at hk; exact .inr (by rw [← Option.some.inj hk]; exact Nat.le_refl _)
def ApQ (W wz : World) (base d j : Nat) (P : Option Addr) (n c : Nat) (P' : Option Addr) (c' : Nat) : Prop := ∃ w1 w2, Below W.heap.size W w1 ∧ w1.grownBy w2 (Value.slice P n c).ownBlock ∧ (∃ xs, w2.ownsRow base 107 4 (.slice P' (n + 1) c') (n + 1) xs) ∧ (∀ k, (Value.slice P' (n + 1) c').ownBlock = some k → (Value.slice P n c).ownBlock = some k ∨ W.heap.size ≤ k) ∧ wz = w2.setCells d (2 + j) [.slice P' (n + 1) c']
def pu1o_0 : Oper := oO 8 (Op.move (Operand.tmp 0)) 36 "gadget.go:43" #[]
def pu1o_1 : Oper := oO 9 (Op.move (Operand.tmp 0)) 36 "gadget.go:43" #[]
def pu1o_2 : Oper := oO 10 (Op.nilCheck (Operand.tmp 9)) 0 "gadget.go:43" #[DD 1]
def pu1o_3 : Oper := oO 11 (Op.fieldAddr 85 (Operand.tmp 10) 2) 0 "gadget.go:43" #[DD 2]
def pu1o_4 : Oper := oO 12 (Op.fieldAddr 83 (Operand.tmp 11) 0) 0 "gadget.go:43" #[DD 3]
def pu1o_5 : Oper := oO 13 (Op.load 74 (Operand.tmp 12)) 74 "gadget.go:43" #[DD 4]
def pu1o_6 : Oper := oO 14 (Op.load 107 (Operand.tmp 5)) 107 "gadget.go:43" #[]
def pu1o_7 : Oper := oO 15 (Op.buildSlice 74 1 #[(0, Operand.tmp 14)]) 74 "gadget.go:43" #[DD 6]
def pu1o_8 : Oper := oO 16 (Op.call { callee := Callee.builtin Builtin.append, args := #[Operand.tmp 13, Operand.tmp 15], argTypes := #[74, 74] }) 74 "gadget.go:43" #[DD 5, DD 7]
def pu1o_9 : Oper := oO 17 (Op.nilCheck (Operand.tmp 8)) 0 "gadget.go:43" #[DD 0, PH 0, PH 1, PH 2, PH 3, PH 4, PH 5, PH 6, PH 7, PH 8]
def pu1o_10 : Oper := oO 18 (Op.fieldAddr 85 (Operand.tmp 17) 2) 0 "gadget.go:43" #[DD 9, PH 0, PH 1, PH 2, PH 3, PH 4, PH 5, PH 6, PH 7, PH 8]
def pu1o_11 : Oper := oO 19 (Op.fieldAddr 83 (Operand.tmp 18) 0) 0 "gadget.go:43" #[DD 10, PH 0, PH 1, PH 2, PH 3, PH 4, PH 5, PH 6, PH 7, PH 8]
def pu1o_12 : Oper := oN (Op.store 74 (Operand.tmp 19) (Operand.tmp 16)) "gadget.go:43" #[DD 11, DD 8, CH 8, PH 0, PH 1, PH 2, PH 3, PH 4, PH 5, PH 6, PH 7, PH 8]
def pu1o : Array Oper := #[pu1o_0, pu1o_1, pu1o_2, pu1o_3, pu1o_4, pu1o_5, pu1o_6, pu1o_7, pu1o_8, pu1o_9, pu1o_10, pu1o_11, pu1o_12]
theorem pu1 (Q : Exit → Act → World → Prop) (base d xa n c : Nat) (P : Option Addr) (z : E4) (u1 u2 u3 u4 u6 u7 u8 u9 aa ab ad ae af ag ah ai aj ak al am an ao ap aq au av aw ax ay az aA aB aC aD aE aF aG aH aI aJ aK aL : Value) (W : World)
  (q0 : W.cell? ⟨xa, 0, none⟩ = some (.int .u64 z.x0)) (q1 : W.cell? ⟨xa, 1, none⟩ = some (.int .u64 z.x1)) (q2 : W.cell? ⟨xa, 2, none⟩ = some (.int .u64 z.x2)) (q3 : W.cell? ⟨xa, 3, none⟩ = some (.int .u64 z.x3)) (cb : W.cell? ⟨d, 2, none⟩ = some (.slice P n c)) (RO : Hid (Rr base W (.slice P n c) n)) (hb0 : Hid (base ≤ W.heap.size)) (th : W.there d 2 1) (nb : Hid ((Value.slice P n c).ownBlock ≠ some d)) (n0 : Hid ((Value.slice P n c).ownBlock ≠ some xa)) (m0 : Hid (xa ≠ d))
  (HQ : Hid (∀ (wz : World) (tb : Nat) (p' : Option Addr) (c' : Nat), ApQ W wz base d 0 P n c p' c' → Q .normal ⟨#[.pointer (some ⟨d, 0, none⟩), u1, u2, u3, u4, .pointer (some ⟨xa, 0, none⟩), u6, u7, .pointer (some ⟨d, 0, none⟩), .pointer (some ⟨d, 0, none⟩), .pointer (some ⟨d, 0, none⟩), .pointer (some ⟨d, 2, none⟩), .pointer (some ⟨d, 2, none⟩), .slice P n c, .agg #[.int .u64 z.x0, .int .u64 z.x1, .int .u64 z.x2, .int .u64 z.x3], .slice (some ⟨tb, 0, none⟩) 1 1, (.slice p' (n + 1) c'), .pointer (some ⟨d, 0, none⟩), .pointer (some ⟨d, 2, none⟩), .pointer (some ⟨d, 2, none⟩), al, am, an, ao, ap, aq, au, av, aw, ax, ay, az, aA, aB, aC, aD, aE, aF, aG, aH, aI, aJ, aK, aL], []⟩ wz)) : (Code.region 1 pu1o true).wp Tryz.prog Q ⟨#[.pointer (some ⟨d, 0, none⟩), u1, u2, u3, u4, .pointer (some ⟨xa, 0, none⟩), u6, u7, u8, u9, aa, ab, ad, ae, af, ag, ah, ai, aj, ak, al, am, an, ao, ap, aq, au, av, aw, ax, ay, az, aA, aB, aC, aD, aE, aF, aG, aH, aI, aJ, aK, aL], []⟩ W := by
 have BB := Hn (bl_drew W)
 have CB := Hn (cell_keep cb (bl_drew W))
 clear cb
 unfold pu1o
 refine wp_region_noPanic ?_
 refine wp_region_held_drew (S := fun x => x.cell? ⟨xa, 0, none⟩ = some (.int .u64 z.x0) ∧ x.cell? ⟨xa, 1, none⟩ = some (.int .u64 z.x1) ∧ x.cell? ⟨xa, 2, none⟩ = some (.int .u64 z.x2) ∧ x.cell? ⟨xa, 3, none⟩ = some (.int .u64 z.x3)) (by kernel_rfl) (⟨cell_keep q0 (bl_drew W), cell_keep q1 (bl_drew W), cell_keep q2 (bl_drew W), cell_keep q3 (bl_drew W)⟩) (fun hH0 => ?_)
 refine tj 0 pu1o_0 (.pointer (some ⟨d, 0, none⟩)) hH0 (fun w0 hSw => ?_) ?_
 ·(unfold pu1o_0 oO; clear hSw; go_simp)
 simp only [pu1o_0, oO, Act.put, sA, sB, sC]
 refine tj 1 pu1o_1 (.pointer (some ⟨d, 0, none⟩)) hH0 (fun w0 hSw => ?_) ?_
 ·(unfold pu1o_1 oO; clear hSw; go_simp)
 simp only [pu1o_1, oO, Act.put, sA, sB, sC]
 refine tj 6 pu1o_6 (.agg #[.int .u64 z.x0, .int .u64 z.x1, .int .u64 z.x2, .int .u64 z.x3]) hH0 (fun w0 hSw => ?_) ?_
 ·(unfold pu1o_6 oO; have hS : w0.cell? ⟨xa, 0, none⟩ = some (.int .u64 z.x0) ∧ w0.cell? ⟨xa, 1, none⟩ = some (.int .u64 z.x1) ∧ w0.cell? ⟨xa, 2, none⟩ = some (.int .u64 z.x2) ∧ w0.cell? ⟨xa, 3, none⟩ = some (.int .u64 z.x3) := hSw; have a0 := hS.1; have a1 := hS.2.1; have a2 := hS.2.2.1; have a3 := hS.2.2.2; clear hS hSw; go_simp)
 simp only [pu1o_6, oO, Act.put, sA, sB, sC]
 refine tj 2 pu1o_2 (.pointer (some ⟨d, 0, none⟩)) hH0 (fun w0 hSw => ?_) ?_
 ·(unfold pu1o_2 oO; clear hSw; go_simp)
 simp only [pu1o_2, oO, Act.put, sA, sB, sC]
 refine tj 3 pu1o_3 (.pointer (some ⟨d, 2, none⟩)) hH0 (fun w0 hSw => ?_) ?_
 ·(unfold pu1o_3 oO; clear hSw; go_simp)
 simp only [pu1o_3, oO, Act.put, sA, sB, sC]
 refine tj 4 pu1o_4 (.pointer (some ⟨d, 2, none⟩)) hH0 (fun w0 hSw => ?_) ?_
 ·(unfold pu1o_4 oO; clear hSw; go_simp)
 simp only [pu1o_4, oO, Act.put, sA, sB, sC]
 refine ar [5, 7] ?_
 refine ac pu1o_5 (fun K hK => ?_) (ac pu1o_7 (fun K hK => ?_) AllReadyH.nil)
 ·unfold pu1o_5 oO
  have HH := Hn hH0
  clear hH0
  refine wp_ldSr _ rfl d 2 P n c rfl CB.out ?_
  simp only [Act.put, sA, sB, sC]
  have SN := HH
  clear HH
  refine hK.out _ _ SN.out (fun hH1 => ?_)
  clear hK K SN
  refine ar [7] ?_
  refine ac pu1o_7 (fun K hK => ?_) AllReadyH.nil
  unfold pu1o_7 oO
  have HH := Hn hH1
  clear hH1
  refine wp_bs1r _ rfl z rfl (fun tb wn2 hbb hrg => ?_)
  have SN := Hn (And.intro (cell_keep HH.out.1 hbb) (And.intro (cell_keep HH.out.2.1 hbb) (And.intro (cell_keep HH.out.2.2.1 hbb) (cell_keep HH.out.2.2.2 hbb))))
  replace BB := Hn (bl_trans BB.out hbb)
  have RG := Hn (hrg)
  clear HH hbb hrg
  simp only [Act.put, sA, sB, sC]
  refine hK.out _ _ SN.out (fun hH2 => ?_)
  clear hK K SN
  refine ar [8] ?_
  refine ac pu1o_8 (fun K hK => ?_) AllReadyH.nil
  unfold pu1o_8 oO
  have HH := Hn hH2
  clear hH2
  refine wp_apR (RO.out.keep BB.out) (Nat.le_trans hb0.out BB.out.size) _ _ rfl rfl tb rfl z RG.out (fun p' c' wn3 ho hg hk => ?_)
  have SN := Hn (And.intro (hg.cell HH.out.1 (fun e9 => n0.out e9.symm)) (And.intro (hg.cell HH.out.2.1 (fun e9 => n0.out e9.symm)) (And.intro (hg.cell HH.out.2.2.1 (fun e9 => n0.out e9.symm)) (hg.cell HH.out.2.2.2 (fun e9 => n0.out e9.symm)))))
  have W1 := Hn (hg)
  have OW := Hn (ho)
  have HK := Hn ((fun k hk1 => (hk k hk1).imp id (fun h9 => Nat.le_trans BB.out.size h9)))
  clear HH ho hg hk RG
  simp only [Act.put, sA, sB, sC]
  refine hK.out _ _ SN.out (fun hH3 => ?_)
  clear hK K SN
  refine tj 9 pu1o_9 (.pointer (some ⟨d, 0, none⟩)) hH3 (fun w0 hSw => ?_) ?_
  ·(unfold pu1o_9 oO; clear hSw; go_simp)
  simp only [pu1o_9, oO, Act.put, sA, sB, sC]
  refine tj 10 pu1o_10 (.pointer (some ⟨d, 2, none⟩)) hH3 (fun w0 hSw => ?_) ?_
  ·(unfold pu1o_10 oO; clear hSw; go_simp)
  simp only [pu1o_10, oO, Act.put, sA, sB, sC]
  refine tj 11 pu1o_11 (.pointer (some ⟨d, 2, none⟩)) hH3 (fun w0 hSw => ?_) ?_
  ·(unfold pu1o_11 oO; clear hSw; go_simp)
  simp only [pu1o_11, oO, Act.put, sA, sB, sC]
  refine ar [12] ?_
  refine ac pu1o_12 (fun K hK => ?_) AllReadyH.nil
  unfold pu1o_12 oN
  have HH := Hn hH3
  clear hH3
  refine wp_storeV 74 _ _ rfl d 2 p' (n + 1) c' (by rfl) (by rfl) (there_gbO (there_bl th BB.out) W1.out (fun e9 => nb.out e9.symm)) i1_R rfl (fun wn4 hw => ?_)
  have SN := Hn (And.intro ((gb_setCells d [.slice p' (n + 1) c'] 2 _).cell HH.out.1 (fun e9 => m0.out (Option.some.inj e9))) (And.intro ((gb_setCells d [.slice p' (n + 1) c'] 2 _).cell HH.out.2.1 (fun e9 => m0.out (Option.some.inj e9))) (And.intro ((gb_setCells d [.slice p' (n + 1) c'] 2 _).cell HH.out.2.2.1 (fun e9 => m0.out (Option.some.inj e9))) ((gb_setCells d [.slice p' (n + 1) c'] 2 _).cell HH.out.2.2.2 (fun e9 => m0.out (Option.some.inj e9))))))
  have FE := Hn ((⟨_, _, BB.out, W1.out, OW.out, HK.out, hw⟩ : ApQ W _ base d 0 P n c p' c'))
  rw [← hw] at SN
  clear HH hw
  refine hK.out _ _ SN.out (fun hH4 => ?_)
  clear hK K SN
  have HH := Hn hH4
  have FQ := Hn (HQ.out _ tb p' c' FE.out)
  refine wpAnyH_done (by kernel_rfl) ?_ _
  refine NoPanic.normal ?_
  exact FQ.out
 ·unfold pu1o_7 oO
  have HH := Hn hH0
  clear hH0
  refine wp_bs1r _ rfl z rfl (fun tb wn1 hbb hrg => ?_)
  have SN := Hn (And.intro (cell_keep HH.out.1 hbb) (And.intro (cell_keep HH.out.2.1 hbb) (And.intro (cell_keep HH.out.2.2.1 hbb) (cell_keep HH.out.2.2.2 hbb))))
  replace BB := Hn (bl_trans BB.out hbb)
  have RG := Hn (hrg)
  replace CB := Hn (cell_keep CB.out hbb)
  clear HH hbb hrg
  simp only [Act.put, sA, sB, sC]
  refine hK.out _ _ SN.out (fun hH1 => ?_)
  clear hK K SN
  refine ar [5] ?_
  refine ac pu1o_5 (fun K hK => ?_) AllReadyH.nil
  unfold pu1o_5 oO
  have HH := Hn hH1
  clear hH1
  refine wp_ldSr _ rfl d 2 P n c rfl CB.out ?_
  simp only [Act.put, sA, sB, sC]
  have SN := HH
  clear HH
  refine hK.out _ _ SN.out (fun hH2 => ?_)
  clear hK K SN
  refine ar [8] ?_
  refine ac pu1o_8 (fun K hK => ?_) AllReadyH.nil
  unfold pu1o_8 oO
  have HH := Hn hH2
  clear hH2
  refine wp_apR (RO.out.keep BB.out) (Nat.le_trans hb0.out BB.out.size) _ _ rfl rfl tb rfl z RG.out (fun p' c' wn3 ho hg hk => ?_)
  have SN := Hn (And.intro (hg.cell HH.out.1 (fun e9 => n0.out e9.symm)) (And.intro (hg.cell HH.out.2.1 (fun e9 => n0.out e9.symm)) (And.intro (hg.cell HH.out.2.2.1 (fun e9 => n0.out e9.symm)) (hg.cell HH.out.2.2.2 (fun e9 => n0.out e9.symm)))))
  have W1 := Hn (hg)
  have OW := Hn (ho)
  have HK := Hn ((fun k hk1 => (hk k hk1).imp id (fun h9 => Nat.le_trans BB.out.size h9)))
  clear HH ho hg hk RG
  simp only [Act.put, sA, sB, sC]
  refine hK.out _ _ SN.out (fun hH3 => ?_)
  clear hK K SN
  refine tj 9 pu1o_9 (.pointer (some ⟨d, 0, none⟩)) hH3 (fun w0 hSw => ?_) ?_
  ·(unfold pu1o_9 oO; clear hSw; go_simp)
  simp only [pu1o_9, oO, Act.put, sA, sB, sC]
  refine tj 10 pu1o_10 (.pointer (some ⟨d, 2, none⟩)) hH3 (fun w0 hSw => ?_) ?_
  ·(unfold pu1o_10 oO; clear hSw; go_simp)
  simp only [pu1o_10, oO, Act.put, sA, sB, sC]
  refine tj 11 pu1o_11 (.pointer (some ⟨d, 2, none⟩)) hH3 (fun w0 hSw => ?_) ?_
  ·(unfold pu1o_11 oO; clear hSw; go_simp)
  simp only [pu1o_11, oO, Act.put, sA, sB, sC]
  refine ar [12] ?_
  refine ac pu1o_12 (fun K hK => ?_) AllReadyH.nil
  unfold pu1o_12 oN
  have HH := Hn hH3
  clear hH3
  refine wp_storeV 74 _ _ rfl d 2 p' (n + 1) c' (by rfl) (by rfl) (there_gbO (there_bl th BB.out) W1.out (fun e9 => nb.out e9.symm)) i1_R rfl (fun wn4 hw => ?_)
  have SN := Hn (And.intro ((gb_setCells d [.slice p' (n + 1) c'] 2 _).cell HH.out.1 (fun e9 => m0.out (Option.some.inj e9))) (And.intro ((gb_setCells d [.slice p' (n + 1) c'] 2 _).cell HH.out.2.1 (fun e9 => m0.out (Option.some.inj e9))) (And.intro ((gb_setCells d [.slice p' (n + 1) c'] 2 _).cell HH.out.2.2.1 (fun e9 => m0.out (Option.some.inj e9))) ((gb_setCells d [.slice p' (n + 1) c'] 2 _).cell HH.out.2.2.2 (fun e9 => m0.out (Option.some.inj e9))))))
  have FE := Hn ((⟨_, _, BB.out, W1.out, OW.out, HK.out, hw⟩ : ApQ W _ base d 0 P n c p' c'))
  rw [← hw] at SN
  clear HH hw
  refine hK.out _ _ SN.out (fun hH4 => ?_)
  clear hK K SN
  have HH := Hn hH4
  have FQ := Hn (HQ.out _ tb p' c' FE.out)
  refine wpAnyH_done (by kernel_rfl) ?_ _
  refine NoPanic.normal ?_
  exact FQ.out
def pu2o_0 : Oper := oO 20 (Op.move (Operand.tmp 0)) 36 "gadget.go:44" #[]
def pu2o_1 : Oper := oO 21 (Op.move (Operand.tmp 0)) 36 "gadget.go:44" #[]
def pu2o_2 : Oper := oO 22 (Op.nilCheck (Operand.tmp 21)) 0 "gadget.go:44" #[DD 1]
def pu2o_3 : Oper := oO 23 (Op.fieldAddr 85 (Operand.tmp 22) 2) 0 "gadget.go:44" #[DD 2]
def pu2o_4 : Oper := oO 24 (Op.fieldAddr 83 (Operand.tmp 23) 1) 0 "gadget.go:44" #[DD 3]
def pu2o_5 : Oper := oO 25 (Op.load 74 (Operand.tmp 24)) 74 "gadget.go:44" #[DD 4]
def pu2o_6 : Oper := oO 26 (Op.load 107 (Operand.tmp 6)) 107 "gadget.go:44" #[]
def pu2o_7 : Oper := oO 27 (Op.buildSlice 74 1 #[(0, Operand.tmp 26)]) 74 "gadget.go:44" #[DD 6]
def pu2o_8 : Oper := oO 28 (Op.call { callee := Callee.builtin Builtin.append, args := #[Operand.tmp 25, Operand.tmp 27], argTypes := #[74, 74] }) 74 "gadget.go:44" #[DD 5, DD 7]
def pu2o_9 : Oper := oO 29 (Op.nilCheck (Operand.tmp 20)) 0 "gadget.go:44" #[DD 0, PH 0, PH 1, PH 2, PH 3, PH 4, PH 5, PH 6, PH 7, PH 8]
def pu2o_10 : Oper := oO 30 (Op.fieldAddr 85 (Operand.tmp 29) 2) 0 "gadget.go:44" #[DD 9, PH 0, PH 1, PH 2, PH 3, PH 4, PH 5, PH 6, PH 7, PH 8]
def pu2o_11 : Oper := oO 31 (Op.fieldAddr 83 (Operand.tmp 30) 1) 0 "gadget.go:44" #[DD 10, PH 0, PH 1, PH 2, PH 3, PH 4, PH 5, PH 6, PH 7, PH 8]
def pu2o_12 : Oper := oN (Op.store 74 (Operand.tmp 31) (Operand.tmp 28)) "gadget.go:44" #[DD 11, DD 8, CH 8, PH 0, PH 1, PH 2, PH 3, PH 4, PH 5, PH 6, PH 7, PH 8]
def pu2o : Array Oper := #[pu2o_0, pu2o_1, pu2o_2, pu2o_3, pu2o_4, pu2o_5, pu2o_6, pu2o_7, pu2o_8, pu2o_9, pu2o_10, pu2o_11, pu2o_12]
theorem pu2 (Q : Exit → Act → World → Prop) (base d xa n c : Nat) (P : Option Addr) (z : E4) (u1 u2 u3 u4 u5 u7 u8 u9 aa ab ad ae af ag ah ai aj ak al am an ao ap aq au av aw ax ay az aA aB aC aD aE aF aG aH aI aJ aK aL : Value) (W : World)
  (q0 : W.cell? ⟨xa, 0, none⟩ = some (.int .u64 z.x0)) (q1 : W.cell? ⟨xa, 1, none⟩ = some (.int .u64 z.x1)) (q2 : W.cell? ⟨xa, 2, none⟩ = some (.int .u64 z.x2)) (q3 : W.cell? ⟨xa, 3, none⟩ = some (.int .u64 z.x3)) (cb : W.cell? ⟨d, 3, none⟩ = some (.slice P n c)) (RO : Hid (Rr base W (.slice P n c) n)) (hb0 : Hid (base ≤ W.heap.size)) (th : W.there d 3 1) (nb : Hid ((Value.slice P n c).ownBlock ≠ some d)) (n0 : Hid ((Value.slice P n c).ownBlock ≠ some xa)) (m0 : Hid (xa ≠ d))
  (HQ : Hid (∀ (wz : World) (tb : Nat) (p' : Option Addr) (c' : Nat), ApQ W wz base d 1 P n c p' c' → Q .normal ⟨#[.pointer (some ⟨d, 0, none⟩), u1, u2, u3, u4, u5, .pointer (some ⟨xa, 0, none⟩), u7, u8, u9, aa, ab, ad, ae, af, ag, ah, ai, aj, ak, .pointer (some ⟨d, 0, none⟩), .pointer (some ⟨d, 0, none⟩), .pointer (some ⟨d, 0, none⟩), .pointer (some ⟨d, 2, none⟩), .pointer (some ⟨d, 3, none⟩), .slice P n c, .agg #[.int .u64 z.x0, .int .u64 z.x1, .int .u64 z.x2, .int .u64 z.x3], .slice (some ⟨tb, 0, none⟩) 1 1, (.slice p' (n + 1) c'), .pointer (some ⟨d, 0, none⟩), .pointer (some ⟨d, 2, none⟩), .pointer (some ⟨d, 3, none⟩), aA, aB, aC, aD, aE, aF, aG, aH, aI, aJ, aK, aL], []⟩ wz)) : (Code.region 2 pu2o true).wp Tryz.prog Q ⟨#[.pointer (some ⟨d, 0, none⟩), u1, u2, u3, u4, u5, .pointer (some ⟨xa, 0, none⟩), u7, u8, u9, aa, ab, ad, ae, af, ag, ah, ai, aj, ak, al, am, an, ao, ap, aq, au, av, aw, ax, ay, az, aA, aB, aC, aD, aE, aF, aG, aH, aI, aJ, aK, aL], []⟩ W := by
 have BB := Hn (bl_drew W)
 have CB := Hn (cell_keep cb (bl_drew W))
 clear cb
 unfold pu2o
 refine wp_region_noPanic ?_
 refine wp_region_held_drew (S := fun x => x.cell? ⟨xa, 0, none⟩ = some (.int .u64 z.x0) ∧ x.cell? ⟨xa, 1, none⟩ = some (.int .u64 z.x1) ∧ x.cell? ⟨xa, 2, none⟩ = some (.int .u64 z.x2) ∧ x.cell? ⟨xa, 3, none⟩ = some (.int .u64 z.x3)) (by kernel_rfl) (⟨cell_keep q0 (bl_drew W), cell_keep q1 (bl_drew W), cell_keep q2 (bl_drew W), cell_keep q3 (bl_drew W)⟩) (fun hH0 => ?_)
 refine tj 0 pu2o_0 (.pointer (some ⟨d, 0, none⟩)) hH0 (fun w0 hSw => ?_) ?_
 ·(unfold pu2o_0 oO; clear hSw; go_simp)
 simp only [pu2o_0, oO, Act.put, sA, sB, sC]
 refine tj 1 pu2o_1 (.pointer (some ⟨d, 0, none⟩)) hH0 (fun w0 hSw => ?_) ?_
 ·(unfold pu2o_1 oO; clear hSw; go_simp)
 simp only [pu2o_1, oO, Act.put, sA, sB, sC]
 refine tj 6 pu2o_6 (.agg #[.int .u64 z.x0, .int .u64 z.x1, .int .u64 z.x2, .int .u64 z.x3]) hH0 (fun w0 hSw => ?_) ?_
 ·(unfold pu2o_6 oO; have hS : w0.cell? ⟨xa, 0, none⟩ = some (.int .u64 z.x0) ∧ w0.cell? ⟨xa, 1, none⟩ = some (.int .u64 z.x1) ∧ w0.cell? ⟨xa, 2, none⟩ = some (.int .u64 z.x2) ∧ w0.cell? ⟨xa, 3, none⟩ = some (.int .u64 z.x3) := hSw; have a0 := hS.1; have a1 := hS.2.1; have a2 := hS.2.2.1; have a3 := hS.2.2.2; clear hS hSw; go_simp)
 simp only [pu2o_6, oO, Act.put, sA, sB, sC]
 refine tj 2 pu2o_2 (.pointer (some ⟨d, 0, none⟩)) hH0 (fun w0 hSw => ?_) ?_
 ·(unfold pu2o_2 oO; clear hSw; go_simp)
 simp only [pu2o_2, oO, Act.put, sA, sB, sC]
 refine tj 3 pu2o_3 (.pointer (some ⟨d, 2, none⟩)) hH0 (fun w0 hSw => ?_) ?_
 ·(unfold pu2o_3 oO; clear hSw; go_simp)
 simp only [pu2o_3, oO, Act.put, sA, sB, sC]
 refine tj 4 pu2o_4 (.pointer (some ⟨d, 3, none⟩)) hH0 (fun w0 hSw => ?_) ?_
 ·(unfold pu2o_4 oO; clear hSw; go_simp)
 simp only [pu2o_4, oO, Act.put, sA, sB, sC]
 refine ar [5, 7] ?_
 refine ac pu2o_5 (fun K hK => ?_) (ac pu2o_7 (fun K hK => ?_) AllReadyH.nil)
 ·unfold pu2o_5 oO
  have HH := Hn hH0
  clear hH0
  refine wp_ldSr _ rfl d 3 P n c rfl CB.out ?_
  simp only [Act.put, sA, sB, sC]
  have SN := HH
  clear HH
  refine hK.out _ _ SN.out (fun hH1 => ?_)
  clear hK K SN
  refine ar [7] ?_
  refine ac pu2o_7 (fun K hK => ?_) AllReadyH.nil
  unfold pu2o_7 oO
  have HH := Hn hH1
  clear hH1
  refine wp_bs1r _ rfl z rfl (fun tb wn2 hbb hrg => ?_)
  have SN := Hn (And.intro (cell_keep HH.out.1 hbb) (And.intro (cell_keep HH.out.2.1 hbb) (And.intro (cell_keep HH.out.2.2.1 hbb) (cell_keep HH.out.2.2.2 hbb))))
  replace BB := Hn (bl_trans BB.out hbb)
  have RG := Hn (hrg)
  clear HH hbb hrg
  simp only [Act.put, sA, sB, sC]
  refine hK.out _ _ SN.out (fun hH2 => ?_)
  clear hK K SN
  refine ar [8] ?_
  refine ac pu2o_8 (fun K hK => ?_) AllReadyH.nil
  unfold pu2o_8 oO
  have HH := Hn hH2
  clear hH2
  refine wp_apR (RO.out.keep BB.out) (Nat.le_trans hb0.out BB.out.size) _ _ rfl rfl tb rfl z RG.out (fun p' c' wn3 ho hg hk => ?_)
  have SN := Hn (And.intro (hg.cell HH.out.1 (fun e9 => n0.out e9.symm)) (And.intro (hg.cell HH.out.2.1 (fun e9 => n0.out e9.symm)) (And.intro (hg.cell HH.out.2.2.1 (fun e9 => n0.out e9.symm)) (hg.cell HH.out.2.2.2 (fun e9 => n0.out e9.symm)))))
  have W1 := Hn (hg)
  have OW := Hn (ho)
  have HK := Hn ((fun k hk1 => (hk k hk1).imp id (fun h9 => Nat.le_trans BB.out.size h9)))
  clear HH ho hg hk RG
  simp only [Act.put, sA, sB, sC]
  refine hK.out _ _ SN.out (fun hH3 => ?_)
  clear hK K SN
  refine tj 9 pu2o_9 (.pointer (some ⟨d, 0, none⟩)) hH3 (fun w0 hSw => ?_) ?_
  ·(unfold pu2o_9 oO; clear hSw; go_simp)
  simp only [pu2o_9, oO, Act.put, sA, sB, sC]
  refine tj 10 pu2o_10 (.pointer (some ⟨d, 2, none⟩)) hH3 (fun w0 hSw => ?_) ?_
  ·(unfold pu2o_10 oO; clear hSw; go_simp)
  simp only [pu2o_10, oO, Act.put, sA, sB, sC]
  refine tj 11 pu2o_11 (.pointer (some ⟨d, 3, none⟩)) hH3 (fun w0 hSw => ?_) ?_
  ·(unfold pu2o_11 oO; clear hSw; go_simp)
  simp only [pu2o_11, oO, Act.put, sA, sB, sC]
  refine ar [12] ?_
  refine ac pu2o_12 (fun K hK => ?_) AllReadyH.nil
  unfold pu2o_12 oN
  have HH := Hn hH3
  clear hH3
  refine wp_storeV 74 _ _ rfl d 3 p' (n + 1) c' (by rfl) (by rfl) (there_gbO (there_bl th BB.out) W1.out (fun e9 => nb.out e9.symm)) i1_R rfl (fun wn4 hw => ?_)
  have SN := Hn (And.intro ((gb_setCells d [.slice p' (n + 1) c'] 3 _).cell HH.out.1 (fun e9 => m0.out (Option.some.inj e9))) (And.intro ((gb_setCells d [.slice p' (n + 1) c'] 3 _).cell HH.out.2.1 (fun e9 => m0.out (Option.some.inj e9))) (And.intro ((gb_setCells d [.slice p' (n + 1) c'] 3 _).cell HH.out.2.2.1 (fun e9 => m0.out (Option.some.inj e9))) ((gb_setCells d [.slice p' (n + 1) c'] 3 _).cell HH.out.2.2.2 (fun e9 => m0.out (Option.some.inj e9))))))
  have FE := Hn ((⟨_, _, BB.out, W1.out, OW.out, HK.out, hw⟩ : ApQ W _ base d 1 P n c p' c'))
  rw [← hw] at SN
  clear HH hw
  refine hK.out _ _ SN.out (fun hH4 => ?_)
  clear hK K SN
  have HH := Hn hH4
  have FQ := Hn (HQ.out _ tb p' c' FE.out)
  refine wpAnyH_done (by kernel_rfl) ?_ _
  refine NoPanic.normal ?_
  exact FQ.out
 ·unfold pu2o_7 oO
  have HH := Hn hH0
  clear hH0
  refine wp_bs1r _ rfl z rfl (fun tb wn1 hbb hrg => ?_)
  have SN := Hn (And.intro (cell_keep HH.out.1 hbb) (And.intro (cell_keep HH.out.2.1 hbb) (And.intro (cell_keep HH.out.2.2.1 hbb) (cell_keep HH.out.2.2.2 hbb))))
  replace BB := Hn (bl_trans BB.out hbb)
  have RG := Hn (hrg)
  replace CB := Hn (cell_keep CB.out hbb)
  clear HH hbb hrg
  simp only [Act.put, sA, sB, sC]
  refine hK.out _ _ SN.out (fun hH1 => ?_)
  clear hK K SN
  refine ar [5] ?_
  refine ac pu2o_5 (fun K hK => ?_) AllReadyH.nil
  unfold pu2o_5 oO
  have HH := Hn hH1
  clear hH1
  refine wp_ldSr _ rfl d 3 P n c rfl CB.out ?_
  simp only [Act.put, sA, sB, sC]
  have SN := HH
  clear HH
  refine hK.out _ _ SN.out (fun hH2 => ?_)
  clear hK K SN
  refine ar [8] ?_
  refine ac pu2o_8 (fun K hK => ?_) AllReadyH.nil
  unfold pu2o_8 oO
  have HH := Hn hH2
  clear hH2
  refine wp_apR (RO.out.keep BB.out) (Nat.le_trans hb0.out BB.out.size) _ _ rfl rfl tb rfl z RG.out (fun p' c' wn3 ho hg hk => ?_)
  have SN := Hn (And.intro (hg.cell HH.out.1 (fun e9 => n0.out e9.symm)) (And.intro (hg.cell HH.out.2.1 (fun e9 => n0.out e9.symm)) (And.intro (hg.cell HH.out.2.2.1 (fun e9 => n0.out e9.symm)) (hg.cell HH.out.2.2.2 (fun e9 => n0.out e9.symm)))))
  have W1 := Hn (hg)
  have OW := Hn (ho)
  have HK := Hn ((fun k hk1 => (hk k hk1).imp id (fun h9 => Nat.le_trans BB.out.size h9)))
  clear HH ho hg hk RG
  simp only [Act.put, sA, sB, sC]
  refine hK.out _ _ SN.out (fun hH3 => ?_)
  clear hK K SN
  refine tj 9 pu2o_9 (.pointer (some ⟨d, 0, none⟩)) hH3 (fun w0 hSw => ?_) ?_
  ·(unfold pu2o_9 oO; clear hSw; go_simp)
  simp only [pu2o_9, oO, Act.put, sA, sB, sC]
  refine tj 10 pu2o_10 (.pointer (some ⟨d, 2, none⟩)) hH3 (fun w0 hSw => ?_) ?_
  ·(unfold pu2o_10 oO; clear hSw; go_simp)
  simp only [pu2o_10, oO, Act.put, sA, sB, sC]
  refine tj 11 pu2o_11 (.pointer (some ⟨d, 3, none⟩)) hH3 (fun w0 hSw => ?_) ?_
  ·(unfold pu2o_11 oO; clear hSw; go_simp)
  simp only [pu2o_11, oO, Act.put, sA, sB, sC]
  refine ar [12] ?_
  refine ac pu2o_12 (fun K hK => ?_) AllReadyH.nil
  unfold pu2o_12 oN
  have HH := Hn hH3
  clear hH3
  refine wp_storeV 74 _ _ rfl d 3 p' (n + 1) c' (by rfl) (by rfl) (there_gbO (there_bl th BB.out) W1.out (fun e9 => nb.out e9.symm)) i1_R rfl (fun wn4 hw => ?_)
  have SN := Hn (And.intro ((gb_setCells d [.slice p' (n + 1) c'] 3 _).cell HH.out.1 (fun e9 => m0.out (Option.some.inj e9))) (And.intro ((gb_setCells d [.slice p' (n + 1) c'] 3 _).cell HH.out.2.1 (fun e9 => m0.out (Option.some.inj e9))) (And.intro ((gb_setCells d [.slice p' (n + 1) c'] 3 _).cell HH.out.2.2.1 (fun e9 => m0.out (Option.some.inj e9))) ((gb_setCells d [.slice p' (n + 1) c'] 3 _).cell HH.out.2.2.2 (fun e9 => m0.out (Option.some.inj e9))))))
  have FE := Hn ((⟨_, _, BB.out, W1.out, OW.out, HK.out, hw⟩ : ApQ W _ base d 1 P n c p' c'))
  rw [← hw] at SN
  clear HH hw
  refine hK.out _ _ SN.out (fun hH4 => ?_)
  clear hK K SN
  have HH := Hn hH4
  have FQ := Hn (HQ.out _ tb p' c' FE.out)
  refine wpAnyH_done (by kernel_rfl) ?_ _
  refine NoPanic.normal ?_
  exact FQ.out
def pu3o_0 : Oper := oO 32 (Op.move (Operand.tmp 0)) 36 "gadget.go:45" #[]
def pu3o_1 : Oper := oO 33 (Op.move (Operand.tmp 0)) 36 "gadget.go:45" #[]
def pu3o_2 : Oper := oO 34 (Op.nilCheck (Operand.tmp 33)) 0 "gadget.go:45" #[DD 1]
def pu3o_3 : Oper := oO 35 (Op.fieldAddr 85 (Operand.tmp 34) 2) 0 "gadget.go:45" #[DD 2]
def pu3o_4 : Oper := oO 36 (Op.fieldAddr 83 (Operand.tmp 35) 2) 0 "gadget.go:45" #[DD 3]
def pu3o_5 : Oper := oO 37 (Op.load 74 (Operand.tmp 36)) 74 "gadget.go:45" #[DD 4]
def pu3o_6 : Oper := oO 38 (Op.load 107 (Operand.tmp 7)) 107 "gadget.go:45" #[]
def pu3o_7 : Oper := oO 39 (Op.buildSlice 74 1 #[(0, Operand.tmp 38)]) 74 "gadget.go:45" #[DD 6]
def pu3o_8 : Oper := oO 40 (Op.call { callee := Callee.builtin Builtin.append, args := #[Operand.tmp 37, Operand.tmp 39], argTypes := #[74, 74] }) 74 "gadget.go:45" #[DD 5, DD 7]
def pu3o_9 : Oper := oO 41 (Op.nilCheck (Operand.tmp 32)) 0 "gadget.go:45" #[DD 0, PH 0, PH 1, PH 2, PH 3, PH 4, PH 5, PH 6, PH 7, PH 8]
def pu3o_10 : Oper := oO 42 (Op.fieldAddr 85 (Operand.tmp 41) 2) 0 "gadget.go:45" #[DD 9, PH 0, PH 1, PH 2, PH 3, PH 4, PH 5, PH 6, PH 7, PH 8]
def pu3o_11 : Oper := oO 43 (Op.fieldAddr 83 (Operand.tmp 42) 2) 0 "gadget.go:45" #[DD 10, PH 0, PH 1, PH 2, PH 3, PH 4, PH 5, PH 6, PH 7, PH 8]
def pu3o_12 : Oper := oN (Op.store 74 (Operand.tmp 43) (Operand.tmp 40)) "gadget.go:45" #[DD 11, DD 8, CH 8, PH 0, PH 1, PH 2, PH 3, PH 4, PH 5, PH 6, PH 7, PH 8]
def pu3o : Array Oper := #[pu3o_0, pu3o_1, pu3o_2, pu3o_3, pu3o_4, pu3o_5, pu3o_6, pu3o_7, pu3o_8, pu3o_9, pu3o_10, pu3o_11, pu3o_12]
theorem pu3 (Q : Exit → Act → World → Prop) (base d xa n c : Nat) (P : Option Addr) (z : E4) (u1 u2 u3 u4 u5 u6 u8 u9 aa ab ad ae af ag ah ai aj ak al am an ao ap aq au av aw ax ay az aA aB aC aD aE aF aG aH aI aJ aK aL : Value) (W : World)
  (q0 : W.cell? ⟨xa, 0, none⟩ = some (.int .u64 z.x0)) (q1 : W.cell? ⟨xa, 1, none⟩ = some (.int .u64 z.x1)) (q2 : W.cell? ⟨xa, 2, none⟩ = some (.int .u64 z.x2)) (q3 : W.cell? ⟨xa, 3, none⟩ = some (.int .u64 z.x3)) (cb : W.cell? ⟨d, 4, none⟩ = some (.slice P n c)) (RO : Hid (Rr base W (.slice P n c) n)) (hb0 : Hid (base ≤ W.heap.size)) (th : W.there d 4 1) (nb : Hid ((Value.slice P n c).ownBlock ≠ some d)) (n0 : Hid ((Value.slice P n c).ownBlock ≠ some xa)) (m0 : Hid (xa ≠ d))
  (HQ : Hid (∀ (wz : World) (tb : Nat) (p' : Option Addr) (c' : Nat), ApQ W wz base d 2 P n c p' c' → Q .normal ⟨#[.pointer (some ⟨d, 0, none⟩), u1, u2, u3, u4, u5, u6, .pointer (some ⟨xa, 0, none⟩), u8, u9, aa, ab, ad, ae, af, ag, ah, ai, aj, ak, al, am, an, ao, ap, aq, au, av, aw, ax, ay, az, .pointer (some ⟨d, 0, none⟩), .pointer (some ⟨d, 0, none⟩), .pointer (some ⟨d, 0, none⟩), .pointer (some ⟨d, 2, none⟩), .pointer (some ⟨d, 4, none⟩), .slice P n c, .agg #[.int .u64 z.x0, .int .u64 z.x1, .int .u64 z.x2, .int .u64 z.x3], .slice (some ⟨tb, 0, none⟩) 1 1, (.slice p' (n + 1) c'), .pointer (some ⟨d, 0, none⟩), .pointer (some ⟨d, 2, none⟩), .pointer (some ⟨d, 4, none⟩)], []⟩ wz)) : (Code.region 3 pu3o true).wp Tryz.prog Q ⟨#[.pointer (some ⟨d, 0, none⟩), u1, u2, u3, u4, u5, u6, .pointer (some ⟨xa, 0, none⟩), u8, u9, aa, ab, ad, ae, af, ag, ah, ai, aj, ak, al, am, an, ao, ap, aq, au, av, aw, ax, ay, az, aA, aB, aC, aD, aE, aF, aG, aH, aI, aJ, aK, aL], []⟩ W := by
 have BB := Hn (bl_drew W)
 have CB := Hn (cell_keep cb (bl_drew W))
 clear cb
 unfold pu3o
 refine wp_region_noPanic ?_
 refine wp_region_held_drew (S := fun x => x.cell? ⟨xa, 0, none⟩ = some (.int .u64 z.x0) ∧ x.cell? ⟨xa, 1, none⟩ = some (.int .u64 z.x1) ∧ x.cell? ⟨xa, 2, none⟩ = some (.int .u64 z.x2) ∧ x.cell? ⟨xa, 3, none⟩ = some (.int .u64 z.x3)) (by kernel_rfl) (⟨cell_keep q0 (bl_drew W), cell_keep q1 (bl_drew W), cell_keep q2 (bl_drew W), cell_keep q3 (bl_drew W)⟩) (fun hH0 => ?_)
 refine tj 0 pu3o_0 (.pointer (some ⟨d, 0, none⟩)) hH0 (fun w0 hSw => ?_) ?_
 ·(unfold pu3o_0 oO; clear hSw; go_simp)
 simp only [pu3o_0, oO, Act.put, sA, sB, sC]
 refine tj 1 pu3o_1 (.pointer (some ⟨d, 0, none⟩)) hH0 (fun w0 hSw => ?_) ?_
 ·(unfold pu3o_1 oO; clear hSw; go_simp)
 simp only [pu3o_1, oO, Act.put, sA, sB, sC]
 refine tj 6 pu3o_6 (.agg #[.int .u64 z.x0, .int .u64 z.x1, .int .u64 z.x2, .int .u64 z.x3]) hH0 (fun w0 hSw => ?_) ?_
 ·(unfold pu3o_6 oO; have hS : w0.cell? ⟨xa, 0, none⟩ = some (.int .u64 z.x0) ∧ w0.cell? ⟨xa, 1, none⟩ = some (.int .u64 z.x1) ∧ w0.cell? ⟨xa, 2, none⟩ = some (.int .u64 z.x2) ∧ w0.cell? ⟨xa, 3, none⟩ = some (.int .u64 z.x3) := hSw; have a0 := hS.1; have a1 := hS.2.1; have a2 := hS.2.2.1; have a3 := hS.2.2.2; clear hS hSw; go_simp)
 simp only [pu3o_6, oO, Act.put, sA, sB, sC]
 refine tj 2 pu3o_2 (.pointer (some ⟨d, 0, none⟩)) hH0 (fun w0 hSw => ?_) ?_
 ·(unfold pu3o_2 oO; clear hSw; go_simp)
 simp only [pu3o_2, oO, Act.put, sA, sB, sC]
 refine tj 3 pu3o_3 (.pointer (some ⟨d, 2, none⟩)) hH0 (fun w0 hSw => ?_) ?_
 ·(unfold pu3o_3 oO; clear hSw; go_simp)
 simp only [pu3o_3, oO, Act.put, sA, sB, sC]
 refine tj 4 pu3o_4 (.pointer (some ⟨d, 4, none⟩)) hH0 (fun w0 hSw => ?_) ?_
 ·(unfold pu3o_4 oO; clear hSw; go_simp)
 simp only [pu3o_4, oO, Act.put, sA, sB, sC]
 refine ar [5, 7] ?_
 refine ac pu3o_5 (fun K hK => ?_) (ac pu3o_7 (fun K hK => ?_) AllReadyH.nil)
 ·unfold pu3o_5 oO
  have HH := Hn hH0
  clear hH0
  refine wp_ldSr _ rfl d 4 P n c rfl CB.out ?_
  simp only [Act.put, sA, sB, sC]
  have SN := HH
  clear HH
  refine hK.out _ _ SN.out (fun hH1 => ?_)
  clear hK K SN
  refine ar [7] ?_
  refine ac pu3o_7 (fun K hK => ?_) AllReadyH.nil
  unfold pu3o_7 oO
  have HH := Hn hH1
  clear hH1
  refine wp_bs1r _ rfl z rfl (fun tb wn2 hbb hrg => ?_)
  have SN := Hn (And.intro (cell_keep HH.out.1 hbb) (And.intro (cell_keep HH.out.2.1 hbb) (And.intro (cell_keep HH.out.2.2.1 hbb) (cell_keep HH.out.2.2.2 hbb))))
  replace BB := Hn (bl_trans BB.out hbb)
  have RG := Hn (hrg)
  clear HH hbb hrg
  simp only [Act.put, sA, sB, sC]
  refine hK.out _ _ SN.out (fun hH2 => ?_)
  clear hK K SN
  refine ar [8] ?_
  refine ac pu3o_8 (fun K hK => ?_) AllReadyH.nil
  unfold pu3o_8 oO
  have HH := Hn hH2
  clear hH2
  refine wp_apR (RO.out.keep BB.out) (Nat.le_trans hb0.out BB.out.size) _ _ rfl rfl tb rfl z RG.out (fun p' c' wn3 ho hg hk => ?_)
  have SN := Hn (And.intro (hg.cell HH.out.1 (fun e9 => n0.out e9.symm)) (And.intro (hg.cell HH.out.2.1 (fun e9 => n0.out e9.symm)) (And.intro (hg.cell HH.out.2.2.1 (fun e9 => n0.out e9.symm)) (hg.cell HH.out.2.2.2 (fun e9 => n0.out e9.symm)))))
  have W1 := Hn (hg)
  have OW := Hn (ho)
  have HK := Hn ((fun k hk1 => (hk k hk1).imp id (fun h9 => Nat.le_trans BB.out.size h9)))
  clear HH ho hg hk RG
  simp only [Act.put, sA, sB, sC]
  refine hK.out _ _ SN.out (fun hH3 => ?_)
  clear hK K SN
  refine tj 9 pu3o_9 (.pointer (some ⟨d, 0, none⟩)) hH3 (fun w0 hSw => ?_) ?_
  ·(unfold pu3o_9 oO; clear hSw; go_simp)
  simp only [pu3o_9, oO, Act.put, sA, sB, sC]
  refine tj 10 pu3o_10 (.pointer (some ⟨d, 2, none⟩)) hH3 (fun w0 hSw => ?_) ?_
  ·(unfold pu3o_10 oO; clear hSw; go_simp)
  simp only [pu3o_10, oO, Act.put, sA, sB, sC]
  refine tj 11 pu3o_11 (.pointer (some ⟨d, 4, none⟩)) hH3 (fun w0 hSw => ?_) ?_
  ·(unfold pu3o_11 oO; clear hSw; go_simp)
  simp only [pu3o_11, oO, Act.put, sA, sB, sC]
  refine ar [12] ?_
  refine ac pu3o_12 (fun K hK => ?_) AllReadyH.nil
  unfold pu3o_12 oN
  have HH := Hn hH3
  clear hH3
  refine wp_storeV 74 _ _ rfl d 4 p' (n + 1) c' (by rfl) (by rfl) (there_gbO (there_bl th BB.out) W1.out (fun e9 => nb.out e9.symm)) i1_R rfl (fun wn4 hw => ?_)
  have SN := Hn (And.intro ((gb_setCells d [.slice p' (n + 1) c'] 4 _).cell HH.out.1 (fun e9 => m0.out (Option.some.inj e9))) (And.intro ((gb_setCells d [.slice p' (n + 1) c'] 4 _).cell HH.out.2.1 (fun e9 => m0.out (Option.some.inj e9))) (And.intro ((gb_setCells d [.slice p' (n + 1) c'] 4 _).cell HH.out.2.2.1 (fun e9 => m0.out (Option.some.inj e9))) ((gb_setCells d [.slice p' (n + 1) c'] 4 _).cell HH.out.2.2.2 (fun e9 => m0.out (Option.some.inj e9))))))
  have FE := Hn ((⟨_, _, BB.out, W1.out, OW.out, HK.out, hw⟩ : ApQ W _ base d 2 P n c p' c'))
  rw [← hw] at SN
  clear HH hw
  refine hK.out _ _ SN.out (fun hH4 => ?_)
  clear hK K SN
  have HH := Hn hH4
  have FQ := Hn (HQ.out _ tb p' c' FE.out)
  refine wpAnyH_done (by kernel_rfl) ?_ _
  refine NoPanic.normal ?_
  exact FQ.out
 ·unfold pu3o_7 oO
  have HH := Hn hH0
  clear hH0
  refine wp_bs1r _ rfl z rfl (fun tb wn1 hbb hrg => ?_)
  have SN := Hn (And.intro (cell_keep HH.out.1 hbb) (And.intro (cell_keep HH.out.2.1 hbb) (And.intro (cell_keep HH.out.2.2.1 hbb) (cell_keep HH.out.2.2.2 hbb))))
  replace BB := Hn (bl_trans BB.out hbb)
  have RG := Hn (hrg)
  replace CB := Hn (cell_keep CB.out hbb)
  clear HH hbb hrg
  simp only [Act.put, sA, sB, sC]
  refine hK.out _ _ SN.out (fun hH1 => ?_)
  clear hK K SN
  refine ar [5] ?_
  refine ac pu3o_5 (fun K hK => ?_) AllReadyH.nil
  unfold pu3o_5 oO
  have HH := Hn hH1
  clear hH1
  refine wp_ldSr _ rfl d 4 P n c rfl CB.out ?_
  simp only [Act.put, sA, sB, sC]
  have SN := HH
  clear HH
  refine hK.out _ _ SN.out (fun hH2 => ?_)
  clear hK K SN
  refine ar [8] ?_
  refine ac pu3o_8 (fun K hK => ?_) AllReadyH.nil
  unfold pu3o_8 oO
  have HH := Hn hH2
  clear hH2
  refine wp_apR (RO.out.keep BB.out) (Nat.le_trans hb0.out BB.out.size) _ _ rfl rfl tb rfl z RG.out (fun p' c' wn3 ho hg hk => ?_)
  have SN := Hn (And.intro (hg.cell HH.out.1 (fun e9 => n0.out e9.symm)) (And.intro (hg.cell HH.out.2.1 (fun e9 => n0.out e9.symm)) (And.intro (hg.cell HH.out.2.2.1 (fun e9 => n0.out e9.symm)) (hg.cell HH.out.2.2.2 (fun e9 => n0.out e9.symm)))))
  have W1 := Hn (hg)
  have OW := Hn (ho)
  have HK := Hn ((fun k hk1 => (hk k hk1).imp id (fun h9 => Nat.le_trans BB.out.size h9)))
  clear HH ho hg hk RG
  simp only [Act.put, sA, sB, sC]
  refine hK.out _ _ SN.out (fun hH3 => ?_)
  clear hK K SN
  refine tj 9 pu3o_9 (.pointer (some ⟨d, 0, none⟩)) hH3 (fun w0 hSw => ?_) ?_
  ·(unfold pu3o_9 oO; clear hSw; go_simp)
  simp only [pu3o_9, oO, Act.put, sA, sB, sC]
  refine tj 10 pu3o_10 (.pointer (some ⟨d, 2, none⟩)) hH3 (fun w0 hSw => ?_) ?_
  ·(unfold pu3o_10 oO; clear hSw; go_simp)
  simp only [pu3o_10, oO, Act.put, sA, sB, sC]
  refine tj 11 pu3o_11 (.pointer (some ⟨d, 4, none⟩)) hH3 (fun w0 hSw => ?_) ?_
  ·(unfold pu3o_11 oO; clear hSw; go_simp)
  simp only [pu3o_11, oO, Act.put, sA, sB, sC]
  refine ar [12] ?_
  refine ac pu3o_12 (fun K hK => ?_) AllReadyH.nil
  unfold pu3o_12 oN
  have HH := Hn hH3
  clear hH3
  refine wp_storeV 74 _ _ rfl d 4 p' (n + 1) c' (by rfl) (by rfl) (there_gbO (there_bl th BB.out) W1.out (fun e9 => nb.out e9.symm)) i1_R rfl (fun wn4 hw => ?_)
  have SN := Hn (And.intro ((gb_setCells d [.slice p' (n + 1) c'] 4 _).cell HH.out.1 (fun e9 => m0.out (Option.some.inj e9))) (And.intro ((gb_setCells d [.slice p' (n + 1) c'] 4 _).cell HH.out.2.1 (fun e9 => m0.out (Option.some.inj e9))) (And.intro ((gb_setCells d [.slice p' (n + 1) c'] 4 _).cell HH.out.2.2.1 (fun e9 => m0.out (Option.some.inj e9))) ((gb_setCells d [.slice p' (n + 1) c'] 4 _).cell HH.out.2.2.2 (fun e9 => m0.out (Option.some.inj e9))))))
  have FE := Hn ((⟨_, _, BB.out, W1.out, OW.out, HK.out, hw⟩ : ApQ W _ base d 2 P n c p' c'))
  rw [← hw] at SN
  clear HH hw
  refine hK.out _ _ SN.out (fun hH4 => ?_)
  clear hK K SN
  have HH := Hn hH4
  have FQ := Hn (HQ.out _ tb p' c' FE.out)
  refine wpAnyH_done (by kernel_rfl) ?_ _
  refine NoPanic.normal ?_
  exact FQ.out
def kn9o_0 : Oper := oO 31 (Op.move (Operand.tmp 4)) 36 "gadget.go:35" #[]
def kn9o_1 : Oper := oO 32 (Op.move (Operand.tmp 4)) 36 "gadget.go:35" #[]
def kn9o_2 : Oper := oO 33 (Op.nilCheck (Operand.tmp 32)) 0 "gadget.go:35" #[DD 1]
def kn9o_3 : Oper := oO 34 (Op.fieldAddr 85 (Operand.tmp 33) 2) 0 "gadget.go:35" #[DD 2]
def kn9o_4 : Oper := oO 35 (Op.fieldAddr 83 (Operand.tmp 34) 3) 0 "gadget.go:35" #[DD 3]
def kn9o_5 : Oper := oO 36 (Op.load 74 (Operand.tmp 35)) 74 "gadget.go:35" #[DD 4]
def kn9o_6 : Oper := oO 37 (Op.load 107 (Operand.tmp 7)) 107 "gadget.go:35" #[]
def kn9o_7 : Oper := oO 38 (Op.buildSlice 74 1 #[(0, Operand.tmp 37)]) 74 "gadget.go:35" #[DD 6]
def kn9o_8 : Oper := oO 39 (Op.call { callee := Callee.builtin Builtin.append, args := #[Operand.tmp 36, Operand.tmp 38], argTypes := #[74, 74] }) 74 "gadget.go:35" #[DD 5, DD 7]
def kn9o_9 : Oper := oO 40 (Op.nilCheck (Operand.tmp 31)) 0 "gadget.go:35" #[DD 0, PH 0, PH 1, PH 2, PH 3, PH 4, PH 5, PH 6, PH 7, PH 8]
def kn9o_10 : Oper := oO 41 (Op.fieldAddr 85 (Operand.tmp 40) 2) 0 "gadget.go:35" #[DD 9, PH 0, PH 1, PH 2, PH 3, PH 4, PH 5, PH 6, PH 7, PH 8]
def kn9o_11 : Oper := oO 42 (Op.fieldAddr 83 (Operand.tmp 41) 3) 0 "gadget.go:35" #[DD 10, PH 0, PH 1, PH 2, PH 3, PH 4, PH 5, PH 6, PH 7, PH 8]
def kn9o_12 : Oper := oN (Op.store 74 (Operand.tmp 42) (Operand.tmp 39)) "gadget.go:35" #[DD 11, DD 8, CH 8, PH 0, PH 1, PH 2, PH 3, PH 4, PH 5, PH 6, PH 7, PH 8]
def kn9o : Array Oper := #[kn9o_0, kn9o_1, kn9o_2, kn9o_3, kn9o_4, kn9o_5, kn9o_6, kn9o_7, kn9o_8, kn9o_9, kn9o_10, kn9o_11, kn9o_12]
theorem kn9 (Q : Exit → Act → World → Prop) (base d xa n c : Nat) (P : Option Addr) (z : E4) (u0 u1 u2 u3 u5 u6 u8 u9 aa ab ad ae af ag ah ai aj ak al am an ao ap aq au av aw ax ay az aA aB aC aD aE aF aG aH aI aJ aK aL aM aN aO aP aQ : Value) (W : World)
  (q0 : W.cell? ⟨xa, 0, none⟩ = some (.int .u64 z.x0)) (q1 : W.cell? ⟨xa, 1, none⟩ = some (.int .u64 z.x1)) (q2 : W.cell? ⟨xa, 2, none⟩ = some (.int .u64 z.x2)) (q3 : W.cell? ⟨xa, 3, none⟩ = some (.int .u64 z.x3)) (cb : W.cell? ⟨d, 5, none⟩ = some (.slice P n c)) (RO : Hid (Rr base W (.slice P n c) n)) (hb0 : Hid (base ≤ W.heap.size)) (th : W.there d 5 1) (nb : Hid ((Value.slice P n c).ownBlock ≠ some d)) (n0 : Hid ((Value.slice P n c).ownBlock ≠ some xa)) (m0 : Hid (xa ≠ d))
  (HQ : Hid (∀ (wz : World) (tb : Nat) (p' : Option Addr) (c' : Nat), ApQ W wz base d 3 P n c p' c' → Q .normal ⟨#[u0, u1, u2, u3, .pointer (some ⟨d, 0, none⟩), u5, u6, .pointer (some ⟨xa, 0, none⟩), u8, u9, aa, ab, ad, ae, af, ag, ah, ai, aj, ak, al, am, an, ao, ap, aq, au, av, aw, ax, ay, .pointer (some ⟨d, 0, none⟩), .pointer (some ⟨d, 0, none⟩), .pointer (some ⟨d, 0, none⟩), .pointer (some ⟨d, 2, none⟩), .pointer (some ⟨d, 5, none⟩), .slice P n c, .agg #[.int .u64 z.x0, .int .u64 z.x1, .int .u64 z.x2, .int .u64 z.x3], .slice (some ⟨tb, 0, none⟩) 1 1, (.slice p' (n + 1) c'), .pointer (some ⟨d, 0, none⟩), .pointer (some ⟨d, 2, none⟩), .pointer (some ⟨d, 5, none⟩), aL, aM, aN, aO, aP, aQ], []⟩ wz)) : (Code.region 9 kn9o true).wp Tryz.prog Q ⟨#[u0, u1, u2, u3, .pointer (some ⟨d, 0, none⟩), u5, u6, .pointer (some ⟨xa, 0, none⟩), u8, u9, aa, ab, ad, ae, af, ag, ah, ai, aj, ak, al, am, an, ao, ap, aq, au, av, aw, ax, ay, az, aA, aB, aC, aD, aE, aF, aG, aH, aI, aJ, aK, aL, aM, aN, aO, aP, aQ], []⟩ W := by
 have BB := Hn (bl_drew W)
 have CB := Hn (cell_keep cb (bl_drew W))
 clear cb
 unfold kn9o
 refine wp_region_noPanic ?_
 refine wp_region_held_drew (S := fun x => x.cell? ⟨xa, 0, none⟩ = some (.int .u64 z.x0) ∧ x.cell? ⟨xa, 1, none⟩ = some (.int .u64 z.x1) ∧ x.cell? ⟨xa, 2, none⟩ = some (.int .u64 z.x2) ∧ x.cell? ⟨xa, 3, none⟩ = some (.int .u64 z.x3)) (by kernel_rfl) (⟨cell_keep q0 (bl_drew W), cell_keep q1 (bl_drew W), cell_keep q2 (bl_drew W), cell_keep q3 (bl_drew W)⟩) (fun hH0 => ?_)
 refine tj 0 kn9o_0 (.pointer (some ⟨d, 0, none⟩)) hH0 (fun w0 hSw => ?_) ?_
 ·(unfold kn9o_0 oO; clear hSw; go_simp)
 simp only [kn9o_0, oO, Act.put, sA, sB, sC]
 refine tj 1 kn9o_1 (.pointer (some ⟨d, 0, none⟩)) hH0 (fun w0 hSw => ?_) ?_
 ·(unfold kn9o_1 oO; clear hSw; go_simp)
 simp only [kn9o_1, oO, Act.put, sA, sB, sC]
 refine tj 6 kn9o_6 (.agg #[.int .u64 z.x0, .int .u64 z.x1, .int .u64 z.x2, .int .u64 z.x3]) hH0 (fun w0 hSw => ?_) ?_
 ·(unfold kn9o_6 oO; have hS : w0.cell? ⟨xa, 0, none⟩ = some (.int .u64 z.x0) ∧ w0.cell? ⟨xa, 1, none⟩ = some (.int .u64 z.x1) ∧ w0.cell? ⟨xa, 2, none⟩ = some (.int .u64 z.x2) ∧ w0.cell? ⟨xa, 3, none⟩ = some (.int .u64 z.x3) := hSw; have a0 := hS.1; have a1 := hS.2.1; have a2 := hS.2.2.1; have a3 := hS.2.2.2; clear hS hSw; go_simp)
 simp only [kn9o_6, oO, Act.put, sA, sB, sC]
 refine tj 2 kn9o_2 (.pointer (some ⟨d, 0, none⟩)) hH0 (fun w0 hSw => ?_) ?_
 ·(unfold kn9o_2 oO; clear hSw; go_simp)
 simp only [kn9o_2, oO, Act.put, sA, sB, sC]
 refine tj 3 kn9o_3 (.pointer (some ⟨d, 2, none⟩)) hH0 (fun w0 hSw => ?_) ?_
 ·(unfold kn9o_3 oO; clear hSw; go_simp)
 simp only [kn9o_3, oO, Act.put, sA, sB, sC]
 refine tj 4 kn9o_4 (.pointer (some ⟨d, 5, none⟩)) hH0 (fun w0 hSw => ?_) ?_
 ·(unfold kn9o_4 oO; clear hSw; go_simp)
 simp only [kn9o_4, oO, Act.put, sA, sB, sC]
 refine ar [5, 7] ?_
 refine ac kn9o_5 (fun K hK => ?_) (ac kn9o_7 (fun K hK => ?_) AllReadyH.nil)
 ·unfold kn9o_5 oO
  have HH := Hn hH0
  clear hH0
  refine wp_ldSr _ rfl d 5 P n c rfl CB.out ?_
  simp only [Act.put, sA, sB, sC]
  have SN := HH
  clear HH
  refine hK.out _ _ SN.out (fun hH1 => ?_)
  clear hK K SN
  refine ar [7] ?_
  refine ac kn9o_7 (fun K hK => ?_) AllReadyH.nil
  unfold kn9o_7 oO
  have HH := Hn hH1
  clear hH1
  refine wp_bs1r _ rfl z rfl (fun tb wn2 hbb hrg => ?_)
  have SN := Hn (And.intro (cell_keep HH.out.1 hbb) (And.intro (cell_keep HH.out.2.1 hbb) (And.intro (cell_keep HH.out.2.2.1 hbb) (cell_keep HH.out.2.2.2 hbb))))
  replace BB := Hn (bl_trans BB.out hbb)
  have RG := Hn (hrg)
  clear HH hbb hrg
  simp only [Act.put, sA, sB, sC]
  refine hK.out _ _ SN.out (fun hH2 => ?_)
  clear hK K SN
  refine ar [8] ?_
  refine ac kn9o_8 (fun K hK => ?_) AllReadyH.nil
  unfold kn9o_8 oO
  have HH := Hn hH2
  clear hH2
  refine wp_apR (RO.out.keep BB.out) (Nat.le_trans hb0.out BB.out.size) _ _ rfl rfl tb rfl z RG.out (fun p' c' wn3 ho hg hk => ?_)
  have SN := Hn (And.intro (hg.cell HH.out.1 (fun e9 => n0.out e9.symm)) (And.intro (hg.cell HH.out.2.1 (fun e9 => n0.out e9.symm)) (And.intro (hg.cell HH.out.2.2.1 (fun e9 => n0.out e9.symm)) (hg.cell HH.out.2.2.2 (fun e9 => n0.out e9.symm)))))
  have W1 := Hn (hg)
  have OW := Hn (ho)
  have HK := Hn ((fun k hk1 => (hk k hk1).imp id (fun h9 => Nat.le_trans BB.out.size h9)))
  clear HH ho hg hk RG
  simp only [Act.put, sA, sB, sC]
  refine hK.out _ _ SN.out (fun hH3 => ?_)
  clear hK K SN
  refine tj 9 kn9o_9 (.pointer (some ⟨d, 0, none⟩)) hH3 (fun w0 hSw => ?_) ?_
  ·(unfold kn9o_9 oO; clear hSw; go_simp)
  simp only [kn9o_9, oO, Act.put, sA, sB, sC]
  refine tj 10 kn9o_10 (.pointer (some ⟨d, 2, none⟩)) hH3 (fun w0 hSw => ?_) ?_
  ·(unfold kn9o_10 oO; clear hSw; go_simp)
  simp only [kn9o_10, oO, Act.put, sA, sB, sC]
  refine tj 11 kn9o_11 (.pointer (some ⟨d, 5, none⟩)) hH3 (fun w0 hSw => ?_) ?_
  ·(unfold kn9o_11 oO; clear hSw; go_simp)
  simp only [kn9o_11, oO, Act.put, sA, sB, sC]
  refine ar [12] ?_
  refine ac kn9o_12 (fun K hK => ?_) AllReadyH.nil
  unfold kn9o_12 oN
  have HH := Hn hH3
  clear hH3
  refine wp_storeV 74 _ _ rfl d 5 p' (n + 1) c' (by rfl) (by rfl) (there_gbO (there_bl th BB.out) W1.out (fun e9 => nb.out e9.symm)) i1_R rfl (fun wn4 hw => ?_)
  have SN := Hn (And.intro ((gb_setCells d [.slice p' (n + 1) c'] 5 _).cell HH.out.1 (fun e9 => m0.out (Option.some.inj e9))) (And.intro ((gb_setCells d [.slice p' (n + 1) c'] 5 _).cell HH.out.2.1 (fun e9 => m0.out (Option.some.inj e9))) (And.intro ((gb_setCells d [.slice p' (n + 1) c'] 5 _).cell HH.out.2.2.1 (fun e9 => m0.out (Option.some.inj e9))) ((gb_setCells d [.slice p' (n + 1) c'] 5 _).cell HH.out.2.2.2 (fun e9 => m0.out (Option.some.inj e9))))))
  have FE := Hn ((⟨_, _, BB.out, W1.out, OW.out, HK.out, hw⟩ : ApQ W _ base d 3 P n c p' c'))
  rw [← hw] at SN
  clear HH hw
  refine hK.out _ _ SN.out (fun hH4 => ?_)
  clear hK K SN
  have HH := Hn hH4
  have FQ := Hn (HQ.out _ tb p' c' FE.out)
  refine wpAnyH_done (by kernel_rfl) ?_ _
  refine NoPanic.normal ?_
  exact FQ.out
 ·unfold kn9o_7 oO
  have HH := Hn hH0
  clear hH0
  refine wp_bs1r _ rfl z rfl (fun tb wn1 hbb hrg => ?_)
  have SN := Hn (And.intro (cell_keep HH.out.1 hbb) (And.intro (cell_keep HH.out.2.1 hbb) (And.intro (cell_keep HH.out.2.2.1 hbb) (cell_keep HH.out.2.2.2 hbb))))
  replace BB := Hn (bl_trans BB.out hbb)
  have RG := Hn (hrg)
  replace CB := Hn (cell_keep CB.out hbb)
  clear HH hbb hrg
  simp only [Act.put, sA, sB, sC]
  refine hK.out _ _ SN.out (fun hH1 => ?_)
  clear hK K SN
  refine ar [5] ?_
  refine ac kn9o_5 (fun K hK => ?_) AllReadyH.nil
  unfold kn9o_5 oO
  have HH := Hn hH1
  clear hH1
  refine wp_ldSr _ rfl d 5 P n c rfl CB.out ?_
  simp only [Act.put, sA, sB, sC]
  have SN := HH
  clear HH
  refine hK.out _ _ SN.out (fun hH2 => ?_)
  clear hK K SN
  refine ar [8] ?_
  refine ac kn9o_8 (fun K hK => ?_) AllReadyH.nil
  unfold kn9o_8 oO
  have HH := Hn hH2
  clear hH2
  refine wp_apR (RO.out.keep BB.out) (Nat.le_trans hb0.out BB.out.size) _ _ rfl rfl tb rfl z RG.out (fun p' c' wn3 ho hg hk => ?_)
  have SN := Hn (And.intro (hg.cell HH.out.1 (fun e9 => n0.out e9.symm)) (And.intro (hg.cell HH.out.2.1 (fun e9 => n0.out e9.symm)) (And.intro (hg.cell HH.out.2.2.1 (fun e9 => n0.out e9.symm)) (hg.cell HH.out.2.2.2 (fun e9 => n0.out e9.symm)))))
  have W1 := Hn (hg)
  have OW := Hn (ho)
  have HK := Hn ((fun k hk1 => (hk k hk1).imp id (fun h9 => Nat.le_trans BB.out.size h9)))
  clear HH ho hg hk RG
  simp only [Act.put, sA, sB, sC]
  refine hK.out _ _ SN.out (fun hH3 => ?_)
  clear hK K SN
  refine tj 9 kn9o_9 (.pointer (some ⟨d, 0, none⟩)) hH3 (fun w0 hSw => ?_) ?_
  ·(unfold kn9o_9 oO; clear hSw; go_simp)
  simp only [kn9o_9, oO, Act.put, sA, sB, sC]
  refine tj 10 kn9o_10 (.pointer (some ⟨d, 2, none⟩)) hH3 (fun w0 hSw => ?_) ?_
  ·(unfold kn9o_10 oO; clear hSw; go_simp)
  simp only [kn9o_10, oO, Act.put, sA, sB, sC]
  refine tj 11 kn9o_11 (.pointer (some ⟨d, 5, none⟩)) hH3 (fun w0 hSw => ?_) ?_
  ·(unfold kn9o_11 oO; clear hSw; go_simp)
  simp only [kn9o_11, oO, Act.put, sA, sB, sC]
  refine ar [12] ?_
  refine ac kn9o_12 (fun K hK => ?_) AllReadyH.nil
  unfold kn9o_12 oN
  have HH := Hn hH3
  clear hH3
  refine wp_storeV 74 _ _ rfl d 5 p' (n + 1) c' (by rfl) (by rfl) (there_gbO (there_bl th BB.out) W1.out (fun e9 => nb.out e9.symm)) i1_R rfl (fun wn4 hw => ?_)
  have SN := Hn (And.intro ((gb_setCells d [.slice p' (n + 1) c'] 5 _).cell HH.out.1 (fun e9 => m0.out (Option.some.inj e9))) (And.intro ((gb_setCells d [.slice p' (n + 1) c'] 5 _).cell HH.out.2.1 (fun e9 => m0.out (Option.some.inj e9))) (And.intro ((gb_setCells d [.slice p' (n + 1) c'] 5 _).cell HH.out.2.2.1 (fun e9 => m0.out (Option.some.inj e9))) ((gb_setCells d [.slice p' (n + 1) c'] 5 _).cell HH.out.2.2.2 (fun e9 => m0.out (Option.some.inj e9))))))
  have FE := Hn ((⟨_, _, BB.out, W1.out, OW.out, HK.out, hw⟩ : ApQ W _ base d 3 P n c p' c'))
  rw [← hw] at SN
  clear HH hw
  refine hK.out _ _ SN.out (fun hH4 => ?_)
  clear hK K SN
  have HH := Hn hH4
  have FQ := Hn (HQ.out _ tb p' c' FE.out)
  refine wpAnyH_done (by kernel_rfl) ?_ _
  refine NoPanic.normal ?_
  exact FQ.out
end Ci
end Go.Proofs.YtebmaneogekhjaaGreatDoor
namespace Go.Proofs.YtebmaneogekhjaaGreatDoor
open Go.RowKit
set_option linter.unusedVariables false
set_option linter.unusedSimpArgs false
open Cm (Wr Tm co bf Ls lf ins Eqm)
namespace Ci
set_option maxRecDepth 100000
set_option maxHeartbeats 16000000
structure Kd (base d : Nat) (sv : Value) (t : Bool) (V : Nat → Value) (n : Nat → Nat) (x : World) : Prop where
 hd : x.heap[d]? = some (.cells #[.bool t, sv, V 0, V 1, V 2, V 3] 85 (0, 0))
 rw : ∀ j, j < 4 → Rr base x (V j) (n j)
 dj : ∀ i j, i < 4 → j < 4 → i ≠ j → Dj (V i) (V j)
 lb : base ≤ d
def Fa (d : Nat) (V : Nat → Value) (k : Nat) (x : World) : Prop := k < x.heap.size ∧ k ≠ d ∧ ∀ j, j < 4 → (V j).ownBlock ≠ some k
def Bq (w : World) (b : Nat) (z : E4) : Prop := w.heap[b]? = some (.cells #[.int .u64 z.x0, .int .u64 z.x1, .int .u64 z.x2, .int .u64 z.x3] 107 (0, 0))
theorem Bq.c {w : World} {b : Nat} {z : E4} (h : Bq w b z) (j : Nat) : w.cell? ⟨b, j, none⟩ = (#[.int .u64 z.x0, .int .u64 z.x1, .int .u64 z.x2, .int .u64 z.x3] : Array Value)[j]? := cell_of_row w b j _ _ (0, 0) h
theorem Bq.keep {x y : World} {b : Nat} {z : E4} (h : Bq x b z) (hb : Below x.heap.size x y) : Bq y b z := (hb.block b (Array.getElem?_eq_some_iff.1 h).1).trans h
def upV (V : Nat → Value) (j : Nat) (v : Value) : Nat → Value := fun i => if i = j then v else V i
def upN (n : Nat → Nat) (j : Nat) : Nat → Nat := fun i => if i = j then n j + 1 else n i
section
variable {base d j c c' k : Nat} {sv : Value} {t : Bool} {V : Nat → Value} {n : Nat → Nat} {x y wz : World} {P P' : Option Addr} {z : E4}
theorem Kd.sh (h : Kd base d sv t V n x) (hj : j < 4) : ∃ P c, V j = .slice P (n j) c := by
 obtain ⟨xs, h1, -⟩ := h.rw j hj
 rcases h1.2 with ⟨e1, e2⟩ | ⟨g, c, cur, e1, _⟩
 ·exact ⟨none, 0, by rw [e1, e2]⟩
 ·exact ⟨_, _, e1⟩
theorem Kd.keep (h : Kd base d sv t V n x) (hb : Below x.heap.size x y) : Kd base d sv t V n y := ⟨(hb.block d (Array.getElem?_eq_some_iff.1 h.hd).1).trans h.hd, fun j hj => (h.rw j hj).keep hb, h.dj, h.lb⟩
theorem Fa.keep (h : Fa d V k x) (hb : Below x.heap.size x y) : Fa d V k y := ⟨Nat.lt_of_lt_of_le h.1 hb.size, h.2⟩
theorem Kd.nd (h : Kd base d sv t V n x) (hj : j < 4) : (V j).ownBlock ≠ some d := by
 obtain ⟨xs, h1, -⟩ := h.rw j hj
 exact box_kd h1 h.hd (by decide)
theorem Kd.ap (h : Kd base d sv t V n x) (hj : j < 4) (hV : V j = .slice P (n j) c) (A : ApQ x wz base d j P (n j) c P' c') (hn : n j + 1 ≤ 100000) (hb : base ≤ x.heap.size) : Kd base d sv t (upV V j (.slice P' (n j + 1) c')) (upN n j) wz ∧ Below base x wz ∧ ∀ k, Fa d V k x → Fa d (upV V j (.slice P' (n j + 1) c')) k wz ∧ wz.heap[k]? = x.heap[k]? := by
 obtain ⟨w1, w2, b1, g2, ⟨ys, ow⟩, hk, rfl⟩ := A
 rw [← hV] at g2 hk
 have nd := h.nd hj
 have hd1 : w1.heap[d]? = _ := (b1.block d (Array.getElem?_eq_some_iff.1 h.hd).1).trans h.hd
 have hd2 : w2.heap[d]? = _ := (g2.block d (Array.getElem?_eq_some_iff.1 hd1).1 (fun e => nd e.symm)).trans hd1
 have gs : w2.grownBy (w2.setCells d (2 + j) [.slice P' (n j + 1) c']) (some d) := gb_setCells d _ _ w2
 have hd3 := heap_setCell_same w2 d (2 + j) _ 85 (.slice P' (n j + 1) c') hd2
 obtain ⟨xs, hxs, hnj⟩ := h.rw j hj
 have rj := own_keepT hxs b1
 refine ⟨⟨?_, fun i hi => ?_, fun i i' hi hi' hne => ?_, h.lb⟩, ?_, fun k hf => ?_⟩
 ·show (w2.setCell ⟨d, 2 + j, none⟩ _).heap[d]? = _
  rw [hd3]
  match j, hj with
  | 0, _ => rfl
  | 1, _ => rfl
  | 2, _ => rfl
  | 3, _ => rfl
 ·unfold upV upN
  by_cases e : i = j
  ·rw [if_pos e, if_pos e]
   exact ⟨_, own_setK2 ow gs hd2 (by decide), hn⟩
  ·rw [if_neg e, if_neg e]
   obtain ⟨zs, h1, h2⟩ := h.rw i hi
   exact ⟨zs, own_setK2 (own_gbK (own_keepT h1 b1) g2 (fun k hk1 e9 => h.dj i j hi hj e k e9 hk1)) gs hd2 (by decide), h2⟩
 ·unfold upV
  have new : ∀ q, q < 4 → q ≠ j → Dj (.slice P' (n j + 1) c') (V q) := fun q hq hqj k1 e1 e2 => by
   rcases hk k1 e1 with e3 | e3
   ·exact h.dj j q hj hq (fun e => hqj e.symm) k1 e3 e2
   ·obtain ⟨zs, h1, _⟩ := h.rw q hq
    have := (h1.lt k1 e2).2
    omega
  by_cases e : i = j
  ·rw [if_pos e, if_neg (fun e2 => hne (e.trans e2.symm))]
   exact new i' hi' (fun e2 => hne (e.trans e2.symm))
  ·by_cases e2 : i' = j
   ·rw [if_neg e, if_pos e2]
    exact (new i hi e).symm
   ·rw [if_neg e, if_neg e2]
    exact h.dj i i' hi hi' hne
 ·exact below_tr (b1.mono hb) (below_tr (below_grown g2 (Nat.le_trans hb b1.size) (fun k hk1 => (rj.lt k hk1).1)) (below_grown gs (Nat.le_trans hb (Nat.le_trans b1.size g2.size)) (fun k hk1 => by rw [← Option.some.inj hk1]; exact h.lb)))
 ·have k1 : k < w1.heap.size := Nat.lt_of_lt_of_le hf.1 b1.size
  have k2 : k < w2.heap.size := Nat.lt_of_lt_of_le k1 g2.size
  refine ⟨⟨Nat.lt_of_lt_of_le k2 gs.size, hf.2.1, fun i hi => ?_⟩, (gs.block k k2 (fun e => hf.2.1 (Option.some.inj e))).trans ((g2.block k k1 (fun e => hf.2.2 j hj e.symm)).trans (b1.block k hf.1))⟩
  unfold upV
  by_cases e : i = j
  ·rw [if_pos e]
   intro e9
   rcases hk k e9 with e3 | e3
   ·exact hf.2.2 j hj e3
   ·have := hf.1; omega
  ·rw [if_neg e]
   exact hf.2.2 i hi
def PtP (base d : Nat) (sv : Value) (t : Bool) (n : Nat → Nat) (x : World) (e : Ending) (w' : World) : Prop := e = .returned (.tuple #[]) ∧ ∃ V' n', Kd base d sv t V' n' w' ∧ Below base x w' ∧ ∀ j, j < 4 → n' j ≤ n j + 1
theorem bq_three (x : World) (l r o : E4) : Bq (((x.alloc (.cells #[.int .u64 l.x0, .int .u64 l.x1, .int .u64 l.x2, .int .u64 l.x3] 107)).alloc (.cells #[.int .u64 r.x0, .int .u64 r.x1, .int .u64 r.x2, .int .u64 r.x3] 107)).alloc (.cells #[.int .u64 o.x0, .int .u64 o.x1, .int .u64 o.x2, .int .u64 o.x3] 107)) x.heap.size l ∧ Bq (((x.alloc (.cells #[.int .u64 l.x0, .int .u64 l.x1, .int .u64 l.x2, .int .u64 l.x3] 107)).alloc (.cells #[.int .u64 r.x0, .int .u64 r.x1, .int .u64 r.x2, .int .u64 r.x3] 107)).alloc (.cells #[.int .u64 o.x0, .int .u64 o.x1, .int .u64 o.x2, .int .u64 o.x3] 107)) (x.heap.size + 1) r ∧ Bq (((x.alloc (.cells #[.int .u64 l.x0, .int .u64 l.x1, .int .u64 l.x2, .int .u64 l.x3] 107)).alloc (.cells #[.int .u64 r.x0, .int .u64 r.x1, .int .u64 r.x2, .int .u64 r.x3] 107)).alloc (.cells #[.int .u64 o.x0, .int .u64 o.x1, .int .u64 o.x2, .int .u64 o.x3] 107)) (x.heap.size + 1 + 1) o := by
 have e1 : (x.alloc (.cells #[.int .u64 l.x0, .int .u64 l.x1, .int .u64 l.x2, .int .u64 l.x3] 107)).heap.size = x.heap.size + 1 := by simp
 have e2 : ((x.alloc (.cells #[.int .u64 l.x0, .int .u64 l.x1, .int .u64 l.x2, .int .u64 l.x3] 107)).alloc (.cells #[.int .u64 r.x0, .int .u64 r.x1, .int .u64 r.x2, .int .u64 r.x3] 107)).heap.size = x.heap.size + 1 + 1 := by simp
 refine ⟨Bq.keep (x := (x.alloc (.cells #[.int .u64 l.x0, .int .u64 l.x1, .int .u64 l.x2, .int .u64 l.x3] 107))) (heap_alloc_new _ _) (bl_trans (bl_alloc _ _) (bl_alloc _ _)), Bq.keep (x := ((x.alloc (.cells #[.int .u64 l.x0, .int .u64 l.x1, .int .u64 l.x2, .int .u64 l.x3] 107)).alloc (.cells #[.int .u64 r.x0, .int .u64 r.x1, .int .u64 r.x2, .int .u64 r.x3] 107))) ?_ (bl_alloc _ _), ?_⟩
 ·rw [← e1]; exact heap_alloc_new _ _
 ·rw [← e2]; exact heap_alloc_new _ _
theorem dput_any (h : Kd base d sv t V n x) (hb : base ≤ x.heap.size) (hn : ∀ j, j < 4 → n j ≤ 1000) (l r o : E4) :
  Calls Tryz.prog 64 #[.pointer (some ⟨d, 0, none⟩), .agg #[.int .u64 l.x0, .int .u64 l.x1, .int .u64 l.x2, .int .u64 l.x3], .agg #[.int .u64 r.x0, .int .u64 r.x1, .int .u64 r.x2, .int .u64 r.x3], .agg #[.int .u64 o.x0, .int .u64 o.x1, .int .u64 o.x2, .int .u64 o.x3]] x fun e w' => PtP base d sv t n x e w' := by
 have BL := bl_alloc3 x (.cells #[.int .u64 l.x0, .int .u64 l.x1, .int .u64 l.x2, .int .u64 l.x3] 107) (.cells #[.int .u64 r.x0, .int .u64 r.x1, .int .u64 r.x2, .int .u64 r.x3] 107) (.cells #[.int .u64 o.x0, .int .u64 o.x1, .int .u64 o.x2, .int .u64 o.x3] 107)
 have K0 := Hn (h.keep BL)
 have B0 := Hn (BL.mono hb)
 have BQ := Hn (bq_three x l r o)
 have fa : ∀ k, x.heap.size ≤ k → k < (((x.alloc (.cells #[.int .u64 l.x0, .int .u64 l.x1, .int .u64 l.x2, .int .u64 l.x3] 107)).alloc (.cells #[.int .u64 r.x0, .int .u64 r.x1, .int .u64 r.x2, .int .u64 r.x3] 107)).alloc (.cells #[.int .u64 o.x0, .int .u64 o.x1, .int .u64 o.x2, .int .u64 o.x3] 107)).heap.size → Fa d V k (((x.alloc (.cells #[.int .u64 l.x0, .int .u64 l.x1, .int .u64 l.x2, .int .u64 l.x3] 107)).alloc (.cells #[.int .u64 r.x0, .int .u64 r.x1, .int .u64 r.x2, .int .u64 r.x3] 107)).alloc (.cells #[.int .u64 o.x0, .int .u64 o.x1, .int .u64 o.x2, .int .u64 o.x3] 107)) := fun k h1 h2 => ⟨h2, fun e => by have := (Array.getElem?_eq_some_iff.1 h.hd).1; omega, fun j hj e => by
  obtain ⟨xs, h3, _⟩ := h.rw j hj
  have := (h3.lt k e).2
  omega⟩
 have s3 : (((x.alloc (.cells #[.int .u64 l.x0, .int .u64 l.x1, .int .u64 l.x2, .int .u64 l.x3] 107)).alloc (.cells #[.int .u64 r.x0, .int .u64 r.x1, .int .u64 r.x2, .int .u64 r.x3] 107)).alloc (.cells #[.int .u64 o.x0, .int .u64 o.x1, .int .u64 o.x2, .int .u64 o.x3] 107)).heap.size = x.heap.size + 3 := by simp
 have FA := Hn (And.intro (fa x.heap.size (Nat.le_refl _) (by omega)) (And.intro (fa (x.heap.size + 1) (by omega) (by omega)) (fa (x.heap.size + 1 + 1) (by omega) (by omega))))
 have HN := Hn hn
 have HB : Hid (base ≤ (((x.alloc (.cells #[.int .u64 l.x0, .int .u64 l.x1, .int .u64 l.x2, .int .u64 l.x3] 107)).alloc (.cells #[.int .u64 r.x0, .int .u64 r.x1, .int .u64 r.x2, .int .u64 r.x3] 107)).alloc (.cells #[.int .u64 o.x0, .int .u64 o.x1, .int .u64 o.x2, .int .u64 o.x3] 107)).heap.size) := Hn (by omega)
 clear h BL fa s3 hn
 go_enter Tryz.func64, Tryz.ntmps64
 go_upto_region 1 with fail
 obtain ⟨x1, hx1⟩ : ∃ x1, (((x.alloc (.cells #[.int .u64 l.x0, .int .u64 l.x1, .int .u64 l.x2, .int .u64 l.x3] 107)).alloc (.cells #[.int .u64 r.x0, .int .u64 r.x1, .int .u64 r.x2, .int .u64 r.x3] 107)).alloc (.cells #[.int .u64 o.x0, .int .u64 o.x1, .int .u64 o.x2, .int .u64 o.x3] 107)) = x1 := ⟨_, rfl⟩
 obtain ⟨xa, hxa⟩ : ∃ xa, x.heap.size = xa := ⟨_, rfl⟩
 rw [hx1] at K0 B0 BQ FA HB ⊢
 rw [hxa] at BQ FA
 simp only [hxa]
 clear hx1
 obtain ⟨P0, c0, hv0⟩ := K0.out.sh (j := 0) (by omega)
 refine pu1 _ base d (xa) _ c0 P0 l _ _ _ _ _ _ _ _ _ _ _ _ _ _ _ _ _ _ _ _ _ _ _ _ _ _ _ _ _ _ _ _ _ _ _ _ _ _ _ _ _ _ x1 (BQ.out.1.c 0) (BQ.out.1.c 1) (BQ.out.1.c 2) (BQ.out.1.c 3) (by rw [cell_of_row x1 d 2 _ _ (0, 0) K0.out.hd, ← hv0]; rfl) (Hn (by rw [← hv0]; exact K0.out.rw 0 (by omega))) HB (there_arr K0.out.hd (by simp)) (Hn (by rw [← hv0]; exact K0.out.nd (by omega))) (Hn (by rw [← hv0]; exact FA.out.1.2.2 0 (by omega))) (Hn FA.out.1.2.1) (Hn ?_)
 intro x2 tb0 p0 d0 hA
 obtain ⟨k0, b0, f0⟩ := K0.out.ap (j := 0) (by omega) hv0 hA (show n 0 + 1 ≤ 100000 by have := HN.out 0 (by omega); omega) HB.out
 have K1 := Hn k0
 replace B0 := Hn (below_tr B0.out b0)
 replace BQ := Hn (And.intro (show Bq x2 xa l from (f0 _ FA.out.1).2.trans BQ.out.1) (And.intro (show Bq x2 (xa + 1) r from (f0 _ FA.out.2.1).2.trans BQ.out.2.1) (show Bq x2 (xa + 1 + 1) o from (f0 _ FA.out.2.2).2.trans BQ.out.2.2)))
 replace FA := Hn (And.intro (f0 _ FA.out.1).1 (And.intro (f0 _ FA.out.2.1).1 (f0 _ FA.out.2.2).1))
 replace HB := Hn (Nat.le_trans HB.out b0.size)
 clear hA k0 b0 f0 K0 hv0
 go_upto_region 2 with fail
 obtain ⟨P1, c1, hv1⟩ := K1.out.sh (j := 1) (by omega)
 refine pu2 _ base d (xa + 1) _ c1 P1 r _ _ _ _ _ _ _ _ _ _ _ _ _ _ _ _ _ _ _ _ _ _ _ _ _ _ _ _ _ _ _ _ _ _ _ _ _ _ _ _ _ _ x2 (BQ.out.2.1.c 0) (BQ.out.2.1.c 1) (BQ.out.2.1.c 2) (BQ.out.2.1.c 3) (by rw [cell_of_row x2 d 3 _ _ (0, 0) K1.out.hd, ← hv1]; rfl) (Hn (by rw [← hv1]; exact K1.out.rw 1 (by omega))) HB (there_arr K1.out.hd (by simp)) (Hn (by rw [← hv1]; exact K1.out.nd (by omega))) (Hn (by rw [← hv1]; exact FA.out.2.1.2.2 1 (by omega))) (Hn FA.out.2.1.2.1) (Hn ?_)
 intro x3 tb1 p1 d1 hA
 obtain ⟨k1, b1, f1⟩ := K1.out.ap (j := 1) (by omega) hv1 hA (show n 1 + 1 ≤ 100000 by have := HN.out 1 (by omega); omega) HB.out
 have K2 := Hn k1
 replace B0 := Hn (below_tr B0.out b1)
 replace BQ := Hn (And.intro (show Bq x3 xa l from (f1 _ FA.out.1).2.trans BQ.out.1) (And.intro (show Bq x3 (xa + 1) r from (f1 _ FA.out.2.1).2.trans BQ.out.2.1) (show Bq x3 (xa + 1 + 1) o from (f1 _ FA.out.2.2).2.trans BQ.out.2.2)))
 replace FA := Hn (And.intro (f1 _ FA.out.1).1 (And.intro (f1 _ FA.out.2.1).1 (f1 _ FA.out.2.2).1))
 replace HB := Hn (Nat.le_trans HB.out b1.size)
 clear hA k1 b1 f1 K1 hv1
 go_upto_region 3 with fail
 obtain ⟨P2, c2, hv2⟩ := K2.out.sh (j := 2) (by omega)
 refine pu3 _ base d (xa + 1 + 1) _ c2 P2 o _ _ _ _ _ _ _ _ _ _ _ _ _ _ _ _ _ _ _ _ _ _ _ _ _ _ _ _ _ _ _ _ _ _ _ _ _ _ _ _ _ _ x3 (BQ.out.2.2.c 0) (BQ.out.2.2.c 1) (BQ.out.2.2.c 2) (BQ.out.2.2.c 3) (by rw [cell_of_row x3 d 4 _ _ (0, 0) K2.out.hd, ← hv2]; rfl) (Hn (by rw [← hv2]; exact K2.out.rw 2 (by omega))) HB (there_arr K2.out.hd (by simp)) (Hn (by rw [← hv2]; exact K2.out.nd (by omega))) (Hn (by rw [← hv2]; exact FA.out.2.2.2.2 2 (by omega))) (Hn FA.out.2.2.2.1) (Hn ?_)
 intro x4 tb2 p2 d2 hA
 obtain ⟨k2, b2, f2⟩ := K2.out.ap (j := 2) (by omega) hv2 hA (show n 2 + 1 ≤ 100000 by have := HN.out 2 (by omega); omega) HB.out
 have K3 := Hn k2
 replace B0 := Hn (below_tr B0.out b2)
 replace BQ := Hn (And.intro (show Bq x4 xa l from (f2 _ FA.out.1).2.trans BQ.out.1) (And.intro (show Bq x4 (xa + 1) r from (f2 _ FA.out.2.1).2.trans BQ.out.2.1) (show Bq x4 (xa + 1 + 1) o from (f2 _ FA.out.2.2).2.trans BQ.out.2.2)))
 replace FA := Hn (And.intro (f2 _ FA.out.1).1 (And.intro (f2 _ FA.out.2.1).1 (f2 _ FA.out.2.2).1))
 replace HB := Hn (Nat.le_trans HB.out b2.size)
 clear hA k2 b2 f2 K2 hv2
 go_wp2_with fail
 exact bodyPost_end (v := .tuple #[]) (by simp [results, Tryz.results64, go_sem]) rfl ⟨rfl, _, _, K3.out, B0.out, fun j hj => by
  have h4 : j = 0 ∨ j = 1 ∨ j = 2 ∨ j = 3 := by omega
  rcases h4 with rfl | rfl | rfl | rfl <;> simp [upN]⟩
end
end Ci
end Go.Proofs.YtebmaneogekhjaaGreatDoor
