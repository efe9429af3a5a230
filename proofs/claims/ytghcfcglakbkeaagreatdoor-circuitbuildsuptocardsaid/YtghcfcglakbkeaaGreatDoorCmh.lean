import Derived.Test.YtghcfcglakbkeaaGreatDoorCmg
namespace Go.Proofs.YtghcfcglakbkeaaGreatDoor
set_option maxRecDepth 100000
set_option maxHeartbeats 16000000
open Go.RowKit
set_option linter.unusedVariables false
set_option linter.unusedSimpArgs false
open Cm (Wr Tm co bf Ls lf ins Eqm)
namespace Ci
theorem L0 : (0 : Int) < Sm.L := by decide
def Sq (w : World) (b : Nat) (X : List Tm) (v : Value) (w' : World) : Prop := w'.ownsRow w.heap.size 123 6 v X.length (tls X) ∧ Mp w' b [] ∧ w.grownBy w' (some b) ∧ Ls Sm.L X
def Lq (w : World) (X : List Tm) (v : Value) (w' : World) : Prop := w'.ownsRow w.heap.size 123 6 v X.length (tls X) ∧ Below w.heap.size w w' ∧ Ls Sm.L X
theorem own_monoT {w : World} {base base' s : Nat} {e : TypeId} {v : Value} {n : Nat} {xs : List Value} (h : w.ownsRow base e s v n xs) (hb : base' ≤ base) : w.ownsRow base' e s v n xs := by
 refine ⟨h.1, ?_⟩
 rcases h.2 with h | ⟨g, c, cur, h1, h2, h3⟩
 ·exact .inl h
 ·exact .inr ⟨g, c, cur, h1, Nat.le_trans hb h2, h3⟩
theorem sq_of {w w1 w2 w3 : World} {b n1 n2 : Nat} {X Y M1 M2 : List Tm} {v : Value} (h1 : w.grownBy w1 (some b)) (q1 : ∀ p, co M1 p % Sm.L = (co [] p + co X p) % Sm.L) (h2 : w1.grownBy w2 (some b)) (q2 : ∀ p, co M2 p % Sm.L = (co M1 p + co Y p) % Sm.L) (hT : Td w2 b M2 v w3) : Sq w b (lf Sm.L (X ++ Y)) v w3 := by
 obtain ⟨Z, ho, hl, hc, _, hm, hg⟩ := hT
 have e : Z = lf Sm.L (X ++ Y) := Cm.lf_only L0 hl (fun p => by
  rw [hc p, q2 p, Int.add_emod, q1 p, ← Int.add_emod, Cm.co_app, Cm.co_nil]
  congr 1
  omega)
 subst e
 exact ⟨own_monoT ho (gb_tr h1 h2).size, hm, gb_tr (gb_tr h1 h2) hg, hl⟩
theorem lq_of {w : World} {X : List Tm} {v : Value} {w' : World} (h : Sq (w.alloc (.map #[] 0)) w.heap.size X v w') : Lq w X v w' := by
 obtain ⟨ho, hm, hg, hl⟩ := h
 have hs : (w.alloc (.map #[] 0)).heap.size = w.heap.size + 1 := by simp
 exact ⟨own_monoT ho (by omega), (bl_alloc w _).grown hg (by omega) (fun k hk => by obtain rfl := Option.some.inj hk; exact Nat.le_refl _), hl⟩
theorem sum_any (P Q : Option Addr) (n c m d b : Nat) (f g : Nat → Trm) (w : World) (hT : Tb w) (hn : n + m ≤ 2932031007402) (hf : ∀ k, k < n → (f k).a.ok) (hg : ∀ k, k < m → (g k).a.ok) (hL : Lt w P n f) (hL2 : Lt w Q m g) (hM : Mp w b []) :
  Calls Tryz.prog 64 #[.map (some b), .slice P n c, .slice Q m d] w fun e w' => ∃ v, e = .returned v ∧ Sq w b (lf Sm.L (glL n f ++ glL m g)) v w' := by
 have C1 := Hn (putL_any P n c b [] f w hT (by omega) hf hL hM)
 have C2 := Hn (fun w' M' (hg' : w.grownBy w' (some b)) (h : Mp w' b M') => putL_any Q m d b M' g w' (mp_tb hM hg' hT) (by omega) hg (mp_lt hM hg' hL2) h)
 have C3 := Hn (fun w' M' (hg' : w.grownBy w' (some b)) (h : Mp w' b M') (hl : M'.length ≤ 2932031007402) => told_any b M' w' (mp_tb hM hg' hT) h hl)
 have HN := Hn hn
 clear hn hT hf hg hL hL2 hM
 generalize glL n f = X at *
 generalize glL m g = Y at *
 go_enter Tryz.func64, Tryz.ntmps64
 go_upto_region 2 with (first | (go_at_call 114; refine C1.out.mono ?_; rintro e w1 ⟨rfl, h1⟩; have P1 := Hn h1; clear h1))
 clear C1
 obtain ⟨g1, M1, m1, q1, l1⟩ := P1.out
 have G1 := Hn g1
 have Q1 := Hn q1
 have K1 := Hn l1
 have C4 := Hn (C2.out w1 M1 g1 m1)
 clear C2 g1 q1 l1 m1 P1
 go_upto_region 3 with (first | (go_at_call 114; refine C4.out.mono ?_; rintro e w2 ⟨rfl, h2⟩; have P2 := Hn h2; clear h2))
 clear C4
 obtain ⟨g2, M2, m2, q2, l2⟩ := P2.out
 have G2 := Hn g2
 have Q2 := Hn q2
 have C5 := Hn (C3.out w2 M2 (gb_tr G1.out g2) m2 (by have := K1.out; have := HN.out; simp at *; omega))
 clear C3 g2 q2 l2 m2 P2
 go_wp2_with (first | (go_at_call 116; refine C5.out.mono ?_; rintro e w3 ⟨v, rfl, h3⟩; have P3 := Hn h3; clear h3))
 refine bodyPost_ret (v := v) (by simp [results, Tryz.results64, go_sem]) rfl ⟨v, rfl, ?_⟩
 exact sq_of (n1 := n) (n2 := m) G1.out Q1.out G2.out Q2.out P3.out
theorem difference_any (P Q : Option Addr) (n c m d b : Nat) (f g : Nat → Trm) (w : World) (hT : Tb w) (hn : n + m ≤ 2932031007402) (hf : ∀ k, k < n → (f k).a.ok) (hg : ∀ k, k < m → (g k).a.ok) (hL : Lt w P n f) (hL2 : Lt w Q m g) (hM : Mp w b []) :
  Calls Tryz.prog 65 #[.map (some b), .slice P n c, .slice Q m d] w fun e w' => ∃ v, e = .returned v ∧ Sq w b (lf Sm.L (glL n f ++ glN m g)) v w' := by
 have C1 := Hn (putL_any P n c b [] f w hT (by omega) hf hL hM)
 have C2 := Hn (fun w' M' (hg' : w.grownBy w' (some b)) (h : Mp w' b M') => putN_any Q m d b M' g w' (mp_tb hM hg' hT) (by omega) hg (mp_lt hM hg' hL2) h)
 have C3 := Hn (fun w' M' (hg' : w.grownBy w' (some b)) (h : Mp w' b M') (hl : M'.length ≤ 2932031007402) => told_any b M' w' (mp_tb hM hg' hT) h hl)
 have HN := Hn hn
 clear hn hT hf hg hL hL2 hM
 generalize glL n f = X at *
 generalize glN m g = Y at *
 go_enter Tryz.func65, Tryz.ntmps65
 go_upto_region 2 with (first | (go_at_call 114; refine C1.out.mono ?_; rintro e w1 ⟨rfl, h1⟩; have P1 := Hn h1; clear h1))
 clear C1
 obtain ⟨g1, M1, m1, q1, l1⟩ := P1.out
 have G1 := Hn g1
 have Q1 := Hn q1
 have K1 := Hn l1
 have C4 := Hn (C2.out w1 M1 g1 m1)
 clear C2 g1 q1 l1 m1 P1
 go_upto_region 3 with (first | (go_at_call 114; refine C4.out.mono ?_; rintro e w2 ⟨rfl, h2⟩; have P2 := Hn h2; clear h2))
 clear C4
 obtain ⟨g2, M2, m2, q2, l2⟩ := P2.out
 have G2 := Hn g2
 have Q2 := Hn q2
 have C5 := Hn (C3.out w2 M2 (gb_tr G1.out g2) m2 (by have := K1.out; have := HN.out; simp at *; omega))
 clear C3 g2 q2 l2 m2 P2
 go_wp2_with (first | (go_at_call 116; refine C5.out.mono ?_; rintro e w3 ⟨v, rfl, h3⟩; have P3 := Hn h3; clear h3))
 refine bodyPost_ret (v := v) (by simp [results, Tryz.results65, go_sem]) rfl ⟨v, rfl, ?_⟩
 exact sq_of (n1 := n) (n2 := m) G1.out Q1.out G2.out Q2.out P3.out
theorem Least_lin (P : Option Addr) (n c : Nat) (f : Nat → Trm) (w : World) (hT : Tb w) (hn : n ≤ 2932031007402) (hf : ∀ k, k < n → (f k).a.ok) (hL : Lt w P n f) :
  Calls Tryz.prog 69 #[.slice P n c] w fun e w' => ∃ v, e = .returned v ∧ Lq w (lf Sm.L (glL n f)) v w' := by
 have hmm := @run_makeMap Tryz.prog
 have C := sum_any P none n c 0 0 w.heap.size f f (w.alloc (.map #[] 0)) (hT.keep (bl_alloc _ _)) (by omega) hf (fun k hk => by omega) (hL.keep (bl_alloc _ _)) (Lt.none _ _) (Mp.made w)
 have e0 : glL n f ++ glL 0 f = glL n f := by simp [glL]
 rw [e0] at C
 clear e0
 replace C := Hn C
 clear hn hf hL hT
 generalize lf Sm.L (glL n f) = Y at *
 go_enter Tryz.func69, Tryz.ntmps69
 go_wp2_with (first | (go_at_call 64; refine C.out.mono ?_; rintro e w3 ⟨v, rfl, h3⟩; have P3 := Hn h3; clear h3))
 refine bodyPost_ret (v := v) (by simp [results, Tryz.results69, go_sem]) rfl ⟨v, rfl, ?_⟩
 exact lq_of P3.out
theorem Sub_lin (P Q : Option Addr) (n c m d : Nat) (f g : Nat → Trm) (w : World) (hT : Tb w) (hn : n + m ≤ 2932031007402) (hf : ∀ k, k < n → (f k).a.ok) (hg : ∀ k, k < m → (g k).a.ok) (hL : Lt w P n f) (hL2 : Lt w Q m g) :
  Calls Tryz.prog 119 #[.slice P n c, .slice Q m d] w fun e w' => ∃ v, e = .returned v ∧ Lq w (lf Sm.L (glL n f ++ glN m g)) v w' := by
 have hmm := @run_makeMap Tryz.prog
 have C := difference_any P Q n c m d w.heap.size f g (w.alloc (.map #[] 0)) (hT.keep (bl_alloc _ _)) hn hf hg (hL.keep (bl_alloc _ _)) (hL2.keep (bl_alloc _ _)) (Mp.made w)
 replace C := Hn C
 clear hn hf hg hL hL2 hT
 generalize lf Sm.L (glL n f ++ glN m g) = Y at *
 go_enter Tryz.func119, Tryz.ntmps119
 go_wp2_with (first | (go_at_call 65; refine C.out.mono ?_; rintro e w3 ⟨v, rfl, h3⟩; have P3 := Hn h3; clear h3))
 refine bodyPost_ret (v := v) (by simp [results, Tryz.results119, go_sem]) rfl ⟨v, rfl, ?_⟩
 exact lq_of P3.out
theorem buildT (qk qi : Int) (w : World) : (Instr.buildSlice 38 1 #[(0, .agg #[.int .i64 qk, .int .i64 qi, .int .u64 1, .int .u64 0, .int .u64 0, .int .u64 0])]).run Tryz.prog w = .ok (.slice (some ⟨w.heap.size, 0, none⟩) 1 1) (w.alloc (.cells #[.int .i64 qk, .int .i64 qi, .int .u64 1, .int .u64 0, .int .u64 0, .int .u64 0] 123)) := by kernel_rfl
theorem wp_buildT {w : World} {o : Oper} {a : Act} {K : Act → World → Prop} {Q : Exit → Act → World → Prop} (x0 : Operand) (ho : o.op = .buildSlice 38 1 #[(0, x0)]) (qk qi : Int) (h0 : a.eval x0 = .agg #[.int .i64 qk, .int .i64 qi, .int .u64 1, .int .u64 0, .int .u64 0, .int .u64 0]) (h : ∀ (tb : Nat) (wq : World), tb = w.heap.size → wq = w.alloc (.cells #[.int .i64 qk, .int .i64 qi, .int .u64 1, .int .u64 0, .int .u64 0, .int .u64 0] 123) → K (a.put o.dst (.slice (some ⟨tb, 0, none⟩) 1 1)) wq) : o.wp Tryz.prog a w K Q := by
 have hr := buildT qk qi w
 unfold Oper.wp execOp
 simp only [ho, Sem.run_bind, Sem.run_pure, Result.andThen_ok, List.map_toArray, List.map_cons, List.map_nil, h0, hr]
 exact h _ _ rfl rfl
theorem own_newT {base : Nat} (w : World) (qk qi : Int) (hb : base ≤ w.heap.size) : (w.alloc (.cells #[.int .i64 qk, .int .i64 qi, .int .u64 1, .int .u64 0, .int .u64 0, .int .u64 0] 123)).ownsRow base 123 6 (.slice (some ⟨w.heap.size, 0, none⟩) 1 1) 1 [.int .i64 qk, .int .i64 qi, .int .u64 1, .int .u64 0, .int .u64 0, .int .u64 0] :=
 ⟨rfl, .inr ⟨w.heap.size, 1, #[.int .i64 qk, .int .i64 qi, .int .u64 1, .int .u64 0, .int .u64 0, .int .u64 0], rfl, hb, heap_alloc_new w _, Nat.le_refl _, by unfold maxLen; omega, rfl, rfl⟩⟩
def of1o_0 : Oper := oO 3 (Op.load 79 (Operand.tmp 1)) 79 "lin.go:78" #[]
def of1o_1 : Oper := oO 4 (Op.call { callee := Callee.value (Operand.func 14), args := #[Operand.const (Value.int IntKind.u64 1)], argTypes := #[39] }) 41 "lin.go:78" #[]
def of1o_2 : Oper := oO 5 (Op.build 123 #[(0, Operand.tmp 3), (1, Operand.tmp 4)]) 123 "lin.go:78" #[DD 0, DD 1]
def of1o_3 : Oper := oO 6 (Op.buildSlice 38 1 #[(0, Operand.tmp 5)]) 38 "lin.go:78" #[DD 2]
def of1o_4 : Oper := oO 2 (Op.assign (Operand.tmp 6)) 38 "lin.go:78" #[DD 3, CH 1, PH 0, PH 1, PH 2, PH 3]
def of1o : Array Oper := #[of1o_0, of1o_1, of1o_2, of1o_3, of1o_4]
theorem of1 (Q : Exit → Act → World → Prop) (T : Nat) (qk qi : Int) (u0 u2 u3 u4 u5 u6 : Value) (W : World)
  (t0 : W.cell? ⟨T, 0, none⟩ = some (.int .i64 qk)) (t1 : W.cell? ⟨T, 1, none⟩ = some (.int .i64 qi))
  (C1 : Hid (∀ y, Calls Tryz.prog 14 #[.int .u64 1] y fun e w' => e = .returned (.agg #[.int .u64 1, .int .u64 0, .int .u64 0, .int .u64 0]) ∧ Below y.heap.size y w'))
  (HQ : Hid (∀ (wz : World) (tb : Nat), Below W.heap.size W wz → wz.ownsRow W.heap.size 123 6 (.slice (some ⟨tb, 0, none⟩) 1 1) 1 [.int .i64 qk, .int .i64 qi, .int .u64 1, .int .u64 0, .int .u64 0, .int .u64 0] → Q .normal ⟨#[u0, .pointer (some ⟨T, 0, none⟩), .slice (some ⟨tb, 0, none⟩) 1 1, .agg #[.int .i64 qk, .int .i64 qi], .agg #[.int .u64 1, .int .u64 0, .int .u64 0, .int .u64 0], .agg #[.int .i64 qk, .int .i64 qi, .int .u64 1, .int .u64 0, .int .u64 0, .int .u64 0], .slice (some ⟨tb, 0, none⟩) 1 1], []⟩ wz)) : (Code.region 1 of1o true).wp Tryz.prog Q ⟨#[u0, .pointer (some ⟨T, 0, none⟩), u2, u3, u4, u5, u6], []⟩ W := by
 unfold of1o
 refine wp_region_noPanic ?_
 refine wp_region_held_drew (S := fun x => Below W.heap.size W x) (by kernel_rfl) (bl_drew W) (fun hH0 => ?_)
 refine tj 0 of1o_0 (.agg #[.int .i64 qk, .int .i64 qi]) hH0 (fun w0 hSw => ?_) ?_
 ·(unfold of1o_0 oO; have hS : Below W.heap.size W w0 := hSw; have a0 := cell_keep t0 hS; have a1 := cell_keep t1 hS; clear hS hSw; go_simp)
 simp only [of1o_0, oO, Act.put, sA, sB, sC]
 refine ar [1] ?_
 refine ac of1o_1 (fun K hK => ?_) AllReadyH.nil
 unfold of1o_1 oO
 have HH := Hn hH0
 clear hH0
 go_simp
 refine (C1.out _).mono ?_
 rintro e wn1 ⟨rfl, hb⟩
 have SN := Hn (bl_trans HH.out hb)
 clear HH C1 hb
 go_wp2_with fail
 refine hK.out _ _ SN.out (fun hH1 => ?_)
 clear hK K SN
 refine tj 2 of1o_2 (.agg #[.int .i64 qk, .int .i64 qi, .int .u64 1, .int .u64 0, .int .u64 0, .int .u64 0]) hH1 (fun w0 hSw => ?_) ?_
 ·(unfold of1o_2 oO; clear hSw; go_simp)
 simp only [of1o_2, oO, Act.put, sA, sB, sC]
 refine ar [3] ?_
 refine ac of1o_3 (fun K hK => ?_) AllReadyH.nil
 unfold of1o_3 oO
 have HH := Hn hH1
 clear hH1
 refine wp_buildT _ rfl qk qi rfl (fun tb wn2 htb hwq => ?_)
 have SN := Hn (by rw [hwq]; exact bl_trans HH.out (bl_alloc _ _) : Below W.heap.size W wn2)
 have OW := Hn ((by rw [htb, hwq]; exact own_newT _ _ _ HH.out.size : wn2.ownsRow W.heap.size 123 6 (.slice (some ⟨tb, 0, none⟩) 1 1) 1 [.int .i64 qk, .int .i64 qi, .int .u64 1, .int .u64 0, .int .u64 0, .int .u64 0]))
 clear HH htb hwq
 simp only [Act.put, sA, sB, sC]
 refine hK.out _ _ SN.out (fun hH2 => ?_)
 clear hK K SN
 refine tj 4 of1o_4 (.slice (some ⟨tb, 0, none⟩) 1 1) hH2 (fun w0 hSw => ?_) ?_
 ·(unfold of1o_4 oO; clear hSw; go_simp)
 simp only [of1o_4, oO, Act.put, sA, sB, sC]
 have HH := Hn hH2
 have FQ := Hn (HQ.out _ tb HH.out OW.out)
 refine wpAnyH_done (by kernel_rfl) ?_ _
 refine NoPanic.normal ?_
 exact FQ.out
theorem one_is : lst 1 = ⟨1, 0, 0, 0⟩ := int_is 1 (by unfold Sm.Wd; omega)
theorem tls_of (q : Wr) : tls [(q, 1)] = [.int .i64 q.1, .int .i64 q.2, .int .u64 1, .int .u64 0, .int .u64 0, .int .u64 0] := by
 rw [tls_map]
 simp [tmOf, Trm.cs, one_is]
theorem ls_of (q : Wr) : Ls Sm.L [(q, 1)] := ⟨by simp, fun x hx => by rw [List.mem_singleton.1 hx]; exact ⟨(by decide : (0 : Int) < 1), (by decide : (1 : Int) < Sm.L)⟩⟩
theorem Of_any (q : Wr) (w : World) : Calls Tryz.prog 66 #[.agg #[.int .i64 q.1, .int .i64 q.2]] w fun e w' => ∃ v, e = .returned v ∧ Lq w [(q, 1)] v w' := by
 have C := fun y => fix (R := ⟨1, 0, 0, 0⟩) (Int_any 1 y (by unfold Sm.Wd; omega)) one_is
 simp only [E4.v] at C
 have C1 := Hn C
 clear C
 have HL := Hn (ls_of q)
 have HE := Hn (tls_of q)
 obtain ⟨qk, qi⟩ := q
 simp only at HE ⊢
 have HB := Hn (bl_alloc w (.cells #[.int .i64 qk, .int .i64 qi] 79))
 go_enter Tryz.func66, Tryz.ntmps66
 go_upto_region 1 with fail
 have t0 : (w.alloc (.cells #[.int .i64 qk, .int .i64 qi] 79)).cell? ⟨w.heap.size, 0, none⟩ = some (.int .i64 qk) := by go_simp
 have t1 : (w.alloc (.cells #[.int .i64 qk, .int .i64 qi] 79)).cell? ⟨w.heap.size, 1, none⟩ = some (.int .i64 qi) := by go_simp
 generalize w.alloc (.cells #[.int .i64 qk, .int .i64 qi] 79) = w1 at *
 refine of1 _ w.heap.size qk qi _ _ _ _ _ _ w1 t0 t1 C1 (Hn ?_)
 intro wz tb hb ho
 have B1 := Hn hb
 have O1 := Hn ho
 clear C1 t0 t1 hb ho
 go_wp2_with fail
 refine bodyPost_ret (v := .slice (some ⟨tb, 0, none⟩) 1 1) (by simp [results, Tryz.results66, go_sem]) rfl ⟨_, rfl, ?_⟩
 exact ⟨by rw [HE.out]; exact own_monoT O1.out HB.out.size, bl_trans HB.out B1.out, HL.out⟩
theorem of_lt (q : Wr) (w : World) : Calls Tryz.prog 66 #[.agg #[.int .i64 q.1, .int .i64 q.2]] w fun e w' => ∃ P c, e = .returned (.slice P 1 c) ∧ Lt w' P 1 (fun _ => ⟨q, lst 1⟩) ∧ Below w.heap.size w w' :=
 (Of_any q w).mono fun e w' ⟨v, he, ho, hb, _⟩ => by
  obtain ⟨P, c, e1, _, _⟩ := own_shT ho
  subst e1
  refine ⟨P, c, he, ?_, hb⟩
  have := own_lts (X := [(q, 1)]) ho
  exact this.congr (fun k hk => by obtain rfl : k = 0 := (by simp at hk; omega); rfl)
end Ci
end Go.Proofs.YtghcfcglakbkeaaGreatDoor
