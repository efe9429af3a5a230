import Derived.Test.YtclihahohhhhiaaDoorTk
import Derived.Test.YtclihahohhhhiaaDoorCmg
namespace Go.Proofs.YtclihahohhhhiaaDoor
open Go.RowKit
set_option linter.unusedVariables false
set_option linter.unusedSimpArgs false
open Cm (Wr Tm co bf Ls lf ins Eqm)
namespace Ci
set_option maxRecDepth 100000
set_option maxHeartbeats 4000000
theorem L0 : (0 : Int) < Sm.L := by decide
def Sq (w : World) (b : Nat) (X : List Tm) (v : Value) (w' : World) : Prop := w'.ownsRow w.heap.size 69 6 v X.length (tls X) ∧ Mp w' b [] ∧ w.grownBy w' (some b) ∧ Ls Sm.L X
def Lq (w : World) (X : List Tm) (v : Value) (w' : World) : Prop := w'.ownsRow w.heap.size 69 6 v X.length (tls X) ∧ Below w.heap.size w w' ∧ Ls Sm.L X
theorem own_monoT {w : World} {base base' s : Nat} {e : TypeId} {v : Value} {n : Nat} {xs : List Value} (h : w.ownsRow base e s v n xs) (hb : base' ≤ base) : w.ownsRow base' e s v n xs := by
 refine ⟨h.1, ?_⟩
 rcases h.2 with h | ⟨g, c, cur, h1, h2, h3⟩
 ·exact .inl h
 ·exact .inr ⟨g, c, cur, h1, Nat.le_trans hb h2, h3⟩
theorem sq_of {w w1 w2 w3 : World} {b n1 n2 : Nat} {X Y M1 M2 : List Tm} {v : Value} (h1 : w.grownBy w1 (some b)) (q1 : ∀ p, co M1 p % Sm.L = (co [] p + co X p) % Sm.L) (h2 : w1.grownBy w2 (some b)) (q2 : ∀ p, co M2 p % Sm.L = (co M1 p + co Y p) % Sm.L) (hT : Td w2 b M2 v w3) : Sq w b (lf Sm.L (X ++ Y)) v w3 := by
 obtain ⟨Z, ho, hl, hc, _, hm, hg⟩ := hT
 have e : Z = lf Sm.L (X ++ Y) := Cm.lf_only L0 hl (fun p => by
  rw [hc p, q2 p, Int.add_emod, q1 p, ← Int.add_emod, Cm.co_app, Cm.co_nil]
  congr 1
  omega)
 subst e
 exact ⟨own_monoT ho (gb_tr h1 h2).size, hm, gb_tr (gb_tr h1 h2) hg, hl⟩
theorem sq_one {w w1 w3 : World} {b : Nat} {X M1 : List Tm} {v : Value} (h1 : w.grownBy w1 (some b)) (q1 : ∀ p, co M1 p % Sm.L = (co [] p + co X p) % Sm.L) (hT : Td w1 b M1 v w3) : Sq w b (lf Sm.L X) v w3 := by
 obtain ⟨Z, ho, hl, hc, _, hm, hg⟩ := hT
 have e : Z = lf Sm.L X := Cm.lf_only L0 hl (fun p => by
  rw [hc p, q1 p, Cm.co_nil]
  congr 1
  omega)
 subst e
 exact ⟨own_monoT ho h1.size, hm, gb_tr h1 hg, hl⟩
theorem lq_of {w : World} {X : List Tm} {v : Value} {w' : World} (h : Sq (w.alloc (.map #[] 0)) w.heap.size X v w') : Lq w X v w' := by
 obtain ⟨ho, hm, hg, hl⟩ := h
 have hs : (w.alloc (.map #[] 0)).heap.size = w.heap.size + 1 := by simp
 exact ⟨own_monoT ho (by omega), (bl_alloc w _).grown hg (by omega) (fun k hk => by obtain rfl := Option.some.inj hk; exact Nat.le_refl _), hl⟩
theorem sum_any (P Q : Option Addr) (n c m d b : Nat) (f g : Nat → Trm) (w : World) (hT : Tb w) (hn : n + m ≤ 2932031007402) (hf : ∀ k, k < n → (f k).a.ok) (hg : ∀ k, k < m → (g k).a.ok) (hL : Lt w P n f) (hL2 : Lt w Q m g) (hM : Mp w b []) :
  Calls Tryd.prog 33 #[.map (some b), .slice P n c, .slice Q m d] w fun e w' => ∃ v, e = .returned v ∧ Sq w b (lf Sm.L (glL n f ++ glL m g)) v w' := by
 have C1 := hidden (putL_any P n c b [] f w hT (by omega) hf hL hM)
 have C2 := hidden (fun w' M' (hg' : w.grownBy w' (some b)) (h : Mp w' b M') => putL_any Q m d b M' g w' (mp_tb hM hg' hT) (by omega) hg (mp_lt hM hg' hL2) h)
 have C3 := hidden (fun w' M' (hg' : w.grownBy w' (some b)) (h : Mp w' b M') (hl : M'.length ≤ 2932031007402) => told_any b M' w' (mp_tb hM hg' hT) h hl)
 have HN := hidden hn
 clear hn hT hf hg hL hL2 hM
 generalize glL n f = X at *
 generalize glL m g = Y at *
 go_enter Tryd.func33, Tryd.ntmps33
 go_upto_region 2 with (first | (go_at_call 50; refine C1.out.mono ?_; rintro e w1 ⟨rfl, h1⟩; have P1 := hidden h1; clear h1))
 clear C1
 obtain ⟨g1, M1, m1, q1, l1⟩ := P1.out
 have G1 := hidden g1
 have Q1 := hidden q1
 have K1 := hidden l1
 have C4 := hidden (C2.out w1 M1 g1 m1)
 clear C2 g1 q1 l1 m1 P1
 go_upto_region 3 with (first | (go_at_call 50; refine C4.out.mono ?_; rintro e w2 ⟨rfl, h2⟩; have P2 := hidden h2; clear h2))
 clear C4
 obtain ⟨g2, M2, m2, q2, l2⟩ := P2.out
 have G2 := hidden g2
 have Q2 := hidden q2
 have C5 := hidden (C3.out w2 M2 (gb_tr G1.out g2) m2 (by have := K1.out; have := HN.out; simp at *; omega))
 clear C3 g2 q2 l2 m2 P2
 go_wp2_with (first | (go_at_call 51; refine C5.out.mono ?_; rintro e w3 ⟨v, rfl, h3⟩; have P3 := hidden h3; clear h3))
 refine bodyPost_ret (v := v) (by simp [results, Tryd.results33, go_sem]) rfl ⟨v, rfl, ?_⟩
 exact sq_of (n1 := n) (n2 := m) G1.out Q1.out G2.out Q2.out P3.out
theorem difference_any (P Q : Option Addr) (n c m d b : Nat) (f g : Nat → Trm) (w : World) (hT : Tb w) (hn : n + m ≤ 2932031007402) (hf : ∀ k, k < n → (f k).a.ok) (hg : ∀ k, k < m → (g k).a.ok) (hL : Lt w P n f) (hL2 : Lt w Q m g) (hM : Mp w b []) :
  Calls Tryd.prog 34 #[.map (some b), .slice P n c, .slice Q m d] w fun e w' => ∃ v, e = .returned v ∧ Sq w b (lf Sm.L (glL n f ++ glN m g)) v w' := by
 have C1 := hidden (putL_any P n c b [] f w hT (by omega) hf hL hM)
 have C2 := hidden (fun w' M' (hg' : w.grownBy w' (some b)) (h : Mp w' b M') => putN_any Q m d b M' g w' (mp_tb hM hg' hT) (by omega) hg (mp_lt hM hg' hL2) h)
 have C3 := hidden (fun w' M' (hg' : w.grownBy w' (some b)) (h : Mp w' b M') (hl : M'.length ≤ 2932031007402) => told_any b M' w' (mp_tb hM hg' hT) h hl)
 have HN := hidden hn
 clear hn hT hf hg hL hL2 hM
 generalize glL n f = X at *
 generalize glN m g = Y at *
 go_enter Tryd.func34, Tryd.ntmps34
 go_upto_region 2 with (first | (go_at_call 50; refine C1.out.mono ?_; rintro e w1 ⟨rfl, h1⟩; have P1 := hidden h1; clear h1))
 clear C1
 obtain ⟨g1, M1, m1, q1, l1⟩ := P1.out
 have G1 := hidden g1
 have Q1 := hidden q1
 have K1 := hidden l1
 have C4 := hidden (C2.out w1 M1 g1 m1)
 clear C2 g1 q1 l1 m1 P1
 go_upto_region 3 with (first | (go_at_call 50; refine C4.out.mono ?_; rintro e w2 ⟨rfl, h2⟩; have P2 := hidden h2; clear h2))
 clear C4
 obtain ⟨g2, M2, m2, q2, l2⟩ := P2.out
 have G2 := hidden g2
 have Q2 := hidden q2
 have C5 := hidden (C3.out w2 M2 (gb_tr G1.out g2) m2 (by have := K1.out; have := HN.out; simp at *; omega))
 clear C3 g2 q2 l2 m2 P2
 go_wp2_with (first | (go_at_call 51; refine C5.out.mono ?_; rintro e w3 ⟨v, rfl, h3⟩; have P3 := hidden h3; clear h3))
 refine bodyPost_ret (v := v) (by simp [results, Tryd.results34, go_sem]) rfl ⟨v, rfl, ?_⟩
 exact sq_of (n1 := n) (n2 := m) G1.out Q1.out G2.out Q2.out P3.out
theorem Times_any (P : Option Addr) (n c : Nat) (f : Nat → Trm) (k : E4) (w : World) (hT : Tb w) (hn : n ≤ 2932031007402) (hk : k.ok) (hf : ∀ k, k < n → (f k).a.ok) (hL : Lt w P n f) :
  Calls Tryd.prog 22 #[.slice P n c, .agg #[.int .u64 k.x0, .int .u64 k.x1, .int .u64 k.x2, .int .u64 k.x3]] w fun e w' => ∃ v, e = .returned v ∧ Lq w (lf Sm.L (glM k n f)) v w' := by
 have hmm := @run_makeMap Tryd.prog
 have BA := bl_alloc w (.cells #[.int .u64 k.x0, .int .u64 k.x1, .int .u64 k.x2, .int .u64 k.x3] 41)
 have C1 := hidden (fun w' (hb : Below w.heap.size w w') => putM_any k P n c w'.heap.size [] f (w'.alloc (.map #[] 0)) (hT.keep (bl_trans hb (bl_alloc _ _))) (by omega) hk hf (hL.keep (bl_trans hb (bl_alloc _ _))) (Mp.made w'))
 have C3 := hidden (fun w' w2 (b : Nat) M' (hb : Below w.heap.size w w') (hg' : (w'.alloc (.map #[] 0)).grownBy w2 (some w'.heap.size)) (h : Mp w2 w'.heap.size M') (hl : M'.length ≤ 2932031007402) => told_any w'.heap.size M' w2 (mp_tb (Mp.made w') hg' (hT.keep (bl_trans hb (bl_alloc _ _)))) h hl)
 have HN := hidden hn
 have HB := hidden BA
 clear hn hT hf hL BA hk
 generalize glM k n f = X at *
 go_enter Tryd.func22, Tryd.ntmps22
 go_upto_region 2 with fail
 have kc0 : ((w.alloc (.cells #[.int .u64 k.x0, .int .u64 k.x1, .int .u64 k.x2, .int .u64 k.x3] 41)).alloc (.map #[] 0)).cell? ⟨w.heap.size, 0, none⟩ = some (.int .u64 k.x0) := by go_simp
 have kc1 : ((w.alloc (.cells #[.int .u64 k.x0, .int .u64 k.x1, .int .u64 k.x2, .int .u64 k.x3] 41)).alloc (.map #[] 0)).cell? ⟨w.heap.size, 1, none⟩ = some (.int .u64 k.x1) := by go_simp
 have kc2 : ((w.alloc (.cells #[.int .u64 k.x0, .int .u64 k.x1, .int .u64 k.x2, .int .u64 k.x3] 41)).alloc (.map #[] 0)).cell? ⟨w.heap.size, 2, none⟩ = some (.int .u64 k.x2) := by go_simp
 have kc3 : ((w.alloc (.cells #[.int .u64 k.x0, .int .u64 k.x1, .int .u64 k.x2, .int .u64 k.x3] 41)).alloc (.map #[] 0)).cell? ⟨w.heap.size, 3, none⟩ = some (.int .u64 k.x3) := by go_simp
 have es : w.heap.size + 1 = (w.alloc (.cells #[.int .u64 k.x0, .int .u64 k.x1, .int .u64 k.x2, .int .u64 k.x3] 41)).heap.size := by simp
 rw [es]
 clear es
 generalize w.alloc (.cells #[.int .u64 k.x0, .int .u64 k.x1, .int .u64 k.x2, .int .u64 k.x3] 41) = w1 at *
 have C2 := hidden (C1.out w1 HB.out)
 clear C1
 go_upto_region 3 with (first | (go_at_call 50; refine C2.out.mono ?_; rintro e w2 ⟨rfl, h1⟩; have P1 := hidden h1; clear h1))
 clear C2 kc0 kc1 kc2 kc3
 obtain ⟨g1, M1, m1, q1, l1⟩ := P1.out
 have G1 := hidden g1
 have Q1 := hidden q1
 have C5 := hidden (C3.out w1 w2 0 M1 HB.out g1 m1 (by have := HN.out; simp at l1; omega))
 clear C3 g1 q1 l1 m1 P1
 go_wp2_with (first | (go_at_call 51; refine C5.out.mono ?_; rintro e w3 ⟨v, rfl, h3⟩; have P3 := hidden h3; clear h3))
 refine bodyPost_ret (v := v) (by simp [results, Tryd.results22, go_sem]) rfl ⟨v, rfl, ?_⟩
 have h := lq_of (sq_one G1.out Q1.out P3.out)
 exact ⟨own_monoT h.1 HB.out.size, bl_trans HB.out h.2.1, h.2.2⟩
theorem Least_lin (P : Option Addr) (n c : Nat) (f : Nat → Trm) (w : World) (hT : Tb w) (hn : n ≤ 2932031007402) (hf : ∀ k, k < n → (f k).a.ok) (hL : Lt w P n f) :
  Calls Tryd.prog 38 #[.slice P n c] w fun e w' => ∃ v, e = .returned v ∧ Lq w (lf Sm.L (glL n f)) v w' := by
 have hmm := @run_makeMap Tryd.prog
 have C := sum_any P none n c 0 0 w.heap.size f f (w.alloc (.map #[] 0)) (hT.keep (bl_alloc _ _)) (by omega) hf (fun k hk => by omega) (hL.keep (bl_alloc _ _)) (Lt.none _ _) (Mp.made w)
 have e0 : glL n f ++ glL 0 f = glL n f := by simp [glL]
 rw [e0] at C
 clear e0
 replace C := hidden C
 clear hn hf hL hT
 generalize lf Sm.L (glL n f) = Y at *
 go_enter Tryd.func38, Tryd.ntmps38
 go_wp2_with (first | (go_at_call 33; refine C.out.mono ?_; rintro e w3 ⟨v, rfl, h3⟩; have P3 := hidden h3; clear h3))
 refine bodyPost_ret (v := v) (by simp [results, Tryd.results38, go_sem]) rfl ⟨v, rfl, ?_⟩
 exact lq_of P3.out
theorem Sub_lin (P Q : Option Addr) (n c m d : Nat) (f g : Nat → Trm) (w : World) (hT : Tb w) (hn : n + m ≤ 2932031007402) (hf : ∀ k, k < n → (f k).a.ok) (hg : ∀ k, k < m → (g k).a.ok) (hL : Lt w P n f) (hL2 : Lt w Q m g) :
  Calls Tryd.prog 23 #[.slice P n c, .slice Q m d] w fun e w' => ∃ v, e = .returned v ∧ Lq w (lf Sm.L (glL n f ++ glN m g)) v w' := by
 have hmm := @run_makeMap Tryd.prog
 have C := difference_any P Q n c m d w.heap.size f g (w.alloc (.map #[] 0)) (hT.keep (bl_alloc _ _)) hn hf hg (hL.keep (bl_alloc _ _)) (hL2.keep (bl_alloc _ _)) (Mp.made w)
 replace C := hidden C
 clear hn hf hg hL hL2 hT
 generalize lf Sm.L (glL n f ++ glN m g) = Y at *
 go_enter Tryd.func23, Tryd.ntmps23
 go_wp2_with (first | (go_at_call 34; refine C.out.mono ?_; rintro e w3 ⟨v, rfl, h3⟩; have P3 := hidden h3; clear h3))
 refine bodyPost_ret (v := v) (by simp [results, Tryd.results23, go_sem]) rfl ⟨v, rfl, ?_⟩
 exact lq_of P3.out
theorem buildT (qk qi : Int) (w : World) : (Instr.buildSlice 24 1 #[(0, .agg #[.int .i64 qk, .int .i64 qi, .int .u64 1, .int .u64 0, .int .u64 0, .int .u64 0])]).run Tryd.prog w = .ok (.slice (some ⟨w.heap.size, 0, none⟩) 1 1) (w.alloc (.cells #[.int .i64 qk, .int .i64 qi, .int .u64 1, .int .u64 0, .int .u64 0, .int .u64 0] 69)) := by kernel_rfl
theorem wp_buildT {w : World} {o : Oper} {a : Act} {K : Act → World → Prop} {Q : Exit → Act → World → Prop} (x0 : Operand) (ho : o.op = .buildSlice 24 1 #[(0, x0)]) (qk qi : Int) (h0 : a.eval x0 = .agg #[.int .i64 qk, .int .i64 qi, .int .u64 1, .int .u64 0, .int .u64 0, .int .u64 0]) (h : ∀ (tb : Nat) (wq : World), tb = w.heap.size → wq = w.alloc (.cells #[.int .i64 qk, .int .i64 qi, .int .u64 1, .int .u64 0, .int .u64 0, .int .u64 0] 69) → K (a.put o.dst (.slice (some ⟨tb, 0, none⟩) 1 1)) wq) : o.wp Tryd.prog a w K Q := by
 have hr := buildT qk qi w
 unfold Oper.wp execOp
 simp only [ho, Sem.run_bind, Sem.run_pure, Result.andThen_ok, List.map_toArray, List.map_cons, List.map_nil, h0, hr]
 exact h _ _ rfl rfl
theorem own_newT {base : Nat} (w : World) (qk qi : Int) (hb : base ≤ w.heap.size) : (w.alloc (.cells #[.int .i64 qk, .int .i64 qi, .int .u64 1, .int .u64 0, .int .u64 0, .int .u64 0] 69)).ownsRow base 69 6 (.slice (some ⟨w.heap.size, 0, none⟩) 1 1) 1 [.int .i64 qk, .int .i64 qi, .int .u64 1, .int .u64 0, .int .u64 0, .int .u64 0] :=
 ⟨rfl, .inr ⟨w.heap.size, 1, #[.int .i64 qk, .int .i64 qi, .int .u64 1, .int .u64 0, .int .u64 0, .int .u64 0], rfl, hb, heap_alloc_new w _, Nat.le_refl _, by unfold maxLen; omega, rfl, rfl⟩⟩
def of1o_0 : Oper := { dst := some 3, op := Op.load 32 (Operand.tmp 1), type := 32, pos := "lin.go:78", after := #[], guard := none }
def of1o_1 : Oper := { dst := some 4, op := Op.call { callee := Callee.value (Operand.func 17), args := #[Operand.const (Value.int IntKind.u64 1)], argTypes := #[39] }, type := 41, pos := "lin.go:78", after := #[], guard := none }
def of1o_2 : Oper := { dst := some 5, op := Op.build 69 #[(0, Operand.tmp 3), (1, Operand.tmp 4)], type := 69, pos := "lin.go:78", after := #[{ on := 0, ground := Ground.data }, { on := 1, ground := Ground.data }], guard := none }
def of1o_3 : Oper := { dst := some 6, op := Op.buildSlice 24 1 #[(0, Operand.tmp 5)], type := 24, pos := "lin.go:78", after := #[{ on := 2, ground := Ground.data }], guard := none }
def of1o_4 : Oper := { dst := some 2, op := Op.assign (Operand.tmp 6), type := 24, pos := "lin.go:78", after := #[{ on := 3, ground := Ground.data }, { on := 1, ground := Ground.chain }, { on := 0, ground := Ground.phase }, { on := 1, ground := Ground.phase }, { on := 2, ground := Ground.phase }, { on := 3, ground := Ground.phase }], guard := none }
def of1o : Array Oper := #[of1o_0, of1o_1, of1o_2, of1o_3, of1o_4]
set_option maxRecDepth 100000 in
set_option maxHeartbeats 16000000 in
theorem of1 (Q : Exit → Act → World → Prop) (T : Nat) (qk qi : Int) (u0 u2 u3 u4 u5 u6 : Value) (W : World)
  (t0 : W.cell? ⟨T, 0, none⟩ = some (.int .i64 qk)) (t1 : W.cell? ⟨T, 1, none⟩ = some (.int .i64 qi))
  (C1 : Hid (∀ y, Calls Tryd.prog 17 #[.int .u64 1] y fun e w' => e = .returned (.agg #[.int .u64 1, .int .u64 0, .int .u64 0, .int .u64 0]) ∧ Below y.heap.size y w'))
  (HQ : Hid (∀ (wz : World) (tb : Nat), Below W.heap.size W wz → wz.ownsRow W.heap.size 69 6 (.slice (some ⟨tb, 0, none⟩) 1 1) 1 [.int .i64 qk, .int .i64 qi, .int .u64 1, .int .u64 0, .int .u64 0, .int .u64 0] → Q .normal ⟨#[u0, .pointer (some ⟨T, 0, none⟩), .slice (some ⟨tb, 0, none⟩) 1 1, .agg #[.int .i64 qk, .int .i64 qi], .agg #[.int .u64 1, .int .u64 0, .int .u64 0, .int .u64 0], .agg #[.int .i64 qk, .int .i64 qi, .int .u64 1, .int .u64 0, .int .u64 0, .int .u64 0], .slice (some ⟨tb, 0, none⟩) 1 1], []⟩ wz)) : (Code.region 1 of1o true).wp Tryd.prog Q ⟨#[u0, .pointer (some ⟨T, 0, none⟩), u2, u3, u4, u5, u6], []⟩ W := by
 unfold of1o
 refine wp_region_noPanic ?_
 refine wp_region_held_drew (S := fun x => Below W.heap.size W x) (by kernel_rfl) (bl_drew W) (fun hH0 => ?_)
 refine tk 0 of1o_0 (.agg #[.int .i64 qk, .int .i64 qi]) rfl (by kernel_rfl) hH0 rfl (fun w0 hSw => ?_) ?_
 ·(unfold of1o_0; have hS : Below W.heap.size W w0 := hSw; have a0 := cell_keep t0 hS; have a1 := cell_keep t1 hS; clear hS hSw; go_simp)
 simp only [of1o_0, Act.put, sA, sB, sC]
 refine wpAnyH_ready (rs := [1]) (by kernel_rfl) (by simp) ?_
 refine AllReadyH.cons (o := of1o_1) rfl (fun K hK => ?_) AllReadyH.nil
 unfold of1o_1
 have HH := hidden hH0
 clear hH0
 go_simp
 refine (C1.out _).mono ?_
 rintro e wn1 ⟨rfl, hb⟩
 have SN := hidden (bl_trans HH.out hb)
 clear HH C1 hb
 go_wp2_with fail
 refine hK.out _ _ SN.out (fun hH1 => ?_)
 clear hK K SN
 refine tk 2 of1o_2 (.agg #[.int .i64 qk, .int .i64 qi, .int .u64 1, .int .u64 0, .int .u64 0, .int .u64 0]) rfl (by kernel_rfl) hH1 rfl (fun w0 hSw => ?_) ?_
 ·(unfold of1o_2; clear hSw; go_simp)
 simp only [of1o_2, Act.put, sA, sB, sC]
 refine wpAnyH_ready (rs := [3]) (by kernel_rfl) (by simp) ?_
 refine AllReadyH.cons (o := of1o_3) rfl (fun K hK => ?_) AllReadyH.nil
 unfold of1o_3
 have HH := hidden hH1
 clear hH1
 refine wp_buildT _ rfl qk qi rfl (fun tb wn2 htb hwq => ?_)
 have SN := hidden (by rw [hwq]; exact bl_trans HH.out (bl_alloc _ _) : Below W.heap.size W wn2)
 have OW := hidden ((by rw [htb, hwq]; exact own_newT _ _ _ HH.out.size : wn2.ownsRow W.heap.size 69 6 (.slice (some ⟨tb, 0, none⟩) 1 1) 1 [.int .i64 qk, .int .i64 qi, .int .u64 1, .int .u64 0, .int .u64 0, .int .u64 0]))
 clear HH htb hwq
 simp only [Act.put, sA, sB, sC]
 refine hK.out _ _ SN.out (fun hH2 => ?_)
 clear hK K SN
 refine tk 4 of1o_4 (.slice (some ⟨tb, 0, none⟩) 1 1) rfl (by kernel_rfl) hH2 rfl (fun w0 hSw => ?_) ?_
 ·(unfold of1o_4; clear hSw; go_simp)
 simp only [of1o_4, Act.put, sA, sB, sC]
 have HH := hidden hH2
 have FQ := hidden (HQ.out _ tb HH.out OW.out)
 refine wpAnyH_done (by kernel_rfl) ?_ _
 refine NoPanic.normal ?_
 exact FQ.out
theorem one_is : lst 1 = ⟨1, 0, 0, 0⟩ := int_is 1 (by unfold Sm.Wd; omega)
theorem tls_of (q : Wr) : tls [(q, 1)] = [.int .i64 q.1, .int .i64 q.2, .int .u64 1, .int .u64 0, .int .u64 0, .int .u64 0] := by
 rw [tls_map]
 simp [tmOf, Trm.cs, one_is]
theorem ls_of (q : Wr) : Ls Sm.L [(q, 1)] := ⟨by simp, fun x hx => by rw [List.mem_singleton.1 hx]; exact ⟨(by decide : (0 : Int) < 1), (by decide : (1 : Int) < Sm.L)⟩⟩
theorem Of_any (q : Wr) (w : World) : Calls Tryd.prog 10 #[.agg #[.int .i64 q.1, .int .i64 q.2]] w fun e w' => ∃ v, e = .returned v ∧ Lq w [(q, 1)] v w' := by
 have C := fun y => fix (R := ⟨1, 0, 0, 0⟩) (Int_any 1 y (by unfold Sm.Wd; omega)) one_is
 simp only [E4.v] at C
 have C1 := hidden C
 clear C
 have HL := hidden (ls_of q)
 have HE := hidden (tls_of q)
 obtain ⟨qk, qi⟩ := q
 simp only at HE ⊢
 have HB := hidden (bl_alloc w (.cells #[.int .i64 qk, .int .i64 qi] 32))
 go_enter Tryd.func10, Tryd.ntmps10
 go_upto_region 1 with fail
 have t0 : (w.alloc (.cells #[.int .i64 qk, .int .i64 qi] 32)).cell? ⟨w.heap.size, 0, none⟩ = some (.int .i64 qk) := by go_simp
 have t1 : (w.alloc (.cells #[.int .i64 qk, .int .i64 qi] 32)).cell? ⟨w.heap.size, 1, none⟩ = some (.int .i64 qi) := by go_simp
 generalize w.alloc (.cells #[.int .i64 qk, .int .i64 qi] 32) = w1 at *
 refine of1 _ w.heap.size qk qi _ _ _ _ _ _ w1 t0 t1 C1 (hidden ?_)
 intro wz tb hb ho
 have B1 := hidden hb
 have O1 := hidden ho
 clear C1 t0 t1 hb ho
 go_wp2_with fail
 refine bodyPost_ret (v := .slice (some ⟨tb, 0, none⟩) 1 1) (by simp [results, Tryd.results10, go_sem]) rfl ⟨_, rfl, ?_⟩
 exact ⟨by rw [HE.out]; exact own_monoT O1.out HB.out.size, bl_trans HB.out B1.out, HL.out⟩
def oneT : Nat → Trm := fun _ => ⟨(1, 0), lst 1⟩
def co1o_0 : Oper := { dst := some 3, op := Op.build 32 #[(0, Operand.const (Value.int IntKind.i64 1))], type := 32, pos := "lin.go:81", after := #[], guard := none }
def co1o_1 : Oper := { dst := some 4, op := Op.call { callee := Callee.value (Operand.func 10), args := #[Operand.tmp 3], argTypes := #[32] }, type := 24, pos := "lin.go:81", after := #[{ on := 0, ground := Ground.data }], guard := none }
def co1o_2 : Oper := { dst := some 5, op := Op.load 41 (Operand.tmp 1), type := 41, pos := "lin.go:81", after := #[], guard := none }
def co1o_3 : Oper := { dst := some 6, op := Op.call { callee := Callee.value (Operand.func 22), args := #[Operand.tmp 4, Operand.tmp 5], argTypes := #[24, 41] }, type := 24, pos := "lin.go:81", after := #[{ on := 1, ground := Ground.data }, { on := 2, ground := Ground.data }, { on := 1, ground := Ground.chain }], guard := none }
def co1o_4 : Oper := { dst := some 2, op := Op.assign (Operand.tmp 6), type := 24, pos := "lin.go:81", after := #[{ on := 3, ground := Ground.data }, { on := 3, ground := Ground.chain }, { on := 0, ground := Ground.phase }, { on := 1, ground := Ground.phase }, { on := 2, ground := Ground.phase }, { on := 3, ground := Ground.phase }], guard := none }
def co1o : Array Oper := #[co1o_0, co1o_1, co1o_2, co1o_3, co1o_4]
set_option maxRecDepth 100000 in
set_option maxHeartbeats 16000000 in
theorem co1 (Q : Exit → Act → World → Prop) (T : Nat) (k : E4) (X : List Tm) (u0 u2 u3 u4 u5 u6 : Value) (W : World)
  (t0 : W.cell? ⟨T, 0, none⟩ = some (.int .u64 k.x0)) (t1 : W.cell? ⟨T, 1, none⟩ = some (.int .u64 k.x1)) (t2 : W.cell? ⟨T, 2, none⟩ = some (.int .u64 k.x2)) (t3 : W.cell? ⟨T, 3, none⟩ = some (.int .u64 k.x3))
  (C1 : Hid (∀ y, Below W.heap.size W y → Calls Tryd.prog 10 #[.agg #[.int .i64 1, .int .i64 0]] y fun e w' => ∃ P c, e = .returned (.slice P 1 c) ∧ Lt w' P 1 oneT ∧ Below y.heap.size y w'))
  (C3 : Hid (∀ P c y, Below W.heap.size W y → Lt y P 1 oneT → Calls Tryd.prog 22 #[.slice P 1 c, .agg #[.int .u64 k.x0, .int .u64 k.x1, .int .u64 k.x2, .int .u64 k.x3]] y fun e w' => ∃ v, e = .returned v ∧ Lq y X v w'))
  (HQ : Hid (∀ (wz y : World) (P : Option Addr) (c : Nat) (v : Value), Below W.heap.size W y ∧ Lq y X v wz → Q .normal ⟨#[u0, .pointer (some ⟨T, 0, none⟩), v, .agg #[.int .i64 1, .int .i64 0], .slice P 1 c, .agg #[.int .u64 k.x0, .int .u64 k.x1, .int .u64 k.x2, .int .u64 k.x3], v], []⟩ wz)) : (Code.region 1 co1o true).wp Tryd.prog Q ⟨#[u0, .pointer (some ⟨T, 0, none⟩), u2, u3, u4, u5, u6], []⟩ W := by
 unfold co1o
 refine wp_region_noPanic ?_
 refine wp_region_held_drew (S := fun x => Below W.heap.size W x) (by kernel_rfl) (bl_drew W) (fun hH0 => ?_)
 refine tk 0 co1o_0 (.agg #[.int .i64 1, .int .i64 0]) rfl (by kernel_rfl) hH0 rfl (fun w0 hSw => ?_) ?_
 ·(unfold co1o_0; clear hSw; go_simp)
 simp only [co1o_0, Act.put, sA, sB, sC]
 refine tk 2 co1o_2 (.agg #[.int .u64 k.x0, .int .u64 k.x1, .int .u64 k.x2, .int .u64 k.x3]) rfl (by kernel_rfl) hH0 rfl (fun w0 hSw => ?_) ?_
 ·(unfold co1o_2; have hS : Below W.heap.size W w0 := hSw; have a0 := cell_keep t0 hS; have a1 := cell_keep t1 hS; have a2 := cell_keep t2 hS; have a3 := cell_keep t3 hS; clear hS hSw; go_simp)
 simp only [co1o_2, Act.put, sA, sB, sC]
 refine wpAnyH_ready (rs := [1]) (by kernel_rfl) (by simp) ?_
 refine AllReadyH.cons (o := co1o_1) rfl (fun K hK => ?_) AllReadyH.nil
 unfold co1o_1
 have HH := hidden hH0
 clear hH0
 go_simp
 refine (C1.out _ HH.out).mono ?_
 rintro e wn1 ⟨P, c, rfl, hl, hb⟩
 have SN := hidden (bl_trans HH.out hb)
 have LT := hidden (hl)
 clear HH C1 hb hl
 go_wp2_with fail
 refine hK.out _ _ SN.out (fun hH1 => ?_)
 clear hK K SN
 refine wpAnyH_ready (rs := [3]) (by kernel_rfl) (by simp) ?_
 refine AllReadyH.cons (o := co1o_3) rfl (fun K hK => ?_) AllReadyH.nil
 unfold co1o_3
 have HH := hidden hH1
 clear hH1
 go_simp
 refine (C3.out P c _ HH.out LT.out).mono ?_
 rintro e wn2 ⟨v, rfl, hq⟩
 have SN := hidden (bl_trans HH.out hq.2.1)
 have LQ := hidden (And.intro HH.out hq)
 clear HH C3 hq LT
 go_wp2_with fail
 refine hK.out _ _ SN.out (fun hH2 => ?_)
 clear hK K SN
 refine tk 4 co1o_4 (v) rfl (by kernel_rfl) hH2 rfl (fun w0 hSw => ?_) ?_
 ·(unfold co1o_4; clear hSw; go_simp)
 simp only [co1o_4, Act.put, sA, sB, sC]
 have HH := hidden hH2
 have FQ := hidden (HQ.out _ _ P c v LQ.out)
 refine wpAnyH_done (by kernel_rfl) ?_ _
 refine NoPanic.normal ?_
 exact FQ.out
theorem of_lt (q : Wr) (w : World) : Calls Tryd.prog 10 #[.agg #[.int .i64 q.1, .int .i64 q.2]] w fun e w' => ∃ P c, e = .returned (.slice P 1 c) ∧ Lt w' P 1 (fun _ => ⟨q, lst 1⟩) ∧ Below w.heap.size w w' :=
 (Of_any q w).mono fun e w' ⟨v, he, ho, hb, _⟩ => by
  obtain ⟨P, c, e1, _, _⟩ := own_shT ho
  subst e1
  refine ⟨P, c, he, ?_, hb⟩
  have := own_lts (X := [(q, 1)]) ho
  exact this.congr (fun k hk => by obtain rfl : k = 0 := (by simp at hk; omega); rfl)
theorem Const_any (k : E4) (w : World) (hT : Tb w) (hk : k.ok) : Calls Tryd.prog 24 #[.agg #[.int .u64 k.x0, .int .u64 k.x1, .int .u64 k.x2, .int .u64 k.x3]] w fun e w' => ∃ v, e = .returned v ∧ Lq w (lf Sm.L (glM k 1 oneT)) v w' := by
 have HB := hidden (bl_alloc w (.cells #[.int .u64 k.x0, .int .u64 k.x1, .int .u64 k.x2, .int .u64 k.x3] 41))
 have C1 := hidden (fun y => of_lt (1, 0) y)
 simp only at C1
 have C2 := hidden (fun P c y (hT : Tb y) (h : Lt y P 1 oneT) => Times_any P 1 c oneT k y hT (by omega) hk (fun _ _ => lst_ok 1) h)
 have HT := hidden hT
 clear hT hk
 generalize lf Sm.L (glM k 1 oneT) = X at *
 go_enter Tryd.func24, Tryd.ntmps24
 go_upto_region 1 with fail
 have t0 : (w.alloc (.cells #[.int .u64 k.x0, .int .u64 k.x1, .int .u64 k.x2, .int .u64 k.x3] 41)).cell? ⟨w.heap.size, 0, none⟩ = some (.int .u64 k.x0) := by go_simp
 have t1 : (w.alloc (.cells #[.int .u64 k.x0, .int .u64 k.x1, .int .u64 k.x2, .int .u64 k.x3] 41)).cell? ⟨w.heap.size, 1, none⟩ = some (.int .u64 k.x1) := by go_simp
 have t2 : (w.alloc (.cells #[.int .u64 k.x0, .int .u64 k.x1, .int .u64 k.x2, .int .u64 k.x3] 41)).cell? ⟨w.heap.size, 2, none⟩ = some (.int .u64 k.x2) := by go_simp
 have t3 : (w.alloc (.cells #[.int .u64 k.x0, .int .u64 k.x1, .int .u64 k.x2, .int .u64 k.x3] 41)).cell? ⟨w.heap.size, 3, none⟩ = some (.int .u64 k.x3) := by go_simp
 generalize w.alloc (.cells #[.int .u64 k.x0, .int .u64 k.x1, .int .u64 k.x2, .int .u64 k.x3] 41) = w1 at *
 refine co1 _ w.heap.size k X _ _ _ _ _ _ w1 t0 t1 t2 t3 (hidden (fun y _ => C1.out y)) (hidden (fun P c y hy hl => C2.out P c y (HT.out.keep (bl_trans HB.out hy)) hl)) (hidden ?_)
 intro wz y P c v hz
 have HZ := hidden hz
 clear hz C1 C2 t0 t1 t2 t3
 go_wp2_with fail
 refine bodyPost_ret (v := v) (by simp [results, Tryd.results24, go_sem]) rfl ⟨v, rfl, ?_⟩
 have hy := bl_trans HB.out HZ.out.1
 exact ⟨own_monoT HZ.out.2.1 hy.size, bl_trans hy HZ.out.2.2.1, HZ.out.2.2.2⟩
end Ci
end Go.Proofs.YtclihahohhhhiaaDoor
