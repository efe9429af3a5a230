import Derived.Test.YtghcfcglakbkeaaGreatDoorCmez
namespace Go.Proofs.YtghcfcglakbkeaaGreatDoor
open Go.RowKit
set_option linter.unusedVariables false
set_option linter.unusedSimpArgs false
open Cm (Wr Tm co bf Ls lf ins Eqm)
open Go.ChangeMaps (setBlock heap_setBlock_same heap_setBlock_other)
namespace Ci
set_option maxRecDepth 100000
set_option maxHeartbeats 4000000
theorem ins_nil (w : World) : Calls Tryz.prog 161 #[.slice none 0 0, .int .i64 0, .int .i64 0, .func (.func 146) #[] #[]] w fun e w' => e = .returned (.tuple #[]) ∧ w' = w := by
 go_enter Tryz.func161, Tryz.ntmps161
 go_wp2_with fail
 go_loopw [8] (fun iv w' => w' = w ∧ iv = .int .i64 1) (fun _ _ => 0)
 case atStart => exact ⟨rfl, rfl⟩
 case round =>
  obtain ⟨rfl, rfl⟩ := hrel
  go_wp2_with fail
  go_end0
  exact ⟨rfl, rfl⟩
theorem pdq_nil (w : World) : Calls Tryz.prog 155 #[.slice none 0 0, .int .i64 0, .int .i64 0, .int .i64 0, .func (.func 146) #[] #[]] w fun e w' => e = .returned (.tuple #[]) ∧ w' = w := by
 have C := Hn (ins_nil w)
 go_enter Tryz.func155, Tryz.ntmps155
 go_wp2_with fail
 go_loopw [1, 2] (fun av bv w' => w' = w ∧ av = .int .i64 0 ∧ bv = .int .i64 0) (fun _ _ _ => 0)
 case atStart => exact ⟨rfl, rfl, rfl⟩
 case round =>
  obtain ⟨rfl, rfl, rfl⟩ := hrel
  go_wp2_with (go_at_call 161; refine C.out.mono ?_; rintro e w1 ⟨rfl, rfl⟩)
  refine bodyPost_ret (v := .tuple #[]) (by simp [results, Tryz.results155, go_sem]) rfl ⟨rfl, rfl⟩
theorem sort_nil (w : World) : Calls Tryz.prog 145 #[.slice none 0 0, .func (.func 146) #[] #[]] w fun e w' => e = .returned (.tuple #[]) ∧ w' = w := by
 have C1 := Hn (lenT 0 w (by omega))
 have e0 : Go.Lib.bitLen 0 = 0 := by decide
 rw [e0] at C1
 have C2 := Hn (pdq_nil w)
 go_enter Tryz.func145, Tryz.ntmps145
 go_wp2_with (first | (go_at_call 156; refine C1.out.mono ?_; rintro e w1 ⟨rfl, rfl⟩) | (go_at_call 155; refine C2.out.mono ?_; rintro e w1 ⟨rfl, rfl⟩))
 go_end0
 exact ⟨rfl, rfl⟩
def Eqc (S M : List Tm) : Prop := ∀ q, co S q = co M q
section
variable (w : World) {ops : Array Oper} {rest : List Oper} {o : Oper} {a : Act} {Q : Exit → Act → World → Prop}
theorem wpList_rangeC (hg : o.guard = none) (m : Operand) (hop : o.op = Op.range 132 m) (b : Nat) (M : List Tm) (hm : a.eval m = .map (some b)) (h : Mp w b M)
  (hK : ∀ w', Rg w' b w.heap.size M [] → Below w.heap.size w w' → wpList Tryz.prog ops Q rest (a.put o.dst (.pointer (some ⟨w.heap.size, 0, none⟩))) w') : wpList Tryz.prog ops Q (o :: rest) a w := by
 refine wpList_plain hg fun K' hK' => ?_
 obtain ⟨w', hrun, r1, r2⟩ := h.range
 unfold Oper.wp
 simp [execOp, hop, hm, hrun, Result.andThen]
 exact hK' _ _ (hK w' r1 r2)
theorem wpList_nextC (hg : o.guard = none) (it : Operand) (hop : o.op = Op.next it false) (b r : Nat) (M S : List Tm) (hit : a.eval it = .pointer (some ⟨r, 0, none⟩)) (h : Rg w b r M S)
  (hDone : Eqc S M → wpList Tryz.prog ops Q rest (a.put o.dst (.tuple #[.bool false])) w)
  (hMore : ∀ (qk qi n : Int) (z : E4) (w' : World), lst n = z → Rg w' b r M (S ++ [((qk, qi), n)]) → S.length < M.length → w.grownBy w' (some r) → (Instr.entry (.pointer (some ⟨r, 0, none⟩))).run Tryz.prog w' = .ok (.tuple #[.agg #[.int .i64 qk, .int .i64 qi], .agg #[.int .u64 z.x0, .int .u64 z.x1, .int .u64 z.x2, .int .u64 z.x3]]) w' → wpList Tryz.prog ops Q rest (a.put o.dst (.tuple #[.bool true, .agg #[.int .i64 qk, .int .i64 qi], .agg #[.int .u64 z.x0, .int .u64 z.x1, .int .u64 z.x2, .int .u64 z.x3]])) w') :
  wpList Tryz.prog ops Q (o :: rest) a w := by
 refine wpList_plain hg fun K' hK' => ?_
 unfold Oper.wp
 rcases h.next o.type with ⟨h0, hrun⟩ | ⟨x, w', hrun, h1, h2, h3, h4⟩
 ·simp [execOp, hop, hit, hrun, Result.andThen]
  exact hK' _ _ (hDone h0)
 ·obtain ⟨⟨qk, qi⟩, n⟩ := x
  have hk := hMore qk qi n (lst n) w' rfl h1 h2 h3 h4
  clear hMore hDone
  simp only [wv, E4.v] at hrun
  generalize lst n = z at *
  simp [execOp, hop, hit, hrun, Result.andThen]
  exact hK' _ _ hk
theorem run_clearC {w : World} {b : Nat} {M : List Tm} (h : Mp w b M) (ty : TypeId) : ∃ w', (Builtin.clear_ #[132] ty #[.map (some b)]).run Tryz.prog w = .ok (.tuple #[]) w' ∧ Mp w' b [] ∧ w.grownBy w' (some b) := by
 obtain ⟨es, clock, hb, hm⟩ := h
 have ht : Tryz.prog.underlying 132 = some (.map 79 41) := by kernel_rfl
 refine ⟨setBlock w b (.map #[] clock), ?_, ⟨#[], clock, heap_setBlock_same hb _, me_nil clock⟩, grown_block hb _⟩
 simp [Builtin.clear_, Sem.run_bind, run_underlying ht, MapKept.run_getObj_map hb, MapKept.run_setObj_map _ hb, Result.andThen, setBlock]
end
theorem Rg.left {w : World} {b r : Nat} {M S : List Tm} (h : Rg w b r M S) : w.rangeLeft b r + S.length = M.length := by
 obtain ⟨es, clock, seen, c0, h1, h2, h3, h4, h5, h6, h7, h8, h9⟩ := h
 unfold World.rangeLeft
 rw [h1, h3]
 simp only
 omega
def nz (S : List Tm) : List Tm := S.filter fun x => decide (x.2 ≠ 0)
theorem nz_app (S : List Tm) (x : Tm) : nz (S ++ [x]) = if x.2 = 0 then nz S else nz S ++ [x] := by
 unfold nz
 rw [List.filter_append]
 by_cases h : x.2 = 0 <;> simp [h]
theorem nz_le (S : List Tm) : (nz S).length ≤ S.length := List.length_filter_le _ _
theorem nz_co (S : List Tm) (q : Wr) : co (nz S) q = co S q := by
 induction S with
 | nil => rfl
 | cons x S ih =>
  unfold nz at *
  by_cases h : x.2 = 0
  ·rw [List.filter_cons_of_neg (by simp [h]), ih, Cm.co_cons, h]; split <;> omega
  ·rw [List.filter_cons_of_pos (by simp [h]), Cm.co_cons, Cm.co_cons, ih]
theorem Rg.own {w : World} {b r : Nat} {M S : List Tm} (h : Rg w b r M S) {base : Nat} {t : TypeId} {v : Value} {n : Nat} {xs : List Value} (ho : w.ownsRow base t 6 v n xs) {w' : World} (hg : w.grownBy w' v.ownBlock) : Rg w' b r M S := by
 have hne : ∀ k o, w.heap[k]? = some o → (∀ cs e fr, o ≠ .cells cs e fr) → some k ≠ v.ownBlock := fun k o hk hn e => by
  rcases ho.2 with ⟨rfl, -⟩ | ⟨g, c, cur, rfl, _, k1, _⟩
  ·cases e
  ·simp only [Value.ownBlock, Option.some.injEq] at e
   subst e
   rw [k1] at hk
   exact hn _ _ _ (Option.some.inj hk).symm
 have hb : some b ≠ v.ownBlock := by
  obtain ⟨es, clock, seen, c0, h1, h2, h3, _⟩ := h
  exact hne b _ h1 (by simp)
 have hr : some r ≠ v.ownBlock := by
  obtain ⟨es, clock, seen, c0, h1, h2, h3, _⟩ := h
  exact hne r _ h3 (by simp)
 exact h.grown hg hb hr
theorem own_keepT {w1 w2 : World} {base s : Nat} {e : TypeId} {v : Value} {n : Nat} {xs : List Value} (h : w1.ownsRow base e s v n xs) (hb : Below w1.heap.size w1 w2) : w2.ownsRow base e s v n xs := ⟨h.1, by
 rcases h.2 with h0 | ⟨g, c, cur, h1, h2, h3, h4⟩
 ·exact .inl h0
 ·exact .inr ⟨g, c, cur, h1, h2, (hb.block g (Array.getElem?_eq_some_iff.1 h3).1).trans h3, h4⟩⟩
theorem own_keepM {w1 w2 : World} {base s b : Nat} {e : TypeId} {v : Value} {n : Nat} {xs : List Value} (h : w1.ownsRow base e s v n xs) (hg : w1.grownBy w2 (some b)) (hn : ∀ cs t fr, w1.heap[b]? ≠ some (.cells cs t fr)) : w2.ownsRow base e s v n xs := ⟨h.1, by
 rcases h.2 with h0 | ⟨g, c, cur, h1, h2, h3, h4⟩
 ·exact .inl h0
 ·exact .inr ⟨g, c, cur, h1, h2, (hg.block g (Array.getElem?_eq_some_iff.1 h3).1 (fun e => hn _ _ _ (by rw [← Option.some.inj e]; exact h3))).trans h3, h4⟩⟩
theorem Rg.nor {w : World} {b r : Nat} {M S : List Tm} (h : Rg w b r M S) : ∀ cs t fr, w.heap[r]? ≠ some (.cells cs t fr) := fun cs t fr e => by
 obtain ⟨es, clock, seen, c0, h1, h2, h3, _⟩ := h
 rw [h3] at e; cases e
theorem Mp.nob {w : World} {b : Nat} {M : List Tm} (h : Mp w b M) : ∀ cs t fr, w.heap[b]? ≠ some (.cells cs t fr) := fun cs t fr e => by
 obtain ⟨es, clock, h1, _⟩ := h
 rw [h1] at e; cases e
theorem own_nilT (w : World) (base : Nat) : w.ownsRow base 123 6 (.slice none 0 0) (nz []).length (tls (nz [])) := World.ownsRow_nil _ _ _ _
theorem tinfo : (Tryz.prog.info? 123) = some (Tryz.prog.info? 123).get! := by kernel_rfl
structure Tr (w : World) (b r : Nat) (M S : List Tm) (v : Value) (w' : World) : Prop where
 rg : Rg w' b r M S
 own : w'.ownsRow w.heap.size 123 6 v (nz S).length (tls (nz S))
 bel : Below w.heap.size w w'
 rl : w.heap.size ≤ r
def Td (w : World) (b : Nat) (M : List Tm) (v : Value) (w' : World) : Prop := ∃ X : List Tm, w'.ownsRow w.heap.size 123 6 v X.length (tls X) ∧ Ls Sm.L X ∧ (∀ p, co X p = co M p) ∧ X.length ≤ M.length ∧ Mp w' b [] ∧ w.grownBy w' (some b)
theorem flat_tls (X : List Tm) : (X.map tmOf).flatMap Trm.cs = tls X := by rw [tls_map, List.flatMap_map]
theorem cells_newT (w : World) (cs : List Value) (t : TypeId) : ∀ j u, cs[j]? = some u → (w.alloc (.cells cs.toArray t)).cell? ((⟨w.heap.size, 0, none⟩ : Addr).add j) = some u := by
 intro j u hu
 rw [Addr.add_mid, Nat.zero_add, cell_of_row (w.alloc (.cells cs.toArray t)) w.heap.size j cs.toArray t (0, 0) (heap_alloc_new w _)]
 simpa using hu
theorem six_one (a b : Int) (z : E4) : ∀ u ∈ ([.int .i64 a, .int .i64 b, .int .u64 z.x0, .int .u64 z.x1, .int .u64 z.x2, .int .u64 z.x3] : List Value), u.oneCell' = true := by
 intro v hv
 simp only [List.mem_cons, List.not_mem_nil, or_false] at hv
 rcases hv with rfl | rfl | rfl | rfl | rfl | rfl <;> rfl
theorem told_bel {w w2 w3 w4 : World} {t : TypeId} {v : Value} {n : Nat} {xs : List Value} (h2 : Below w.heap.size w w2) (h3 : Below w2.heap.size w2 w3) (ho : w2.ownsRow w.heap.size t 6 v n xs) (hg : w3.grownBy w4 v.ownBlock) : Below w.heap.size w w4 := by
 have h := h2.trans (h3.mono h2.size)
 exact h.grown hg h.size (fun k hk => (ho.lt k hk).1)
theorem nz_mem {S : List Tm} {x : Tm} (h : x ∈ nz S) : x ∈ S ∧ x.2 ≠ 0 := by
 unfold nz at h
 have := List.mem_filter.1 h
 exact ⟨this.1, by simpa using this.2⟩
def unT (t : Trm) : Tm := (t.q, t.a.n)
theorem un_tm (x : Tm) (h : 0 ≤ x.2 ∧ x.2 < Sm.L) : unT (tmOf x) = x := by
 unfold unT tmOf
 refine Prod.ext rfl ?_
 show (lst x.2).n = x.2
 rw [lst_n, Int.emod_eq_of_lt h.1 h.2]
theorem Rg.mem {w : World} {b r : Nat} {M S : List Tm} (h : Rg w b r M S) : (∀ x ∈ S, 0 ≤ x.2 ∧ x.2 < Sm.L) ∧ S.Pairwise (fun x y => x.1 ≠ y.1) := by
 obtain ⟨es, clock, seen, c0, h1, h2, h3, h4, h5, h6, h7, h8, h9⟩ := h
 exact ⟨h9, h7⟩
theorem told_end0 {w wr w7 : World} {b r : Nat} {M S : List Tm} (hrg : Rg wr b r M S) (hb : Below w.heap.size w wr) (hd : Eqc S M) (h0 : (nz S).length = 0) (hm : Mp w7 b []) (hg : wr.grownBy w7 (some b)) : Td w b M (.slice none 0 0) w7 := by
 have e : nz S = [] := List.length_eq_zero_iff.1 h0
 refine ⟨[], World.ownsRow_nil _ _ _ _, Cm.ls_nil _, fun p => ?_, by simp, hm, gb_tr (gbI hb _) hg⟩
 rw [← hd p, ← nz_co S p, e]
theorem told_end {w wr w7 w8 : World} {b r g k c : Nat} {M S : List Tm} (hrg : Rg wr b r M S) (hb : Below w.heap.size w wr) (hd : Eqc S M) (hk : (nz S).length = k) (hm : Mp w7 b []) (hg : wr.grownBy w7 (some b)) (ho7 : w7.ownsRow w.heap.size 123 6 (.slice (some ⟨g, 0, none⟩) k c) k (tls (nz S))) (hs : So w7 w.heap.size g k c 123 ((nz S).map tmOf) w8) : Td w b M (.slice (some ⟨g, 0, none⟩) k c) w8 := by
 obtain ⟨hg8, D', hp, hs, ho⟩ := hs
 have hz := Rg.mem hrg
 have hin : ∀ x ∈ nz S, 0 ≤ x.2 ∧ x.2 < Sm.L := fun x hx => hz.1 x (nz_mem hx).1
 have hX : (D'.map unT).Perm (nz S) := by
  have := hp.map unT
  rw [List.map_map, List.map_congr_left (f := unT ∘ tmOf) (g := id) (fun x hx => un_tm x (hin x hx)), List.map_id] at this
  exact this
 have hD : (D'.map unT).map tmOf = D' := by
  rw [List.map_map]
  have : ∀ t ∈ D', (tmOf ∘ unT) t = t := fun t ht => by
   obtain ⟨x, hx, rfl⟩ := List.mem_map.1 (hp.mem_iff.1 ht)
   show tmOf (unT (tmOf x)) = tmOf x
   rw [un_tm x (hin x hx)]
  rw [List.map_congr_left (g := id) this, List.map_id]
 have hlen : (D'.map unT).length = k := by rw [hX.length_eq, hk]
 have hgb : g ≠ b := fun e => by
  rcases ho7.2 with ⟨h', _⟩ | ⟨g', c', cur, h', h1, h2, _⟩
  ·simp at h'
  ·simp only [Value.slice.injEq, Option.some.injEq, Addr.mk.injEq, and_true, true_and] at h'
   obtain ⟨rfl, rfl⟩ := h'
   subst e
   exact Mp.nob hm _ _ _ h2
 have hbg : w.heap.size ≤ g := (ho.lt g rfl).1
 refine ⟨D'.map unT, ?_, ⟨?_, ?_⟩, ?_, ?_, hm.grown hg8 (fun e => hgb (Option.some.inj e).symm), World.grownBy.andThen (gb_tr (gbI hb _) hg) hg8 (fun j hj => .inl (by obtain rfl := Option.some.inj hj; exact hbg))⟩
 ·rw [hlen, ← flat_tls, hD]; exact ho
 ·have h1 : (D'.map unT).Pairwise (fun x y => bf y.1 x.1 = false) := by
   rw [List.pairwise_map]
   exact hs
  have h2 : (D'.map unT).Pairwise (fun x y => x.1 ≠ y.1) := (hX.pairwise_iff (fun h => Ne.symm h)).2 (List.Pairwise.filter _ hz.2)
  refine (h1.and h2).imp (fun {x y} h => ?_)
  cases e : bf x.1 y.1 with
  | true => rfl
  | false => exact absurd (Cm.bf_tri _ _ e h.1) h.2
 ·intro x hx
  have hx1 := hX.mem_iff.1 hx
  have := hin x hx1
  have := (nz_mem hx1).2
  omega
 ·intro p
  rw [Cm.co_perm hX, nz_co, hd p]
 ·have := hrg.le
  have := nz_le S
  rw [hlen, ← hk]
  omega
theorem told_any (b : Nat) (M : List Tm) (w : World) (hT : Tb w) (hM : Mp w b M) (hn : M.length ≤ 2932031007402) :
  Calls Tryz.prog 116 #[.map (some b)] w fun e w' => ∃ v : Value, e = .returned v ∧ Td w b M v w' := by
 have HM := Hn hM
 have HT := Hn hT
 have HN := Hn hn
 have HI := Hn tinfo
 have HZ0 : Hid ((Tryz.prog.info? 123).get!.zero = some (.agg #[.int .i64 0, .int .i64 0, .int .u64 0, .int .u64 0, .int .u64 0, .int .u64 0])) := Hn (by kernel_rfl)
 have HZ1 : Hid ((Tryz.prog.info? 123).get!.size = 6) := Hn (by kernel_rfl)
 have HZ2 : Hid ((Tryz.prog.info? 123).get!.bytes = 48) := Hn (by kernel_rfl)
 have T1 : Hid (Tryz.prog.underlying 38 = some (.slice 123)) := Hn (by kernel_rfl)
 clear hM hT hn
 go_enter Tryz.func116, Tryz.ntmps116
 go_wp2_with (first | (at_range; refine wpList_rangeC _ rfl _ rfl b M rfl HM.out ?_; intro w0 hrg hb0; have TR := Hn (⟨hrg, own_nilT w0 w.heap.size, hb0, Nat.le_refl _⟩ : Tr w b w.heap.size M [] (.slice none 0 0) w0); clear hrg hb0))
 go_frame
 generalize hr : w.heap.size = r at TR ⊢
 clear hr
 go_loopw [3] (fun v w' => ∃ S, Hid (Tr w b r M S v w')) (fun _ w' => w'.rangeLeft b r)
 case atStart => exact ⟨[], TR⟩
 case round =>
  clear TR
  obtain ⟨S, hS⟩ := hrel
  have hrg := hS.out.rg
  go_wp2_with (first | (at_next; refine wpList_nextC _ rfl _ rfl b r M S rfl hrg ?_ ?_))
  ·intro hdone
   have HD := Hn hdone
   have OW := hS.out.own
   have RB := hS.out.bel
   have RM := hS.out.rg.mp
   have RL := Hn hS.out.rl
   have HW := Hn (And.intro hS.out.rg (And.intro OW (And.intro RB RM)))
   clear hdone hrg hS RB
   rcases OW.2 with ⟨hv, h0⟩ | ⟨g, c, cur, hv, hg1, hg2, -⟩
   ·have C := Hn sort_nil
    clear OW
    subst hv
    obtain ⟨w7, hcl, hm7, hg7⟩ := run_clearC RM 0
    have M7 := Hn hm7
    have G7 := Hn hg7
    clear hm7 hg7 RM
    go_wp2_with (first | (go_at_call 145; refine (C.out _).mono ?_; rintro e w8 ⟨rfl, rfl⟩))
    refine bodyPost_ret (v := .slice none 0 0) (by simp [results, Tryz.results116, go_sem]) rfl ⟨_, rfl, ?_⟩
    exact told_end0 HW.out.1 HW.out.2.2.1 HD.out h0 M7.out G7.out
   ·subst hv
    have hl : (nz S).length = ((nz S).map tmOf).length := by simp
    have hn62 : ((nz S).map tmOf).length < 4611686018427387904 := by have := nz_le S; have := HW.out.1.le; have := HN.out; simp; omega
    have C := Hn (fun w' (h : w'.ownsRow w.heap.size 123 6 (.slice (some ⟨g, 0, none⟩) (nz S).length c) (nz S).length (tls (nz S))) => sort_any g c w.heap.size ((nz S).map tmOf) w' (by rw [← hl, flat_tls]; exact h) hn62)
    have HL := Hn hl
    rw [← hl] at C
    clear OW hg1 hg2 hl hn62 cur
    have NB := Hn (Mp.nob RM)
    generalize hk : (nz S).length = k at *
    have HK := Hn hk
    clear hk
    obtain ⟨w7, hcl, hm7, hg7⟩ := run_clearC RM 0
    have M7 := Hn hm7
    have G7 := Hn hg7
    have O7 := Hn (own_keepM HW.out.2.1 hg7 NB.out)
    clear hm7 hg7 RM
    go_wp2_with (first | (go_at_call 145; refine (C.out _ O7.out).mono ?_; rintro e w8 ⟨rfl, h8⟩; have S8 := Hn h8; clear h8))
    refine bodyPost_ret (v := .slice (some ⟨g, 0, none⟩) k c) (by simp [results, Tryz.results116, go_sem]) rfl ⟨_, rfl, ?_⟩
    exact told_end HW.out.1 HW.out.2.2.1 HD.out HK.out M7.out G7.out O7.out S8.out
  ·intro qk qi n z w2 hz hrg2 hlt hg2 hen
   have HR2 := Hn hrg2
   have ho2 := own_keepM hS.out.own hg2 (Rg.nor hrg)
   have hb2 : Below w.heap.size w w2 := hS.out.bel.grown hg2 hS.out.bel.size (fun k hk => by obtain rfl := Option.some.inj hk; exact hS.out.rl)
   have O2 := Hn ho2
   have B2 := Hn hb2
   have LT := Hn (And.intro hlt (And.intro (Rg.left hrg) (Rg.left hrg2)))
   have RL := Hn hS.out.rl
   have ZN : Hid (lst n = z) := Hn hz
   have NR : Hid (0 ≤ n ∧ n < Sm.L) := Hn (by
    obtain ⟨es, clock, seen, c0, h1, h2, h3, h4, h5, h6, h7, h8, h9⟩ := hrg2
    exact h9 ((qk, qi), n) (by simp))
   have OK := Hn (show z.ok from hz ▸ lst_ok n)
   have T2 := Hn (HT.out.keep hb2)
   have HS := hS
   clear hz hrg2 hlt hg2 ho2 hb2 hS hrg
   have zn : z.n % Sm.L = n := by rw [← ZN.out, lst_n, Int.emod_emod_of_dvd _ (Int.dvd_refl _)]; exact Int.emod_eq_of_lt NR.out.1 NR.out.2
   by_cases h0 : n = 0
   ·have IZ := Hn (fun v T => IsZero_any z v T OK.out)
    have ed : decide (z.n % Sm.L = 0) = true := decide_eq_true (by rw [zn, h0])
    rw [ed] at IZ
    simp only [E4.v] at IZ
    have EN := Hn (show nz (S ++ [((qk, qi), n)]) = nz S by rw [nz_app, if_pos h0])
    clear ed zn h0
    go_wp2_with (first | (go_at_call 73; refine (IZ.out _ (T2.out.keep (bl_alloc2 _ _ _))).mono ?_; rintro e w3 ⟨rfl, hb⟩; have B3 := Hn (bl_trans (bl_alloc2 _ _ _) hb); clear hb))
    go_roundw
    case rel => exact ⟨S ++ [((qk, qi), n)], Hn ⟨HR2.out.keep B3.out, by rw [EN.out]; exact own_keepT O2.out B3.out, Below.trans B2.out (B3.out.mono B2.out.size), RL.out⟩⟩
    case measure =>
     have l1 := Rg.left (HR2.out.keep B3.out)
     have l2 := LT.out.2.1
     simp only [List.length_append, List.length_singleton] at l1
     omega
   ·have IZ := Hn (fun v T => IsZero_any z v T OK.out)
    have ed : decide (z.n % Sm.L = 0) = false := decide_eq_false (by rw [zn]; exact h0)
    rw [ed] at IZ
    simp only [E4.v] at IZ
    have EN := Hn (show nz (S ++ [((qk, qi), n)]) = nz S ++ [((qk, qi), n)] by rw [nz_app, if_neg h0])
    have KL : Hid ((nz S).length + 1 ≤ 2932031007402) := Hn (by have := nz_le S; have := LT.out.1; have := HN.out; omega)
    have TE : Hid ((tmOf ((qk, qi), n)).cs = [.int .i64 qk, .int .i64 qi, .int .u64 z.x0, .int .u64 z.x1, .int .u64 z.x2, .int .u64 z.x3]) := Hn (by unfold tmOf Trm.cs; rw [ZN.out])
    clear ed zn h0
    generalize hk : (nz S).length = k at *
    have HK := Hn hk
    clear hk
    go_wp2_with (first | (go_at_call 73; refine (IZ.out _ (T2.out.keep (bl_alloc2 _ _ _))).mono ?_; rintro e w3 ⟨rfl, hb⟩; have B3 := Hn (bl_trans (bl_alloc2 _ _ _) hb); have y0 : w3.cell? ⟨w2.heap.size, 0, none⟩ = some (.int .i64 qk) := cell_keep (by go_simp) hb; have y1 : w3.cell? ⟨w2.heap.size, 1, none⟩ = some (.int .i64 qi) := cell_keep (by go_simp) hb; have z0 : w3.cell? ⟨w2.heap.size + 1, 0, none⟩ = some (.int .u64 z.x0) := cell_keep (by go_simp) hb; have z1 : w3.cell? ⟨w2.heap.size + 1, 1, none⟩ = some (.int .u64 z.x1) := cell_keep (by go_simp) hb; have z2 : w3.cell? ⟨w2.heap.size + 1, 2, none⟩ = some (.int .u64 z.x2) := cell_keep (by go_simp) hb; have z3 : w3.cell? ⟨w2.heap.size + 1, 3, none⟩ = some (.int .u64 z.x3) := cell_keep (by go_simp) hb; clear hb) | (at_builtin; refine wpList_append_own_at _ rfl _ _ 38 rfl w.heap.size 123 _ _ 6 48 T1.out HI.out HZ0.out HZ1.out HZ2.out rfl (by decide) _ k (tls (nz S)) rfl (own_keepT O2.out (bl_trans B3.out (bl_alloc _ _))) ⟨w3.heap.size, 0, none⟩ 1 1 [.int .i64 qk, .int .i64 qi, .int .u64 z.x0, .int .u64 z.x1, .int .u64 z.x2, .int .u64 z.x3] rfl rfl (cells_newT _ _ _) (six_one _ _ _) (by have := KL.out; unfold maxLen; omega) (by have := KL.out; omega) (by have := B2.out.size; have := B3.out.size; simp; omega) ?_; intro v4 w4 ho4 hg4 _ _; have O4 := Hn ho4; have G4 := Hn hg4; clear ho4 hg4))
    have R4 := Hn (Rg.own (HR2.out.keep (bl_trans B3.out (bl_alloc w3 (.cells #[.int .i64 qk, .int .i64 qi, .int .u64 z.x0, .int .u64 z.x1, .int .u64 z.x2, .int .u64 z.x3] 123)))) (own_keepT O2.out (bl_trans B3.out (bl_alloc w3 (.cells #[.int .i64 qk, .int .i64 qi, .int .u64 z.x0, .int .u64 z.x1, .int .u64 z.x2, .int .u64 z.x3] 123)))) G4.out)
    go_roundw
    case rel => exact ⟨S ++ [((qk, qi), n)], Hn ⟨R4.out, by rw [EN.out, tls_snoc, TE.out, List.length_append, List.length_singleton, HK.out]; exact O4.out, told_bel B2.out (bl_trans B3.out (bl_alloc _ _)) O2.out G4.out, RL.out⟩⟩
    case measure =>
     have l1 := Rg.left R4.out
     have l2 := LT.out.2.1
     simp only [List.length_append, List.length_singleton] at l1
     omega
end Ci
end Go.Proofs.YtghcfcglakbkeaaGreatDoor
