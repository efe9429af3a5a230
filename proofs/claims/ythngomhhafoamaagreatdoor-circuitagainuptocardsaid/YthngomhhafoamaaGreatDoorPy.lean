import Derived.Test.YthngomhhafoamaaGreatDoorPz
set_option linter.unusedVariables false
set_option maxRecDepth 100000
set_option maxHeartbeats 8000000
namespace Go.Proofs.YthngomhhafoamaaGreatDoor
open Go.RowKit
def Lm (w : World) (P : Option Addr) (n : Nat) (g : Nat → E4) : Prop := ∃ sb so : Nat, (0 < n → P = some ⟨sb, so, none⟩) ∧ (0 < n → Rl w sb so n g)
theorem Lm.keep {w1 w2 : World} {P : Option Addr} {n : Nat} {g : Nat → E4} (h : Lm w1 P n g) (hb : Below w1.heap.size w1 w2) : Lm w2 P n g := by
 obtain ⟨sb, so, h1, h2⟩ := h
 exact ⟨sb, so, h1, fun hl => (h2 hl).keep hb⟩
def pc (s : Nat → E4) (LV RV : Value) : List Value := [.int .u64 (s 0).x0, .int .u64 (s 0).x1, .int .u64 (s 0).x2, .int .u64 (s 0).x3, .int .u64 (s 1).x0, .int .u64 (s 1).x1, .int .u64 (s 1).x2, .int .u64 (s 1).x3, .int .u64 (s 2).x0, .int .u64 (s 2).x1, .int .u64 (s 2).x2, .int .u64 (s 2).x3, .int .u64 (s 3).x0, .int .u64 (s 3).x1, .int .u64 (s 3).x2, .int .u64 (s 3).x3, .int .u64 (s 4).x0, .int .u64 (s 4).x1, .int .u64 (s 4).x2, .int .u64 (s 4).x3, .int .u64 (s 5).x0, .int .u64 (s 5).x1, .int .u64 (s 5).x2, .int .u64 (s 5).x3, .int .u64 (s 6).x0, .int .u64 (s 6).x1, .int .u64 (s 6).x2, .int .u64 (s 6).x3, LV, RV, .int .u64 (s 7).x0, .int .u64 (s 7).x1, .int .u64 (s 7).x2, .int .u64 (s 7).x3, .int .u64 (s 8).x0, .int .u64 (s 8).x1, .int .u64 (s 8).x2, .int .u64 (s 8).x3]
def rb (k : Nat) (l r : Nat → E4) : List UInt8 := (List.range k).flatMap fun i => eb (l i).n ++ eb (r i).n
theorem rb_succ (k : Nat) (l r : Nat → E4) : rb (k + 1) l r = rb k l r ++ (eb (l k).n ++ eb (r k).n) := by simp [rb, List.range_succ]
theorem rb_len (k : Nat) (l r : Nat → E4) : (rb k l r).length = 64 * k := by
 induction k with
 | zero => rfl
 | succ k ih => rw [rb_succ, List.length_append, List.length_append, ih, eb_len, eb_len]; omega
def pe (k : Nat) (s l r : Nat → E4) : List UInt8 := ef 7 s ++ rb k l r ++ (eb (s 7).n ++ eb (s 8).n)
theorem pe_len (k : Nat) (s l r : Nat → E4) : (pe k s l r).length = 32 * (9 + 2 * k) := by
 unfold pe
 rw [List.length_append, List.length_append, List.length_append, ef_len, rb_len, eb_len, eb_len]; omega
structure Es (w0 : World) (G B cap : Nat) (s : Nat → E4) (LP RP : Option Addr) (n cL cR : Nat) (l r : Nat → E4) (bs : List UInt8) (w : World) : Prop where
 bel : Below w0.heap.size w0 w
 tb : Tb w
 box : w.rangeAt B 0 (pc s (.slice LP n cL) (.slice RP n cR))
 ll : Lm w LP n l
 rr : Lm w RP n r
 own : w.ownsRow w0.heap.size 5 1 (.slice (some ⟨G, 0, none⟩) bs.length cap) bs.length (Tr.cb bs)
theorem Lm.kp {G : Nat} {w w' : World} {P : Option Addr} {n : Nat} {g : Nat → E4} (h : Lm w P n g) (k : Tr.Kp G w w') (hne : ∀ a, P = some a → a.block ≠ G) : Lm w' P n g := by
 obtain ⟨sb, so, h1, h2⟩ := h
 exact ⟨sb, so, h1, fun hl => (h2 hl).kp k (hne _ (h1 hl))⟩
theorem range_kp {G : Nat} {w w' : World} {b o : Nat} {cs : List Value} (h : w.rangeAt b o cs) (k : Tr.Kp G w w') (hne : b ≠ G) : w'.rangeAt b o cs := fun j v hv => kp_cell k (h j v hv) hne
theorem Es.step {w0 : World} {G B cap : Nat} {s : Nat → E4} {LP RP : Option Addr} {n cL cR : Nat} {l r : Nat → E4} {bs bs' : List UInt8} {w w' : World} (h : Es w0 G B cap s LP RP n cL cR l r bs w) (k : Tr.Kp G w w') (hG : w0.heap.size ≤ G) (hB : B ≠ G) (hL : ∀ a, LP = some a → a.block ≠ G) (hR : ∀ a, RP = some a → a.block ≠ G) (hT : 0 ≠ G)
  (ho : w'.ownsRow w0.heap.size 5 1 (.slice (some ⟨G, 0, none⟩) bs'.length cap) bs'.length (Tr.cb bs')) : Es w0 G B cap s LP RP n cL cR l r bs' w' :=
 ⟨Tr.below_trans h.bel (k.below hG h.bel.size), h.tb.kp k hT, range_kp h.box k hB, h.ll.kp k hL, h.rr.kp k hR, ho⟩
end Go.Proofs.YthngomhhafoamaaGreatDoor
namespace Go.Proofs.YthngomhhafoamaaGreatDoor
open Go.RowKit
theorem wpList_make {w : World} {ops : Array Oper} {rest : List Oper} {o : Oper} {a : Act} {Q : Exit → Act → World → Prop} (hgd : o.guard = none) (x : Operand)
  (ho : o.op = .makeSlice 44 (.const (.int .i64 0)) x) (c base : Nat) (hx : a.eval x = .int .i64 (c : Int)) (hc : c ≤ 1048576) (hb : base ≤ w.heap.size)
  (h : ∀ w', w'.ownsRow base 5 1 (.slice (some ⟨w.heap.size, 0, none⟩) 0 c) 0 [] → w.grownBy w' none → wpList Tryz.prog ops Q rest (a.put o.dst (.slice (some ⟨w.heap.size, 0, none⟩) 0 c)) w') : wpList Tryz.prog ops Q (o :: rest) a w := by
 refine wpList_plain hgd fun K hK => ?_
 have h1 : Tryz.prog.underlying 44 = some (.slice 5) := by kernel_rfl
 have hi : Tryz.prog.info? 5 = some (Tryz.prog.info? 5).get! := by kernel_rfl
 have hz : (Tryz.prog.info? 5).get!.zero = some (.int .u8 0) := by kernel_rfl
 have hs : (Tryz.prog.info? 5).get!.size = 1 := by kernel_rfl
 have hy : (Tryz.prog.info? 5).get!.bytes = 1 := by kernel_rfl
 obtain ⟨w', hr, h2, h3⟩ := run_makeSlice_owned (P := Tryz.prog) w base _ _ _ _ 1 h1 hi hz hs .i64 .i64 c (by omega) (by rw [hy]; omega) (by unfold maxLen; omega) hb
 have e0 : a.eval (.const (.int .i64 0)) = .int .i64 0 := rfl
 unfold Oper.wp execOp
 simp only [ho, e0, hx, Sem.run_bind, Sem.run_pure, Result.andThen_ok, hr]
 exact hK _ _ (h w' h2 h3)
theorem ready_assign {P : Program} {ops : Array Oper} {o : Oper} {a : Act} {w : World} {K : Act → World → Prop} {Q : Exit → Act → World → Prop} {E : Prop} (hg : o.guard = none) (x : Operand) (ho : o.op = .assign x) (v : Value) (hv : a.eval x = v) (d : Option Tmp) (hd : o.dst = d) (h : K (a.put d v) w) : if Region.wanted o (yielded ops a.tmps) = true then Oper.wp P o a w K Q else E := by
 have hw : Region.wanted o (yielded ops a.tmps) = true := by simp [Region.wanted, hg]
 rw [if_pos hw]
 subst hv hd
 unfold Oper.wp execOp
 simp only [ho]
 exact h
def f2 (a b : E4) : Nat → E4
 | 0 => a | _ => b
theorem ef_2 (a b : E4) : ef 2 (f2 a b) = eb a.n ++ eb b.n := by rw [ef_succ, ef_succ, ef_zero]; rfl
theorem ef_add (m n : Nat) (g : Nat → E4) : ef (m + n) g = ef m g ++ ef n (fun k => g (m + k)) := by
 induction n with
 | zero => simp [ef_zero]
 | succ n ih => rw [← Nat.add_assoc, ef_succ, ih, ef_succ, List.append_assoc]
end Go.Proofs.YthngomhhafoamaaGreatDoor
namespace Go.Proofs.YthngomhhafoamaaGreatDoor
open Go.RowKit
theorem run_arrayAt {P : Program} {w : World} {t e : TypeId} {n len cap : Nat} {a : Addr} (h : P.underlying t = some (.array n e)) (hl : n ≤ len) :
  (Instr.arrayAt t (.slice (some a) len cap)).run P w = .ok (.pointer (some a)) w := by
 have hl2 : ¬ len < n := by omega
 simp [Instr.arrayAt, run_underlying h, hl2, go_sem]
theorem results_tri {fn : Func} {p q r : Tmp} {ty : TypeId} (h : fn.results = #[.cell p ty, .tmp q, .tmp r]) (tmps : Array Value) (P : Program) (w : World) (a : Addr) (v u x : Value) (ha : tmps.getD p undef = .pointer (some a)) (hu : tmps.getD q undef = u) (hx : tmps.getD r undef = x) (hl : (loadVar ty a).run P w = .ok v w) :
  (results fn tmps).run P w = .ok (.tuple #[v, u, x]) w := by
 have ha' : tmps[p]?.getD undef = .pointer (some a) := by rw [← ha]; simp [Array.getD_eq_getD_getElem?]
 have hu' : tmps[q]?.getD undef = u := by rw [← hu]; simp [Array.getD_eq_getD_getElem?]
 have hx' : tmps[r]?.getD undef = x := by rw [← hx]; simp [Array.getD_eq_getD_getElem?]
 simp only [results, h]
 simp [Result.andThen, ha', hu', hx', asAddr, hl]
theorem ready_store {P : Program} {ops : Array Oper} {o : Oper} {a : Act} {w : World} {K : Act → World → Prop} {Q : Exit → Act → World → Prop} {E : Prop} (hg : o.guard = none) (ty : TypeId) (x y : Operand) (ho : o.op = .store ty x y) (hd : o.dst = none)
  (b off : Nat) (cs : List Value) (hx : a.eval x = .pointer (some ⟨b, off, none⟩)) (hy : a.eval y = .agg cs.toArray) (ht : w.there b off cs.toArray.size) (hi : (P.info? ty).map (·.size) = some cs.toArray.size) (h1 : cs.toArray.all (·.oneCell') = true)
  (h : K a (w.setCells b off cs)) : if Region.wanted o (yielded ops a.tmps) = true then Oper.wp P o a w K Q else E := by
 have hw : Region.wanted o (yielded ops a.tmps) = true := by simp [Region.wanted, hg]
 rw [if_pos hw]
 refine wp_store_mid ty x y ho b off cs.toArray hx hy ht hi h1 ?_
 rw [hd, List.toList_toArray]
 exact h
theorem wpList_storeL {P : Program} {ops : Array Oper} {rest : List Oper} {o : Oper} {a : Act} {w : World} {Q : Exit → Act → World → Prop} (hg : o.guard = none) (ty : TypeId) (x y : Operand) (ho : o.op = .store ty x y) (hd : o.dst = none)
  (b off : Nat) (cs : List Value) (hx : a.eval x = .pointer (some ⟨b, off, none⟩)) (hy : a.eval y = .agg cs.toArray) (ht : w.there b off cs.toArray.size) (hi : (P.info? ty).map (·.size) = some cs.toArray.size) (h1 : cs.toArray.all (·.oneCell') = true)
  (h : wpList P ops Q rest a (w.setCells b off cs)) : wpList P ops Q (o :: rest) a w := by
 refine wpList_store_mid hg ty x y ho b off cs.toArray hx hy ht hi h1 ?_
 rw [hd, List.toList_toArray]
 exact h
def d4 (bs : List UInt8) : E4 := cond (decide (dn (bs.take 32) < Sm.L)) (lst (dn (bs.take 32))) zero4
def de (bs : List UInt8) : Int := cond (decide (dn (bs.take 32) < Sm.L)) 0 3
theorem dec_val (bs : List UInt8) : cond (decide ((num (zi (bs.take 32)) : Int) < Sm.L)) (limE (num (zi (bs.take 32)))) zero4 = d4 bs := by
 unfold d4
 show cond (decide (dn (bs.take 32) < Sm.L)) (limE (dn (bs.take 32))) zero4 = _
 by_cases h : dn (bs.take 32) < Sm.L
 ·rw [limE_lst _ (dn_ge _) h]
 ·simp [h]
theorem sdec (bs : List UInt8) (w : World) (hT : Tb w) (hl : 32 ≤ bs.length) : Calls Tryz.prog 97 #[.agg (Tr.cb (bs.take 32)).toArray] w fun e w' => e = .returned (.tuple #[(d4 bs).v, .int .i64 (de bs)]) ∧ Below w.heap.size w w' := by
 have h := Decode_any (zi (bs.take 32)) w hT (by rw [zi_len, List.length_take]; omega) (zi_bd _) _ rfl
 rw [dec_val] at h
 unfold bv at h
 rw [zi_cb] at h
 exact h
theorem by_take {w : World} {b o c : Nat} {bs : List UInt8} (h : Tr.By w (some ⟨b, o, none⟩) c bs) (k : Nat) : w.rangeAt b o (Tr.cb (bs.take k)) := fun j u hu => by
 have := h.lie _ rfl j u (by
  have e : (Tr.cb (bs.take k))[j]? = some u := hu
  unfold Tr.cb at e ⊢
  rw [List.map_take, List.getElem?_take] at e
  split at e
  ·exact e
  ·cases e)
 rw [Addr.add_mid] at this
 exact this
theorem tk_i {bs : List UInt8} (h : 32 ≤ bs.length) : (Tryz.prog.info? 79).map (·.size) = some (Tr.cb (bs.take 32)).length := by rw [Tr.cb_len, List.length_take, Nat.min_eq_left h]; kernel_rfl
def pPy30 : String := "reader.go:76"
def toldSo_0 : Oper := oO 11 (Op.load 132 (Operand.tmp 1)) 132 pPy30 #[]
def toldSo_1 : Oper := oO 12 (Op.move (Operand.tmp 0)) 44 pPy30 #[]
def toldSo_2 : Oper := oO 13 (Op.slice 44 (Operand.tmp 12) none (some (Operand.const (Value.int IntKind.i64 32))) none) 44 pPy30 #[DD 1]
def toldSo_3 : Oper := oO 14 (Op.sliceToArrayPointer 79 (Operand.tmp 13)) 0 pPy30 #[DD 2]
def toldSo_4 : Oper := oO 15 (Op.load 79 (Operand.tmp 14)) 79 pPy30 #[DD 3]
def toldSo_5 : Oper := oO 16 (Op.call { callee := Callee.value (Operand.tmp 11), args := #[Operand.tmp 15], argTypes := #[79] }) 61 pPy30 #[DD 0, DD 4]
def toldSo_6 : Oper := oO 10 (Op.move (Operand.tmp 16)) 61 pPy30 #[DD 5]
def toldSo_7 : Oper := oO 17 (Op.extract (Operand.tmp 10) 0) 35 pPy30 #[DD 6]
def toldSo_8 : Oper := oO 18 (Op.extract (Operand.tmp 10) 1) 41 pPy30 #[DD 6, { on := 9, ground := Ground.gcOnly Departure.lateStores }]
def toldSo_9 : Oper := oN (Op.store 35 (Operand.tmp 3) (Operand.tmp 17)) pPy30 #[DD 7, CH 5, PH 0, PH 1, PH 2, PH 3, PH 4, PH 5, PH 6, PH 7, { on := 8, ground := Ground.textOnly Departure.lateStores }]
def toldSo_10 : Oper := oO 5 (Op.assign (Operand.tmp 18)) 41 pPy30 #[DD 8, CH 9, PH 0, PH 1, PH 2, PH 3, PH 4, PH 5, PH 6, PH 7, PH 8, PH 9]
def toldSo : Array Oper := #[toldSo_0, toldSo_1, toldSo_2, toldSo_3, toldSo_4, toldSo_5, toldSo_6, toldSo_7, toldSo_8, toldSo_9, toldSo_10]
theorem i4S (z : E4) : (Tryz.prog.info? 35).map (·.size) = some ([.int .u64 z.x0, .int .u64 z.x1, .int .u64 z.x2, .int .u64 z.x3] : List Value).length := by kernel_rfl
theorem i4aS (z : E4) : (Tryz.prog.info? 35).map (·.size) = some ([.int .u64 z.x0, .int .u64 z.x1, .int .u64 z.x2, .int .u64 z.x3] : List Value).toArray.size := i4S z
def fvS : Value := .func (.func 97) #[] #[]
set_option maxRecDepth 100000 in
set_option maxHeartbeats 8000000 in
theorem toldS (b o c X : Nat) (bs : List UInt8) (w : World) (hT : Tb w) (hB : Tr.By w (some ⟨b, o, none⟩) c bs) (h32 : 32 ≤ bs.length) (hc : bs.length ≤ c) (hX : w.cell? ⟨X, 0, none⟩ = some fvS) :
  Calls Tryz.prog 110 #[.slice (some ⟨b, o, none⟩) bs.length c, .pointer (some ⟨X, 0, none⟩)] w fun e w' => e = .returned (.tuple #[(d4 bs).v, .int .i64 32, .int .i64 (de bs)]) ∧ Below w.heap.size w w' := by
 have CD := Hn (fun x T => sdec bs x T h32)
 have SK : Hid (∀ x, Below w.heap.size w x → Below w.heap.size w x ∧ x.cell? ⟨X, 0, none⟩ = some fvS ∧ x.rangeAt b o (Tr.cb (bs.take 32))) := Hn (fun x h => ⟨h, cell_keep hX h, fun j u hu => cell_keep (by_take hB 32 j u hu) h⟩)
 have IB := Hn (tk_i h32)
 have UB : Hid (Tryz.prog.underlying 79 = _) := Hn b_und
 have TT := Hn (fun x (h : Below w.heap.size w x) => hT.keep h)
 have n0 : ¬ (bs.length : Int) < 32 := by omega
 have n1 : (32 : Int) ≤ (c : Int) := by omega
 have n2 : (32 : Int) ≤ (bs.length : Int) := by omega
 generalize d4 bs = z at CD ⊢
 generalize de bs = er at CD ⊢
 have MM := Hn ((Mw.start w).new [.int .u64 0, .int .u64 0, .int .u64 0, .int .u64 0] 35)
 have B0 := Hn (bl_alloc w (.cells #[.int .u64 0, .int .u64 0, .int .u64 0, .int .u64 0] 35))
 generalize hW : w.alloc (.cells #[.int .u64 0, .int .u64 0, .int .u64 0, .int .u64 0] 35) = W at MM B0
 clear hT hB h32 hc hX
 unfold fvS at SK
 unfold E4.v at CD ⊢
 generalize bs.length = n at n0 n2 ⊢
 generalize Tr.cb (bs.take 32) = cs at CD SK IB
 go_enter Tryz.func110, Tryz.ntmps110
 go_upto_region 3 with fail
 clear hW n0
 refine wp_region_noPanic ?_
 refine wp_region_held_drew (S := fun x => Below w.heap.size w x ∧ x.cell? ⟨X, 0, none⟩ = some (.func (.func 97) #[] #[]) ∧ x.rangeAt b o cs) (by kernel_rfl) (SK.out _ (bl_trans B0.out (Tr.drew_blW W))) (fun hHeld => ?_)
 change wpAnyH Tryz.prog .any toldSo _ _ 11 #[false, false, false, false, false, false, false, false, false, false, false] _ _
 refine tj 0 toldSo_0 (.func (.func 97) #[] #[]) hHeld (fun w0 hSw => ?_) ?_
 ·(unfold toldSo_0 oO; obtain ⟨s0, s1, s2⟩ := hSw; clear s0 s2; go_simp)
 simp only [toldSo_0, oO, Act.put, sA, sB, sC]
 refine tj 1 toldSo_1 (.slice (some ⟨b, o, none⟩) n c) hHeld (fun w0 hSw => ?_) ?_
 ·(unfold toldSo_1 oO; clear hSw; go_simp)
 simp only [toldSo_1, oO, Act.put, sA, sB, sC]
 refine tj 2 toldSo_2 (.slice (some ⟨b, o, none⟩) 32 c) hHeld (fun w0 hSw => ?_) ?_
 ·(unfold toldSo_2 oO; clear hSw; go_simp)
 simp only [toldSo_2, oO, Act.put, sA, sB, sC]
 refine tj 3 toldSo_3 (.pointer (some ⟨b, o, none⟩)) hHeld (fun w0 hSw => ?_) ?_
 ·(unfold toldSo_3 oO; clear hSw; have hu := UB.out; have hx := run_arrayAt (P := Tryz.prog) (w := w0) (t := 79) (n := 32) (len := 32) (cap := c) (a := ⟨b, o, none⟩) hu (Nat.le_refl _); go_simp)
 simp only [toldSo_3, oO, Act.put, sA, sB, sC]
 refine wpAnyH_take (i := 4) (oi := toldSo_4) (v := .agg (cs).toArray) rfl (by kernel_rfl) (by kernel_rfl) (by kernel_rfl) (fun _ _ _ h => h) (yieldsIf_load_mid (by rfl) 79 _ rfl (b) (o) rfl (cs) _ (fun w0 hSw => hSw.2.2) UB.out rfl IB.out) hHeld ?_
 simp only [toldSo_4, oO, Act.put, sA, sB, sC]
 refine ar [5] ?_
 refine ac toldSo_5 (fun K hK => ?_) AllReadyH.nil
 unfold toldSo_5 oO
 skip
 have HH := Hn hHeld
 clear hHeld
 go_simp
 refine (CD.out _ (TT.out _ HH.out.1)).mono ?_
 rintro e wa ⟨rfl, hb⟩
 have SN := Hn (SK.out _ (bl_trans HH.out.1 hb))
 have MA := Hn ((MM.out.keep (Tr.drew_blW W)).keep hb)
 clear HH hb MM
 go_wp2_with fail
 refine hK.out _ _ SN.out (fun hHeld1 => ?_)
 clear hK K
 refine tj 6 toldSo_6 (.tuple #[.agg #[.int .u64 z.x0, .int .u64 z.x1, .int .u64 z.x2, .int .u64 z.x3], .int .i64 er]) hHeld1 (fun w0 hSw => ?_) ?_
 ·(unfold toldSo_6 oO; clear hSw; go_simp)
 simp only [toldSo_6, oO, Act.put, sA, sB, sC]
 refine tj 7 toldSo_7 (.agg #[.int .u64 z.x0, .int .u64 z.x1, .int .u64 z.x2, .int .u64 z.x3]) hHeld1 (fun w0 hSw => ?_) ?_
 ·(unfold toldSo_7 oO; clear hSw; go_simp)
 simp only [toldSo_7, oO, Act.put, sA, sB, sC]
 refine tj 8 toldSo_8 (.int .i64 er) hHeld1 (fun w0 hSw => ?_) ?_
 ·(unfold toldSo_8 oO; clear hSw; go_simp)
 simp only [toldSo_8, oO, Act.put, sA, sB, sC]
 refine ar [9] ?_
 refine ac toldSo_9 (fun K hK => ?_) AllReadyH.nil
 unfold toldSo_9 oN
 clear hHeld1
 have TH := Hn (MA.out.ther [.int .u64 z.x0, .int .u64 z.x1, .int .u64 z.x2, .int .u64 z.x3] (c := w.heap.size) (o := [.int .u64 0, .int .u64 0, .int .u64 0, .int .u64 0]) (by simp) (by simp))
 have M2 := Hn (MA.out.set (M := []) [.int .u64 z.x0, .int .u64 z.x1, .int .u64 z.x2, .int .u64 z.x3] (c := w.heap.size) (o := [.int .u64 0, .int .u64 0, .int .u64 0, .int .u64 0]) (by simp) (by simp) (by simp))
 have I4 := Hn (i4aS z)
 have O4 := Hn (c4_one z)
 refine ready_store rfl 35 _ _ rfl rfl w.heap.size 0 [.int .u64 z.x0, .int .u64 z.x1, .int .u64 z.x2, .int .u64 z.x3] (by rfl) (by rfl) TH.out I4.out O4.out ?_
 refine hK.out _ _ (SK.out _ M2.out.bel) (fun hz => ?_)
 clear hK K hz TH MA SN
 generalize hV : wa.setCells w.heap.size 0 [.int .u64 z.x0, .int .u64 z.x1, .int .u64 z.x2, .int .u64 z.x3] = V at M2 ⊢
 have M3 := M2
 clear hV M2
 refine ar [10] ?_
 refine ac toldSo_10 (fun K hK => ?_) AllReadyH.nil
 unfold toldSo_10 oO
 refine ready_assign rfl _ rfl (.int .i64 er) (by rfl) (some 5) rfl ?_
 simp only [Act.put, sA, sB, sC]
 refine hK.out _ _ (SK.out _ M3.out.bel) (fun hz => ?_)
 clear hK K hz
 refine wpAnyH_done (by kernel_rfl) ?_ _
 refine NoPanic.normal ?_
 have RC := Hn (M3.out.r (w.heap.size, [.int .u64 z.x0, .int .u64 z.x1, .int .u64 z.x2, .int .u64 z.x3]) (by simp)).1
 have TH := Hn (M3.out.ther [.int .u64 z.x0, .int .u64 z.x1, .int .u64 z.x2, .int .u64 z.x3] (c := w.heap.size) (o := [.int .u64 z.x0, .int .u64 z.x1, .int .u64 z.x2, .int .u64 z.x3]) (by simp) (by simp))
 have M4 := Hn (M3.out.set (M := []) [.int .u64 z.x0, .int .u64 z.x1, .int .u64 z.x2, .int .u64 z.x3] (c := w.heap.size) (o := [.int .u64 z.x0, .int .u64 z.x1, .int .u64 z.x2, .int .u64 z.x3]) (by simp) (by simp) (by simp))
 have I5 := Hn (i4S z)
 have UT : Hid (Tryz.prog.underlying 35 = _) := Hn Tryz.underlying35
 have LD := Hn (M4.out.var (c := w.heap.size) (ds := [.int .u64 z.x0, .int .u64 z.x1, .int .u64 z.x2, .int .u64 z.x3]) (by simp) UT.out rfl I5.out)
 go_wp2_with (first | refine wpList_load_mid rfl 35 _ rfl w.heap.size 0 (by rfl) [.int .u64 z.x0, .int .u64 z.x1, .int .u64 z.x2, .int .u64 z.x3] _ RC.out UT.out rfl I5.out ?_ | refine wpList_storeL rfl 35 _ _ rfl rfl w.heap.size 0 [.int .u64 z.x0, .int .u64 z.x1, .int .u64 z.x2, .int .u64 z.x3] (by rfl) (by rfl) TH.out I4.out O4.out ?_)
 refine bodyPost_ret (v := .tuple #[.agg [.int .u64 z.x0, .int .u64 z.x1, .int .u64 z.x2, .int .u64 z.x3].toArray, .int .i64 32, .int .i64 er]) (results_tri Tryz.results110 _ _ _ _ _ _ _ (by rfl) (by rfl) (by rfl) LD.out) rfl ⟨rfl, M4.out.bel⟩
end Go.Proofs.YthngomhhafoamaaGreatDoor
namespace Go.Proofs.YthngomhhafoamaaGreatDoor
open Go.RowKit
theorem rd_kp {w w' : World} {g b c : Nat} {P : Option Addr} {bs : List UInt8} {e : Int} (h : Tr.Rd w g P c bs e) (k : Tr.Kp b w w') (hg : g ≠ b) (hP : ∀ a, P = some a → a.block ≠ b) : Tr.Rd w' g P c bs e :=
 ⟨(k.block g h.glt hg).trans h.at', k.by' h.by' (fun a ha => ⟨hP a ha, (h.fr a ha).2⟩), fun a ha => ⟨(h.fr a ha).1, Nat.lt_of_lt_of_le (h.fr a ha).2 k.size⟩, h.cap⟩
theorem kp_new {g b : Nat} {w w1 w2 : World} (h : Tr.Kp g w w1) (k : Tr.Kp b w1 w2) (hb : w.heap.size ≤ b) : Tr.Kp g w w2 :=
 ⟨k.os.trans h.os, k.tape.trans h.tape, k.output.trans h.output, Nat.le_trans h.size k.size, fun j hj hne => (k.block j (Nat.lt_of_lt_of_le hj h.size) (by omega)).trans (h.block j hj hne)⟩
theorem kp_setCells (b : Nat) : ∀ (vs : List Value) (o : Nat) (w : World), Tr.Kp b w (w.setCells b o vs)
 | [], _, w => Tr.Kp.refl _ _
 | v :: vs, o, w => by
  rw [World.setCells]
  exact (Tr.Kp.grown (Tr.grown_set w b o v)).trans (kp_setCells b vs (o + 1) _)
theorem there_kp {G : Nat} {w w' : World} {b n : Nat} (h : w.there b 0 n) (k : Tr.Kp G w w') (hne : b ≠ G) : w'.there b 0 n := fun j hj => by
 obtain ⟨h1, h2⟩ := h j hj
 obtain ⟨u, hu⟩ := Option.isSome_iff_exists.1 h1
 have hl := World.block_lt_of_cell? w _ hu
 have hk := k.block b hl hne
 exact ⟨by rw [World.cell?_of_block (a := ⟨b, 0 + j, none⟩) hk]; exact h1, by rw [World.frozen?_of_block (a := ⟨b, 0 + j, none⟩) hk]; exact h2⟩
def nb (bs : List UInt8) (e : Int) : List UInt8 := if e = 0 ∧ de bs = 0 then bs.drop 32 else bs
def ne (bs : List UInt8) (e : Int) : Int := if e = 0 then de bs else e
def nd (bs : List UInt8) (e : Int) : E4 := if e = 0 then d4 bs else zero4
theorem de_or (bs : List UInt8) : de bs = 0 ∨ (de bs = 3 ∧ d4 bs = zero4) := by
 unfold de d4
 by_cases h : dn (bs.take 32) < Sm.L
 ·left; simp [h]
 ·right; simp [h]
theorem readS_no {w : World} {g c : Nat} {P : Option Addr} {bs : List UInt8} {e : Int} (f : Value) (h : Tr.Rd w g P c bs e) (he : e ≠ 0) :
  Calls Tryz.prog 109 #[.pointer (some ⟨g, 0, none⟩), f] w fun r w' => r = .returned (.agg #[.int .u64 0, .int .u64 0, .int .u64 0, .int .u64 0]) ∧ Below w.heap.size w w' := by
 have B0 := Hn (Tr.bl_trans (Tr.bl_alloc w (.cells #[.int .u64 0, .int .u64 0, .int .u64 0, .int .u64 0] 35)) (Tr.bl_alloc _ (.cells #[.int .u64 0, .int .u64 0, .int .u64 0, .int .u64 0] 35)))
 have E := Hn (Tr.err_any (h.keep B0.out))
 have n0 : (e != 0) = true := by simpa using he
 clear h he
 go_enter Tryz.func109, Tryz.ntmps109
 go_wp2_with (first | (go_at_call 72; refine E.out.mono ?_; rintro r w2 ⟨rfl, rfl⟩; clear E))
 refine bodyPost_ret (v := .agg #[.int .u64 0, .int .u64 0, .int .u64 0, .int .u64 0]) (by simp [results, Tryz.results109, go_sem]) rfl ⟨rfl, B0.out⟩
theorem readS_okB {w : World} {g c X b o : Nat} {bs : List UInt8} (hT : Tb w) (h : Tr.Rd w g (some ⟨b, o, none⟩) c bs 0) (h32 : 32 ≤ bs.length) (hX : w.cell? ⟨X, 0, none⟩ = some fvS) (hd : de bs = 0) :
  Calls Tryz.prog 109 #[.pointer (some ⟨g, 0, none⟩), .func (.func 110) #[] #[.pointer (some ⟨X, 0, none⟩)]] w fun e w' => ∃ (P' : Option Addr) (c' : Nat), e = .returned (d4 bs).v ∧ Tr.Rd w' g P' c' (bs.drop 32) 0 ∧ Tr.Kp g w w' ∧ ∀ a, P' = some a → a.block = b := by
 have M0 := ((Mw.start w).new [.int .u64 0, .int .u64 0, .int .u64 0, .int .u64 0] 35).new [.int .u64 0, .int .u64 0, .int .u64 0, .int .u64 0] 35
 simp only [World.size_alloc] at M0
 have R0 := h.keep M0.bel
 have E := Hn (Tr.err_any R0)
 have T := Hn (toldS b o c X bs _ (hT.keep M0.bel) R0.by' h32 R0.cap (cell_keep hX M0.bel))
 rw [hd] at T
 have GL := Hn h.glt
 have BF := Hn (h.fr _ rfl)
 have x0 := R0.c0
 have RR := Hn R0
 have MM := Hn M0
 have n0 : (32 : Int) ≤ (bs.length : Int) := by omega
 have hc := h.cap
 have HB := Hn h32
 generalize d4 bs = z at T ⊢
 generalize hW : (w.alloc (.cells #[.int .u64 0, .int .u64 0, .int .u64 0, .int .u64 0] 35)).alloc (.cells #[.int .u64 0, .int .u64 0, .int .u64 0, .int .u64 0] 35) = W at T E RR MM x0
 clear hT h hX hd M0 R0
 unfold E4.v at T ⊢
 have GO : ∀ (o' n' d' : Nat), n' = bs.length - 32 → n' ≤ d' → (∀ V, Tr.By V (some ⟨b, o, none⟩) c bs → Tr.By V (some ⟨b, o', none⟩) d' (bs.drop 32)) → ∀ wa, Below W.heap.size W wa → Mw w [(w.heap.size + 1, [.int .u64 0, .int .u64 0, .int .u64 0, .int .u64 0]), (w.heap.size, [.int .u64 0, .int .u64 0, .int .u64 0, .int .u64 0])] wa →
   Tr.Rd (((wa.alloc (.cells #[.int .u64 z.x0, .int .u64 z.x1, .int .u64 z.x2, .int .u64 z.x3] 35)).setCell ⟨g, 0, none⟩ (.slice (some ⟨b, o', none⟩) n' d')).setCells w.heap.size 0 [.int .u64 z.x0, .int .u64 z.x1, .int .u64 z.x2, .int .u64 z.x3]) g (some ⟨b, o', none⟩) d' (bs.drop 32) 0 ∧ Tr.Kp g w (((wa.alloc (.cells #[.int .u64 z.x0, .int .u64 z.x1, .int .u64 z.x2, .int .u64 z.x3] 35)).setCell ⟨g, 0, none⟩ (.slice (some ⟨b, o', none⟩) n' d')).setCells w.heap.size 0 [.int .u64 z.x0, .int .u64 z.x1, .int .u64 z.x2, .int .u64 z.x3]) ∧
   ((wa.alloc (.cells #[.int .u64 z.x0, .int .u64 z.x1, .int .u64 z.x2, .int .u64 z.x3] 35)).setCell ⟨g, 0, none⟩ (.slice (some ⟨b, o', none⟩) n' d')).there w.heap.size 0 ([.int .u64 z.x0, .int .u64 z.x1, .int .u64 z.x2, .int .u64 z.x3] : List Value).toArray.size ∧ (((wa.alloc (.cells #[.int .u64 z.x0, .int .u64 z.x1, .int .u64 z.x2, .int .u64 z.x3] 35)).setCell ⟨g, 0, none⟩ (.slice (some ⟨b, o', none⟩) n' d')).setCells w.heap.size 0 [.int .u64 z.x0, .int .u64 z.x1, .int .u64 z.x2, .int .u64 z.x3]).rangeAt w.heap.size 0 [.int .u64 z.x0, .int .u64 z.x1, .int .u64 z.x2, .int .u64 z.x3] := by
  intro o' n' d' hn hd hy wa hwa MA
  have hl := GL.out
  have R1 := (RR.out.keep hwa).keep (Tr.bl_alloc wa (.cells #[.int .u64 z.x0, .int .u64 z.x1, .int .u64 z.x2, .int .u64 z.x3] 35))
  have R2 := R1.move 32 o' n' d' hn hd (hy _ R1.by')
  have K1 : Tr.Kp g w (wa.alloc (.cells #[.int .u64 z.x0, .int .u64 z.x1, .int .u64 z.x2, .int .u64 z.x3] 35)) := Tr.Kp.of (Tr.bl_trans MA.bel (Tr.bl_alloc wa _))
  have KS := Tr.Kp.grown (Tr.grown_set (wa.alloc (.cells #[.int .u64 z.x0, .int .u64 z.x1, .int .u64 z.x2, .int .u64 z.x3] 35)) g 0 (.slice (some ⟨b, o', none⟩) n' d'))
  have KT := kp_setCells w.heap.size [.int .u64 z.x0, .int .u64 z.x1, .int .u64 z.x2, .int .u64 z.x3] 0 ((wa.alloc (.cells #[.int .u64 z.x0, .int .u64 z.x1, .int .u64 z.x2, .int .u64 z.x3] 35)).setCell ⟨g, 0, none⟩ (.slice (some ⟨b, o', none⟩) n' d'))
  have t0 := (MA.r (w.heap.size, [.int .u64 0, .int .u64 0, .int .u64 0, .int .u64 0]) (by simp)).2.1
  have t1 := there_kp (there_keepM t0 (Tr.bl_alloc wa (.cells #[.int .u64 z.x0, .int .u64 z.x1, .int .u64 z.x2, .int .u64 z.x3] 35))) KS (by simp only; omega)
  have t2 : ((wa.alloc (.cells #[.int .u64 z.x0, .int .u64 z.x1, .int .u64 z.x2, .int .u64 z.x3] 35)).setCell ⟨g, 0, none⟩ (.slice (some ⟨b, o', none⟩) n' d')).there w.heap.size 0 ([.int .u64 z.x0, .int .u64 z.x1, .int .u64 z.x2, .int .u64 z.x3] : List Value).length := by simpa using t1
  exact ⟨rd_kp R2 KT (by omega) (fun a ha => by have := BF.out.2; obtain rfl := Option.some.inj ha; simp only at *; omega), kp_new (K1.trans KS) KT (Nat.le_refl _), by simpa using t1, World.rangeAt_setCells_same _ w.heap.size 0 _ t2⟩
 have HG := Hn GO
 have I4 := Hn (i4aS z)
 have O4 := Hn (c4_one z)
 have I5 := Hn (i4S z)
 have UT : Hid (Tryz.prog.underlying 35 = _) := Hn Tryz.underlying35
 clear GO
 by_cases hcs : c = 32
 ·subst hcs
  have hbl : bs.length = 32 := by omega
  have HQ := Hn (fun wa h1 h2 => HG.out o (bs.length - 32) 0 rfl (by omega) (fun V hV => by rw [List.drop_eq_nil_of_le (by omega)]; exact ⟨fun e => (by cases e), fun a ha j u hu => (by simp [Tr.cb] at hu)⟩) wa h1 h2)
  clear HG hc hbl
  go_enter Tryz.func109, Tryz.ntmps109
  go_wp2_with (first | (go_at_call 72; refine E.out.mono ?_; rintro r w2 ⟨rfl, rfl⟩; clear E) | (go_at_call 110; refine T.out.mono ?_; rintro r wa ⟨rfl, ha⟩; have MA := Hn (MM.out.keep ha); have HA := Hn (HQ.out wa ha MA.out); have GW := Hn (Nat.lt_of_lt_of_le (Nat.lt_of_lt_of_le GL.out MA.out.bel.size) (Nat.le_refl _)); have y0 := ((RR.out.keep ha).keep (Tr.bl_alloc wa (.cells #[.int .u64 z.x0, .int .u64 z.x1, .int .u64 z.x2, .int .u64 z.x3] 35))).c0; have f0 := ((RR.out.keep ha).keep (Tr.bl_alloc wa (.cells #[.int .u64 z.x0, .int .u64 z.x1, .int .u64 z.x2, .int .u64 z.x3] 35))).f 0; have L6 := Hn (range_kp (range_newM wa [.int .u64 z.x0, .int .u64 z.x1, .int .u64 z.x2, .int .u64 z.x3] 35) (Tr.Kp.grown (Tr.grown_set (wa.alloc (.cells #[.int .u64 z.x0, .int .u64 z.x1, .int .u64 z.x2, .int .u64 z.x3] 35)) g 0 (.slice (some ⟨b, o, none⟩) (bs.length - 32) 0))) (Nat.ne_of_gt GW.out)); have LD := Hn (run_loadVar_mid _ w.heap.size 0 35 [.int .u64 z.x0, .int .u64 z.x1, .int .u64 z.x2, .int .u64 z.x3] _ HA.out.2.2.2 UT.out rfl I5.out); clear T x0 ha MM RR HQ hW) | refine wpList_load_mid rfl 35 _ rfl wa.heap.size 0 (by rfl) [.int .u64 z.x0, .int .u64 z.x1, .int .u64 z.x2, .int .u64 z.x3] _ L6.out UT.out rfl I5.out ?_ | refine wpList_storeL rfl 35 _ _ rfl rfl w.heap.size 0 [.int .u64 z.x0, .int .u64 z.x1, .int .u64 z.x2, .int .u64 z.x3] (by rfl) (by rfl) HA.out.2.2.1 I4.out O4.out ?_)
  refine bodyPost_ret (v := .agg [.int .u64 z.x0, .int .u64 z.x1, .int .u64 z.x2, .int .u64 z.x3].toArray) (results_cellM Tryz.results109 _ _ _ _ _ (by rfl) LD.out) rfl ⟨_, _, rfl, HA.out.1, HA.out.2.1, fun a ha => by obtain rfl := Option.some.inj ha; rfl⟩
 ·have n2 : ¬ c = 32 := hcs
  have HQ := Hn (fun wa h1 h2 => HG.out (o + 32) (bs.length - 32) (c - 32) rfl (by omega) (fun V hV => hV.drop 32 _) wa h1 h2)
  clear HG hcs hc
  go_enter Tryz.func109, Tryz.ntmps109
  go_wp2_with (first | (go_at_call 72; refine E.out.mono ?_; rintro r w2 ⟨rfl, rfl⟩; clear E) | (go_at_call 110; refine T.out.mono ?_; rintro r wa ⟨rfl, ha⟩; have MA := Hn (MM.out.keep ha); have HA := Hn (HQ.out wa ha MA.out); have GW := Hn (Nat.lt_of_lt_of_le (Nat.lt_of_lt_of_le GL.out MA.out.bel.size) (Nat.le_refl _)); have y0 := ((RR.out.keep ha).keep (Tr.bl_alloc wa (.cells #[.int .u64 z.x0, .int .u64 z.x1, .int .u64 z.x2, .int .u64 z.x3] 35))).c0; have f0 := ((RR.out.keep ha).keep (Tr.bl_alloc wa (.cells #[.int .u64 z.x0, .int .u64 z.x1, .int .u64 z.x2, .int .u64 z.x3] 35))).f 0; have L6 := Hn (range_kp (range_newM wa [.int .u64 z.x0, .int .u64 z.x1, .int .u64 z.x2, .int .u64 z.x3] 35) (Tr.Kp.grown (Tr.grown_set (wa.alloc (.cells #[.int .u64 z.x0, .int .u64 z.x1, .int .u64 z.x2, .int .u64 z.x3] 35)) g 0 (.slice (some ⟨b, o + 32, none⟩) (bs.length - 32) (c - 32)))) (Nat.ne_of_gt GW.out)); have LD := Hn (run_loadVar_mid _ w.heap.size 0 35 [.int .u64 z.x0, .int .u64 z.x1, .int .u64 z.x2, .int .u64 z.x3] _ HA.out.2.2.2 UT.out rfl I5.out); clear T x0 ha MM RR HQ hW) | refine wpList_load_mid rfl 35 _ rfl wa.heap.size 0 (by rfl) [.int .u64 z.x0, .int .u64 z.x1, .int .u64 z.x2, .int .u64 z.x3] _ L6.out UT.out rfl I5.out ?_ | refine wpList_storeL rfl 35 _ _ rfl rfl w.heap.size 0 [.int .u64 z.x0, .int .u64 z.x1, .int .u64 z.x2, .int .u64 z.x3] (by rfl) (by rfl) HA.out.2.2.1 I4.out O4.out ?_)
  refine bodyPost_ret (v := .agg [.int .u64 z.x0, .int .u64 z.x1, .int .u64 z.x2, .int .u64 z.x3].toArray) (results_cellM Tryz.results109 _ _ _ _ _ (by rfl) LD.out) rfl ⟨_, _, rfl, HA.out.1, HA.out.2.1, fun a ha => by obtain rfl := Option.some.inj ha; rfl⟩
theorem readS_bad {w : World} {g c X b o : Nat} {bs : List UInt8} (hT : Tb w) (h : Tr.Rd w g (some ⟨b, o, none⟩) c bs 0) (h32 : 32 ≤ bs.length) (hX : w.cell? ⟨X, 0, none⟩ = some fvS) (hd : de bs = 3) :
  Calls Tryz.prog 109 #[.pointer (some ⟨g, 0, none⟩), .func (.func 110) #[] #[.pointer (some ⟨X, 0, none⟩)]] w fun e w' => e = .returned (.agg #[.int .u64 0, .int .u64 0, .int .u64 0, .int .u64 0]) ∧ Tr.Rd w' g (some ⟨b, o, none⟩) c bs 3 ∧ Tr.Kp g w w' := by
 have M0 := ((Mw.start w).new [.int .u64 0, .int .u64 0, .int .u64 0, .int .u64 0] 35).new [.int .u64 0, .int .u64 0, .int .u64 0, .int .u64 0] 35
 simp only [World.size_alloc] at M0
 have R0 := h.keep M0.bel
 have E := Hn (Tr.err_any R0)
 have T := Hn (toldS b o c X bs _ (hT.keep M0.bel) R0.by' h32 R0.cap (cell_keep hX M0.bel))
 rw [hd] at T
 have GL := Hn h.glt
 have BF := Hn (h.fr _ rfl)
 have x0 := R0.c0
 have RR := Hn R0
 have MM := Hn M0
 generalize d4 bs = z at T
 generalize hW : (w.alloc (.cells #[.int .u64 0, .int .u64 0, .int .u64 0, .int .u64 0] 35)).alloc (.cells #[.int .u64 0, .int .u64 0, .int .u64 0, .int .u64 0] 35) = W at T E RR MM x0
 clear hT h hX hd M0 R0 h32
 unfold E4.v at T
 have GO : ∀ wa, Below W.heap.size W wa → Mw w [(w.heap.size + 1, [.int .u64 0, .int .u64 0, .int .u64 0, .int .u64 0]), (w.heap.size, [.int .u64 0, .int .u64 0, .int .u64 0, .int .u64 0])] wa →
   Tr.Rd (((wa.alloc (.cells #[.int .u64 z.x0, .int .u64 z.x1, .int .u64 z.x2, .int .u64 z.x3] 35)).setCell ⟨g, 1, none⟩ (.int .i64 3)).setCells w.heap.size 0 [.int .u64 0, .int .u64 0, .int .u64 0, .int .u64 0]) g (some ⟨b, o, none⟩) c bs 3 ∧ Tr.Kp g w (((wa.alloc (.cells #[.int .u64 z.x0, .int .u64 z.x1, .int .u64 z.x2, .int .u64 z.x3] 35)).setCell ⟨g, 1, none⟩ (.int .i64 3)).setCells w.heap.size 0 [.int .u64 0, .int .u64 0, .int .u64 0, .int .u64 0]) ∧
   ((wa.alloc (.cells #[.int .u64 z.x0, .int .u64 z.x1, .int .u64 z.x2, .int .u64 z.x3] 35)).setCell ⟨g, 1, none⟩ (.int .i64 3)).there w.heap.size 0 ([.int .u64 0, .int .u64 0, .int .u64 0, .int .u64 0] : List Value).toArray.size ∧ (((wa.alloc (.cells #[.int .u64 z.x0, .int .u64 z.x1, .int .u64 z.x2, .int .u64 z.x3] 35)).setCell ⟨g, 1, none⟩ (.int .i64 3)).setCells w.heap.size 0 [.int .u64 0, .int .u64 0, .int .u64 0, .int .u64 0]).rangeAt w.heap.size 0 [.int .u64 0, .int .u64 0, .int .u64 0, .int .u64 0] ∧ ((wa.alloc (.cells #[.int .u64 z.x0, .int .u64 z.x1, .int .u64 z.x2, .int .u64 z.x3] 35)).setCell ⟨g, 1, none⟩ (.int .i64 3)).rangeAt (w.heap.size + 1) 0 [.int .u64 0, .int .u64 0, .int .u64 0, .int .u64 0] := by
  intro wa hwa MA
  have hl := GL.out
  have R1 := (RR.out.keep hwa).keep (Tr.bl_alloc wa (.cells #[.int .u64 z.x0, .int .u64 z.x1, .int .u64 z.x2, .int .u64 z.x3] 35))
  have R2 := R1.fail 3
  have K1 : Tr.Kp g w (wa.alloc (.cells #[.int .u64 z.x0, .int .u64 z.x1, .int .u64 z.x2, .int .u64 z.x3] 35)) := Tr.Kp.of (Tr.bl_trans MA.bel (Tr.bl_alloc wa _))
  have KS := Tr.Kp.grown (Tr.grown_set (wa.alloc (.cells #[.int .u64 z.x0, .int .u64 z.x1, .int .u64 z.x2, .int .u64 z.x3] 35)) g 1 (.int .i64 3))
  have KT := kp_setCells w.heap.size [.int .u64 0, .int .u64 0, .int .u64 0, .int .u64 0] 0 ((wa.alloc (.cells #[.int .u64 z.x0, .int .u64 z.x1, .int .u64 z.x2, .int .u64 z.x3] 35)).setCell ⟨g, 1, none⟩ (.int .i64 3))
  have t0 := (MA.r (w.heap.size, [.int .u64 0, .int .u64 0, .int .u64 0, .int .u64 0]) (by simp)).2.1
  have t1 := there_kp (there_keepM t0 (Tr.bl_alloc wa (.cells #[.int .u64 z.x0, .int .u64 z.x1, .int .u64 z.x2, .int .u64 z.x3] 35))) KS (by simp only; omega)
  exact ⟨rd_kp R2 KT (by omega) (fun a ha => by have := BF.out.2; obtain rfl := Option.some.inj ha; simp only at *; omega), kp_new (K1.trans KS) KT (Nat.le_refl _), by simpa using t1, World.rangeAt_setCells_same _ w.heap.size 0 _ t1, range_kp (range_keepM (MA.r (w.heap.size + 1, [.int .u64 0, .int .u64 0, .int .u64 0, .int .u64 0]) (by simp)).1 (Tr.bl_alloc wa (.cells #[.int .u64 z.x0, .int .u64 z.x1, .int .u64 z.x2, .int .u64 z.x3] 35))) KS (by first | omega | (simp only; omega))⟩
 have HQ := Hn GO
 have I4 := Hn (i4aS zero4)
 have O4 := Hn (c4_one zero4)
 have I5 := Hn (i4S zero4)
 have UT : Hid (Tryz.prog.underlying 35 = _) := Hn Tryz.underlying35
 clear GO
 go_enter Tryz.func109, Tryz.ntmps109
 go_wp2_with (first | (go_at_call 72; refine E.out.mono ?_; rintro r w2 ⟨rfl, rfl⟩; clear E) | (go_at_call 110; refine T.out.mono ?_; rintro r wa ⟨rfl, ha⟩; have MA := Hn (MM.out.keep ha); have HA := Hn (HQ.out wa ha MA.out); have FA := Hn (Tr.fail_any ((RR.out.keep ha).keep (Tr.bl_alloc wa (.cells #[.int .u64 z.x0, .int .u64 z.x1, .int .u64 z.x2, .int .u64 z.x3] 35))) 3); have LD := Hn (run_loadVar_mid _ w.heap.size 0 35 [.int .u64 0, .int .u64 0, .int .u64 0, .int .u64 0] _ HA.out.2.2.2.1 UT.out rfl I5.out); clear T x0 ha MM RR HQ hW) | (go_at_call 76; refine FA.out.mono ?_; rintro r w3 ⟨rfl, rfl⟩; clear FA) | refine wpList_load_mid rfl 35 _ rfl (w.heap.size + 1) 0 (by rfl) [.int .u64 0, .int .u64 0, .int .u64 0, .int .u64 0] _ HA.out.2.2.2.2 UT.out rfl I5.out ?_ | refine wpList_storeL rfl 35 _ _ rfl rfl w.heap.size 0 [.int .u64 0, .int .u64 0, .int .u64 0, .int .u64 0] (by rfl) (by rfl) HA.out.2.2.1 I4.out O4.out ?_)
 refine bodyPost_ret (v := .agg [.int .u64 0, .int .u64 0, .int .u64 0, .int .u64 0].toArray) (results_cellM Tryz.results109 _ _ _ _ _ (by rfl) LD.out) rfl ⟨rfl, HA.out.1, HA.out.2.1⟩
end Go.Proofs.YthngomhhafoamaaGreatDoor
namespace Go.Proofs.YthngomhhafoamaaGreatDoor
open Go.RowKit
def Rb (w : World) (g q : Nat) (bs : List UInt8) (e : Int) : Prop := ∃ (P : Option Addr) (c : Nat), Tr.Rd w g P c bs e ∧ ∀ a, P = some a → a.block = q
theorem Rb.keep {w w' : World} {g q : Nat} {bs : List UInt8} {e : Int} (h : Rb w g q bs e) (hb : Below w.heap.size w w') : Rb w' g q bs e := by
 obtain ⟨P, c, h1, h2⟩ := h
 exact ⟨P, c, h1.keep hb, h2⟩
theorem Rb.kp {w w' : World} {g q b : Nat} {bs : List UInt8} {e : Int} (h : Rb w g q bs e) (k : Tr.Kp b w w') (hg : g ≠ b) (hq : q ≠ b) : Rb w' g q bs e := by
 obtain ⟨P, c, h1, h2⟩ := h
 exact ⟨P, c, rd_kp h1 k hg (fun a ha => by rw [h2 a ha]; exact hq), h2⟩
theorem Rb.glt {w : World} {g q : Nat} {bs : List UInt8} {e : Int} (h : Rb w g q bs e) : g < w.heap.size := by
 obtain ⟨P, c, h1, h2⟩ := h
 exact h1.glt
theorem nb_ok {bs : List UInt8} (h : de bs = 0) : nb bs 0 = bs.drop 32 ∧ ne bs 0 = 0 ∧ nd bs 0 = d4 bs := by unfold nb ne nd; simp [h]
theorem nb_bad {bs : List UInt8} (h : de bs = 3) (h2 : d4 bs = zero4) : nb bs 0 = bs ∧ ne bs 0 = 3 ∧ nd bs 0 = zero4 := by unfold nb ne nd; simp [h, h2]
theorem nb_no {bs : List UInt8} {e : Int} (h : e ≠ 0) : nb bs e = bs ∧ ne bs e = e ∧ nd bs e = zero4 := by unfold nb ne nd; simp [h]
theorem readS {w : World} {g q X : Nat} {bs : List UInt8} {e : Int} (hT : Tb w) (h : Rb w g q bs e) (h32 : e = 0 → 32 ≤ bs.length) (hX : w.cell? ⟨X, 0, none⟩ = some fvS) :
  Calls Tryz.prog 109 #[.pointer (some ⟨g, 0, none⟩), .func (.func 110) #[] #[.pointer (some ⟨X, 0, none⟩)]] w fun r w' => r = .returned (nd bs e).v ∧ Rb w' g q (nb bs e) (ne bs e) ∧ Tr.Kp g w w' := by
 obtain ⟨P, c, hR, hq⟩ := h
 by_cases he : e = 0
 ·subst he
  obtain ⟨b, o, rfl⟩ := hR.by'.none' (by have := h32 rfl; omega)
  rcases de_or bs with hd | ⟨hd, hz⟩
  ·obtain ⟨e1, e2, e3⟩ := nb_ok hd
   rw [e1, e2, e3]
   have hl := (hR.fr _ rfl)
   refine (readS_okB hT hR (h32 rfl) hX hd).mono fun r w' ⟨P', c', h1, h2, h3, h4⟩ => ⟨h1, ⟨P', c', h2, fun a ha => (h4 a ha).trans (hq _ rfl)⟩, h3⟩
  ·obtain ⟨e1, e2, e3⟩ := nb_bad hd hz
   rw [e1, e2, e3]
   exact (readS_bad hT hR (h32 rfl) hX hd).mono fun r w' ⟨h1, h2, h3⟩ => ⟨h1, ⟨_, _, h2, hq⟩, h3⟩
 ·obtain ⟨e1, e2, e3⟩ := nb_no (bs := bs) he
  rw [e1, e2, e3]
  exact (readS_no _ hR he).mono fun r w' ⟨h1, h2⟩ => ⟨h1, ⟨P, c, hR.keep h2, hq⟩, Tr.Kp.of h2⟩
end Go.Proofs.YthngomhhafoamaaGreatDoor
