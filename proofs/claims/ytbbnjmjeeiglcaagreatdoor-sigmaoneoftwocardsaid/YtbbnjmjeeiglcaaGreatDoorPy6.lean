import Derived.Test.YtbbnjmjeeiglcaaGreatDoorPy5
set_option maxRecDepth 100000
set_option maxHeartbeats 32000000
set_option linter.unusedVariables false
set_option linter.unusedSimpArgs false
set_option linter.defProp false
namespace Go.Proofs.YtbbnjmjeeiglcaaGreatDoor
namespace Sg
open Go.RowKit
theorem run_loadL (w : World) (b o : Nat) (v : Value) (hc : w.cell? ⟨b, o, none⟩ = some v) : (loadVar 40 ⟨b, o, none⟩).run Tryz.prog w = .ok v w := by
 go_simp
theorem wp_loadL {op : Oper} {a : Act} {w : World} {K : Act → World → Prop} {Q : Exit → Act → World → Prop} (ty : TypeId) (x : Operand) (ho : op.op = .load ty x) (b o : Nat) (hx : a.eval x = .pointer (some ⟨b, o, none⟩)) (v : Value) (hr : (loadVar ty ⟨b, o, none⟩).run Tryz.prog w = .ok v w) (h : K (a.put op.dst v) w) : op.wp Tryz.prog a w K Q := by
 unfold Oper.wp execOp
 simp only [ho, hx, Instr.loadAt, Instr.sureAddr, Sem.run_bind, Sem.run_pure, Result.andThen_ok, hr]
 exact h
theorem wp_storeV {P : Program} {op : Oper} {a : Act} {w : World} {K : Act → World → Prop} {Q : Exit → Act → World → Prop} (ty : TypeId) (x y : Operand) (ho : op.op = .store ty x y) (b o : Nat) (p : Option Addr) (n c : Nat) (hx : a.eval x = .pointer (some ⟨b, o, none⟩)) (hy : a.eval y = .slice p n c) (ht : w.there b o 1) (hi : (P.info? ty).map (·.size) = some 1) (hd : op.dst = none)
  (h : ∀ w', w' = w.setCells b o [.slice p n c] → K a w') : op.wp P a w K Q := by
 have hr : (storeVar ty ⟨b, o, none⟩ (.slice p n c)).run P w = .ok () (w.setCells b o [.slice p n c]) := run_storeVar_mid w b o ty #[.slice p n c] ht hi (by simp [Value.oneCell'])
 have := h _ rfl
 unfold Oper.wp execOp
 simp only [ho, hx, hy, Instr.storeAt, Instr.sureAddr, Sem.run_bind, Sem.run_pure, Result.andThen_ok, hr]
 have h2 : K (a.put op.dst undef) (w.setCells b o [.slice p n c]) := by rw [hd]; exact this
 exact h2
theorem i1_L : (Tryz.prog.info? 40).map (·.size) = some 1 := by kernel_rfl
theorem linfo3 : (Tryz.prog.info? 41).map (fun i => (i.zero, i.size, i.bytes)) = some (some (.slice none 0 0), 1, 24) := by kernel_rfl
theorem there_one {w : World} {b n : Nat} (h : w.there b 0 (n + 1)) : w.there b 0 1 := fun j hj => h j (by omega)
theorem there_gr {w w' : World} {b n : Nat} {row : Option Nat} (h : w.there b 0 n) (hg : w.grownBy w' row) (ne : row ≠ some b) : w'.there b 0 n := fun j hj => by
 obtain ⟨u, hu⟩ := Option.isSome_iff_exists.1 (h j hj).1
 have hl := World.block_lt_of_cell? w _ hu
 have hk := hg.block b hl (fun e => ne e.symm)
 exact ⟨by rw [World.cell?_of_block (a := ⟨b, 0 + j, none⟩) hk]; exact (h j hj).1, by rw [World.frozen?_of_block (a := ⟨b, 0 + j, none⟩) hk]; exact (h j hj).2⟩
theorem r3_set {w : World} {b : Nat} {v im : Value} (h : w.rangeAt b 0 [v, im]) (ht : w.there b 0 2) (u : Value) : (w.setCells b 0 [u]).rangeAt b 0 [u, im] := fun j x hx => by
 match j, hx with
 | 0, hx => exact World.rangeAt_setCells_same w b 0 [u] (fun k hk => ht k (by simp at hk; omega)) 0 x (by simpa using hx)
 | 1, hx =>
  have h1 := h 1 x (by simpa using hx)
  rw [World.cell?_setCells_out b [u] 0 w ⟨b, 0 + 1, none⟩ (fun _ _ => .inr (by simp))]
  exact h1
 | k + 2, hx => simp at hx
theorem own_neR {w : World} {B n i b : Nat} {v : Value} {xs : List Value} {f : Nat → E4} (h : w.ownsRow B 41 1 v i xs) (hz : i = 0 → v = .slice none 0 0) (hxs : ∀ u, xs[0]? = some u → ∃ p a b, u = .slice p a b) (hn : 1 ≤ n) (hr : Rl w b 0 n f) : v.ownBlock ≠ some b := by
 intro e
 by_cases hi : 1 ≤ i
 ·obtain ⟨q, c, rfl, _⟩ := own_shapeS h hi
  obtain rfl : q = b := Option.some.inj e
  have h1 := h.cellAt 0 (by omega)
  have h2 := hr.c0 0 (by omega)
  rw [Nat.zero_mul, Nat.add_zero, h1] at h2
  obtain ⟨p, x, y, h3⟩ := hxs _ h2
  cases h3
 ·obtain rfl := hz (by omega)
  simp [Value.ownBlock] at e
theorem buildL (G n c : Nat) (w : World) : (Instr.buildSlice 40 1 #[(0, .slice (some ⟨G, 0, none⟩) n c)]).run Tryz.prog w = .ok (.slice (some ⟨w.heap.size, 0, none⟩) 1 1) (w.alloc (.cells #[.slice (some ⟨G, 0, none⟩) n c] 41)) := by kernel_rfl
theorem wp_buildL {w : World} {o : Oper} {a : Act} {K : Act → World → Prop} {Q : Exit → Act → World → Prop} (ho : o.op = .buildSlice 40 1 #[(0, .tmp 23)]) (G n c : Nat) (hx : a.eval (.tmp 23) = .slice (some ⟨G, 0, none⟩) n c) (h : ∀ (tb : Nat) (wq : World), Below w.heap.size w wq → wq.cell? ⟨tb, 0, none⟩ = some (.slice (some ⟨G, 0, none⟩) n c) → K (a.put o.dst (.slice (some ⟨tb, 0, none⟩) 1 1)) wq) : o.wp Tryz.prog a w K Q := by
 have hr := buildL G n c w
 unfold Oper.wp execOp
 simp only [ho, Sem.run_bind, Sem.run_pure, Result.andThen_ok, List.map_toArray, List.map_cons, List.map_nil, hx, hr]
 exact h _ _ (bl_alloc _ _) (range_newM w [.slice (some ⟨G, 0, none⟩) n c] 41 0 _ rfl)
theorem wp_appL {w : World} {o : Oper} {a : Act} {K : Act → World → Prop} {Q : Exit → Act → World → Prop} (ho : o.op = .call { callee := .builtin .append, args := #[.tmp 17, .tmp 24], argTypes := #[40, 40] }) (T3 i : Nat) (v : Value) (xs : List Value) (tb G n c : Nat) (hs : a.eval (.tmp 17) = v) (hx : a.eval (.tmp 24) = .slice (some ⟨tb, 0, none⟩) 1 1) (hown : w.ownsRow (T3 + 1) 41 1 v i xs) (hi : i ≤ 64) (hc : w.cell? ⟨tb, 0, none⟩ = some (.slice (some ⟨G, 0, none⟩) n c)) (hb : T3 + 1 ≤ w.heap.size)
  (h : ∀ (R1 c1 : Nat) (w' : World), w'.ownsRow (T3 + 1) 41 1 (.slice (some ⟨R1, 0, none⟩) (i + 1) c1) (i + 1) (xs ++ [.slice (some ⟨G, 0, none⟩) n c]) → w.grownBy w' v.ownBlock → K (a.put o.dst (.slice (some ⟨R1, 0, none⟩) (i + 1) c1)) w') : o.wp Tryz.prog a w K Q := by
 obtain ⟨i0, hi0, hz0, hz1, hz2⟩ := info_parts linfo3
 refine wp_append_own _ (.tmp 17) (.tmp 24) 40 ho (T3 + 1) 41 i0 (.slice none 0 0) 1 24 (by kernel_rfl) hi0 hz0 hz1 hz2 rfl (by decide) v i xs hs hown ⟨tb, 0, none⟩ 1 1 [.slice (some ⟨G, 0, none⟩) n c] hx rfl (fun j u hu => ?_) (by intro u hu; obtain rfl := List.mem_singleton.1 hu; rfl) (by unfold maxLen; omega) (by omega) hb ?_
 ·match j, hu with
  | 0, hu => obtain rfl : _ = u := Option.some.inj hu; rw [Addr.add_mid]; exact hc
  | k + 1, hu => simp at hu
 ·intro v' w' h1 h2 h3
  obtain ⟨R1, c1, rfl, _⟩ := own_shapeS h1 (by omega)
  exact h R1 c1 w' h1 h2
def ln5o_0 : Oper := { dst := some 16, op := Op.fieldAddr 43 (Operand.tmp 3) 0, type := 0, pos := "law.go:82", after := #[], guard := none }
def ln5o_1 : Oper := { dst := some 17, op := Op.load 40 (Operand.tmp 16), type := 40, pos := "law.go:82", after := #[{ on := 0, ground := Ground.data }], guard := none }
def ln5o_2 : Oper := { dst := some 18, op := Op.fieldAddr 30 (Operand.tmp 1) 0, type := 0, pos := "law.go:82", after := #[], guard := none }
def ln5o_3 : Oper := { dst := some 19, op := Op.load 22 (Operand.tmp 18), type := 22, pos := "law.go:82", after := #[{ on := 2, ground := Ground.data }], guard := none }
def ln5o_4 : Oper := { dst := some 20, op := Op.move (Operand.tmp 4), type := 3, pos := "law.go:82", after := #[], guard := none }
def ln5o_5 : Oper := { dst := some 21, op := Op.indexAddr 22 (Operand.tmp 19) (Operand.tmp 20), type := 0, pos := "law.go:82", after := #[{ on := 3, ground := Ground.data }, { on := 4, ground := Ground.data }], guard := none }
def ln5o_6 : Oper := { dst := some 22, op := Op.load 23 (Operand.tmp 21), type := 23, pos := "law.go:82", after := #[{ on := 5, ground := Ground.data }], guard := none }
def ln5o_7 : Oper := { dst := some 23, op := Op.call { callee := Callee.value (Operand.func 34), args := #[Operand.tmp 22], argTypes := #[23] }, type := 41, pos := "law.go:82", after := #[{ on := 6, ground := Ground.data }], guard := none }
def ln5o_8 : Oper := { dst := some 24, op := Op.buildSlice 40 1 #[(0, Operand.tmp 23)], type := 40, pos := "law.go:82", after := #[{ on := 7, ground := Ground.data }], guard := none }
def ln5o_9 : Oper := { dst := some 25, op := Op.call { callee := Callee.builtin Builtin.append, args := #[Operand.tmp 17, Operand.tmp 24], argTypes := #[40, 40] }, type := 40, pos := "law.go:82", after := #[{ on := 1, ground := Ground.data }, { on := 8, ground := Ground.data }, { on := 7, ground := Ground.chain }], guard := none }
def ln5o_10 : Oper := { dst := some 26, op := Op.fieldAddr 43 (Operand.tmp 3) 0, type := 0, pos := "law.go:82", after := #[{ on := 0, ground := Ground.phase }, { on := 1, ground := Ground.phase }, { on := 2, ground := Ground.phase }, { on := 3, ground := Ground.phase }, { on := 4, ground := Ground.phase }, { on := 5, ground := Ground.phase }, { on := 6, ground := Ground.phase }, { on := 7, ground := Ground.phase }, { on := 8, ground := Ground.phase }, { on := 9, ground := Ground.phase }], guard := none }
def ln5o_11 : Oper := { dst := none, op := Op.store 40 (Operand.tmp 26) (Operand.tmp 25), type := 0, pos := "law.go:82", after := #[{ on := 10, ground := Ground.data }, { on := 9, ground := Ground.data }, { on := 9, ground := Ground.chain }, { on := 0, ground := Ground.phase }, { on := 1, ground := Ground.phase }, { on := 2, ground := Ground.phase }, { on := 3, ground := Ground.phase }, { on := 4, ground := Ground.phase }, { on := 5, ground := Ground.phase }, { on := 6, ground := Ground.phase }, { on := 7, ground := Ground.phase }, { on := 8, ground := Ground.phase }, { on := 9, ground := Ground.phase }], guard := none }
def ln5o : Array Oper := #[ln5o_0, ln5o_1, ln5o_2, ln5o_3, ln5o_4, ln5o_5, ln5o_6, ln5o_7, ln5o_8, ln5o_9, ln5o_10, ln5o_11]
section
variable {Q : Exit → Act → World → Prop} {T1 T3 R r cR a ca n i : Nat} {v im : Value} {xs : List Value} {g : Nat → Nat} {gs : Nat → Nat → E4} {f : Nat → E4} {Xa Xc Xf Xg Xh Xi Xj Xk Xl Xm Xn Xo Xp Xq Xr Xs Xt Xu Xv Xw Xx Xy Xz Ya Yb : Value} {W : World}
variable (hTW : T3 ≤ W.heap.size)
variable (hn1 : 1 ≤ n)
variable (hi64 : i ≤ 64)
variable (hz : i = 0 → v = .slice none 0 0)
variable (hxs : ∀ u, xs[0]? = some u → ∃ p a b, u = .slice p a b)
variable (lo : ∀ t, t < i → T3 + 1 ≤ g t)
variable (l1 : T1 < T3)
variable (lR : R < T3)
variable (hir : i < r)
variable (k0 : W.cell? ⟨T1, 0, none⟩ = some (.slice (some ⟨R, 0, none⟩) r cR))
variable (kr : W.cell? ⟨R, i, none⟩ = some (.slice (some ⟨a, 0, none⟩) n ca))
variable (C7 : Hid (∀ y, Below T3 W y → Calls Tryz.prog 34 #[.slice (some ⟨a, 0, none⟩) n ca] y fun e w' => ∃ G cG : Nat, e = .returned (.slice (some ⟨G, 0, none⟩) n cG) ∧ y.heap.size ≤ G ∧ Rl w' G 0 n f ∧ Below y.heap.size y w'))
variable (ol : W.ownsRow (T3 + 1) 41 1 v i xs)
variable (r3 : W.rangeAt T3 0 [v, im])
variable (th3 : W.there T3 0 2)
variable (ea : ∀ t, t < i → Rl W (g t) 0 n (gs t))
variable (HQ : Hid (∀ (G cG tb R1 c1 : Nat) (wz : World), Below T3 W wz → wz.ownsRow (T3 + 1) 41 1 (.slice (some ⟨R1, 0, none⟩) (i + 1) c1) (i + 1) (xs ++ [.slice (some ⟨G, 0, none⟩) n cG]) → wz.rangeAt T3 0 [.slice (some ⟨R1, 0, none⟩) (i + 1) c1, im] → wz.there T3 0 2 → (∀ t, t < i → Rl wz (g t) 0 n (gs t)) → Rl wz G 0 n f → T3 + 1 ≤ G → Q .normal ⟨#[Xa, .pointer (some ⟨T1, 0, none⟩), Xc, .pointer (some ⟨T3, 0, none⟩), .int .i64 (i : Int), Xf, Xg, Xh, Xi, Xj, Xk, Xl, Xm, Xn, Xo, Xp, .pointer (some ⟨T3, 0, none⟩), v, .pointer (some ⟨T1, 0, none⟩), .slice (some ⟨R, 0, none⟩) r cR, .int .i64 (i : Int), .pointer (some ⟨R, i, none⟩), .slice (some ⟨a, 0, none⟩) n ca, .slice (some ⟨G, 0, none⟩) n cG, .slice (some ⟨tb, 0, none⟩) 1 1, .slice (some ⟨R1, 0, none⟩) (i + 1) c1, .pointer (some ⟨T3, 0, none⟩), Yb], []⟩ wz))
variable {G cG tb R1 c1 : Nat}
def ln5_s5 (w : World) (hH0 : Below T3 W w) (O1 : Hid (w.ownsRow (T3 + 1) 41 1 (.slice (some ⟨R1, 0, none⟩) (i + 1) c1) (i + 1) (xs ++ [.slice (some ⟨G, 0, none⟩) n cG]))) (R3 : Hid (w.rangeAt T3 0 [.slice (some ⟨R1, 0, none⟩) (i + 1) c1, im])) (TH3 : Hid (w.there T3 0 2)) (EA : Hid (∀ t, t < i → Rl w (g t) 0 n (gs t))) (RG : Hid (Rl w G 0 n f)) (GE : Hid (T3 + 1 ≤ G)) : wpAnyH Tryz.prog .any ln5o (NoPanic Q) (fun x => Below T3 W x) 0 #[true, true, true, true, true, true, true, true, true, true, true, true] ⟨#[Xa, .pointer (some ⟨T1, 0, none⟩), Xc, .pointer (some ⟨T3, 0, none⟩), .int .i64 (i : Int), Xf, Xg, Xh, Xi, Xj, Xk, Xl, Xm, Xn, Xo, Xp, .pointer (some ⟨T3, 0, none⟩), v, .pointer (some ⟨T1, 0, none⟩), .slice (some ⟨R, 0, none⟩) r cR, .int .i64 (i : Int), .pointer (some ⟨R, i, none⟩), .slice (some ⟨a, 0, none⟩) n ca, .slice (some ⟨G, 0, none⟩) n cG, .slice (some ⟨tb, 0, none⟩) 1 1, .slice (some ⟨R1, 0, none⟩) (i + 1) c1, .pointer (some ⟨T3, 0, none⟩), Yb], []⟩ w := by
 have zz := And.intro hTW (And.intro hn1 (And.intro hi64 (And.intro hz (And.intro hxs (And.intro lo (And.intro l1 (And.intro lR (And.intro hir (And.intro k0 (And.intro kr (And.intro C7 (And.intro ol (And.intro r3 (And.intro th3 (And.intro ea (HQ))))))))))))))))
 clear zz
 have HH := hidden hH0
 have FQ := hidden (HQ.out G cG tb R1 c1 _ HH.out O1.out R3.out TH3.out EA.out RG.out GE.out)
 refine wpAnyH_done (by kernel_rfl) ?_ _
 refine NoPanic.normal ?_
 exact FQ.out
def ln5_s4 (w : World) (hH0 : Below T3 W w) (O1 : Hid (w.ownsRow (T3 + 1) 41 1 (.slice (some ⟨R1, 0, none⟩) (i + 1) c1) (i + 1) (xs ++ [.slice (some ⟨G, 0, none⟩) n cG]))) (R3 : Hid (w.rangeAt T3 0 [v, im])) (TH3 : Hid (w.there T3 0 2)) (EA : Hid (∀ t, t < i → Rl w (g t) 0 n (gs t))) (RG : Hid (Rl w G 0 n f)) (GE : Hid (T3 + 1 ≤ G)) : wpAnyH Tryz.prog .any ln5o (NoPanic Q) (fun x => Below T3 W x) 1 #[true, true, true, true, true, true, true, true, true, true, true, false] ⟨#[Xa, .pointer (some ⟨T1, 0, none⟩), Xc, .pointer (some ⟨T3, 0, none⟩), .int .i64 (i : Int), Xf, Xg, Xh, Xi, Xj, Xk, Xl, Xm, Xn, Xo, Xp, .pointer (some ⟨T3, 0, none⟩), v, .pointer (some ⟨T1, 0, none⟩), .slice (some ⟨R, 0, none⟩) r cR, .int .i64 (i : Int), .pointer (some ⟨R, i, none⟩), .slice (some ⟨a, 0, none⟩) n ca, .slice (some ⟨G, 0, none⟩) n cG, .slice (some ⟨tb, 0, none⟩) 1 1, .slice (some ⟨R1, 0, none⟩) (i + 1) c1, .pointer (some ⟨T3, 0, none⟩), Yb], []⟩ w := by
 refine wpAnyH_ready (rs := [11]) (by kernel_rfl) (by simp) ?_
 refine AllReadyH.cons (o := ln5o_11) rfl (fun K hK => ?_) AllReadyH.nil
 unfold ln5o_11
 have HH := hidden hH0
 clear hH0
 refine wp_storeV 40 _ _ rfl T3 0 (some ⟨R1, 0, none⟩) (i + 1) c1 (by rfl) (by rfl) (there_one TH3.out) i1_L rfl (fun wn1 hw => ?_)
 have SN := hidden (below_trans HH.out (below_grown (gb_setCells T3 [.slice (some ⟨R1, 0, none⟩) (i + 1) c1] 0 _) (Nat.le_trans hTW HH.out.size) (fun k hk => Nat.le_of_eq (Option.some.inj hk))))
 replace EA := hidden (fun t ht => rl_gb (EA.out t ht) (gb_setCells T3 [.slice (some ⟨R1, 0, none⟩) (i + 1) c1] 0 _) (by have := lo t ht; omega))
 replace RG := hidden (rl_gb RG.out (gb_setCells T3 [.slice (some ⟨R1, 0, none⟩) (i + 1) c1] 0 _) (by have := GE.out; omega))
 replace R3 := hidden (r3_set R3.out TH3.out (.slice (some ⟨R1, 0, none⟩) (i + 1) c1))
 replace TH3 := hidden (there_set TH3.out T3 0 [.slice (some ⟨R1, 0, none⟩) (i + 1) c1])
 replace O1 := hidden (Tr.own_blk O1.out (fun g e => (gb_setCells T3 [.slice (some ⟨R1, 0, none⟩) (i + 1) c1] 0 _).block g (O1.out.lt g e).2 (fun e2 => by have := (O1.out.lt g e).1; have := Option.some.inj e2; omega)))
 rw [← hw] at SN EA RG R3 TH3 O1
 clear HH hw
 refine hK.out _ _ SN.out (fun hH1 => ?_)
 clear hK K SN
 exact ln5_s5 hTW hn1 hi64 hz hxs lo l1 lR hir k0 kr C7 ol r3 th3 ea HQ _ hH1 O1 R3 TH3 EA RG GE
def ln5_s3 (w : World) (hH0 : Below T3 W w) (OL : Hid (w.ownsRow (T3 + 1) 41 1 v i xs)) (R3 : Hid (w.rangeAt T3 0 [v, im])) (TH3 : Hid (w.there T3 0 2)) (EA : Hid (∀ t, t < i → Rl w (g t) 0 n (gs t))) (RG : Hid (Rl w G 0 n f)) (GE : Hid (T3 + 1 ≤ G)) (CB : Hid (w.cell? ⟨tb, 0, none⟩ = some (.slice (some ⟨G, 0, none⟩) n cG))) : wpAnyH Tryz.prog .any ln5o (NoPanic Q) (fun x => Below T3 W x) 3 #[true, true, true, true, true, true, true, true, true, false, false, false] ⟨#[Xa, .pointer (some ⟨T1, 0, none⟩), Xc, .pointer (some ⟨T3, 0, none⟩), .int .i64 (i : Int), Xf, Xg, Xh, Xi, Xj, Xk, Xl, Xm, Xn, Xo, Xp, .pointer (some ⟨T3, 0, none⟩), v, .pointer (some ⟨T1, 0, none⟩), .slice (some ⟨R, 0, none⟩) r cR, .int .i64 (i : Int), .pointer (some ⟨R, i, none⟩), .slice (some ⟨a, 0, none⟩) n ca, .slice (some ⟨G, 0, none⟩) n cG, .slice (some ⟨tb, 0, none⟩) 1 1, Xz, Ya, Yb], []⟩ w := by
 refine wpAnyH_ready (rs := [9]) (by kernel_rfl) (by simp) ?_
 refine AllReadyH.cons (o := ln5o_9) rfl (fun K hK => ?_) AllReadyH.nil
 unfold ln5o_9
 have HH := hidden hH0
 clear hH0
 refine wp_appL rfl T3 i v xs tb G n cG rfl rfl OL.out hi64 CB.out (there_lt TH3.out) (fun R1 c1 wn1 hO hg => ?_)
 have SN := hidden (below_trans HH.out (below_grown hg (Nat.le_trans hTW HH.out.size) (fun k hk => by have := (OL.out.lt k hk).1; omega)))
 replace EA := hidden (fun t ht => rl_gr (EA.out t ht) hg (own_neR OL.out hz hxs hn1 (EA.out t ht)))
 replace RG := hidden (rl_gr RG.out hg (own_neR OL.out hz hxs hn1 RG.out))
 replace R3 := hidden (fun j u hu => hg.cell (R3.out j u hu) (fun e => by have := (OL.out.lt _ e.symm).1; simp only at this; omega))
 replace TH3 := hidden (there_gr TH3.out hg (fun e => by have := (OL.out.lt _ e).1; omega))
 have O1 := hidden (hO)
 clear HH OL CB hO hg
 simp only [Act.put, sA, sB, sC]
 refine hK.out _ _ SN.out (fun hH1 => ?_)
 clear hK K SN
 refine tk 10 ln5o_10 (.pointer (some ⟨T3, 0, none⟩)) rfl (by kernel_rfl) hH1 rfl (fun w0 hSw => ?_) ?_
 ·(unfold ln5o_10; clear hSw; go_simp)
 simp only [ln5o_10, Act.put, sA, sB, sC]
 exact ln5_s4 hTW hn1 hi64 hz hxs lo l1 lR hir k0 kr C7 ol r3 th3 ea HQ _ hH1 O1 R3 TH3 EA RG GE
def ln5_s2 (w : World) (hH0 : Below T3 W w) (OL : Hid (w.ownsRow (T3 + 1) 41 1 v i xs)) (R3 : Hid (w.rangeAt T3 0 [v, im])) (TH3 : Hid (w.there T3 0 2)) (EA : Hid (∀ t, t < i → Rl w (g t) 0 n (gs t))) (RG : Hid (Rl w G 0 n f)) (GE : Hid (T3 + 1 ≤ G)) : wpAnyH Tryz.prog .any ln5o (NoPanic Q) (fun x => Below T3 W x) 4 #[true, true, true, true, true, true, true, true, false, false, false, false] ⟨#[Xa, .pointer (some ⟨T1, 0, none⟩), Xc, .pointer (some ⟨T3, 0, none⟩), .int .i64 (i : Int), Xf, Xg, Xh, Xi, Xj, Xk, Xl, Xm, Xn, Xo, Xp, .pointer (some ⟨T3, 0, none⟩), v, .pointer (some ⟨T1, 0, none⟩), .slice (some ⟨R, 0, none⟩) r cR, .int .i64 (i : Int), .pointer (some ⟨R, i, none⟩), .slice (some ⟨a, 0, none⟩) n ca, .slice (some ⟨G, 0, none⟩) n cG, Xy, Xz, Ya, Yb], []⟩ w := by
 refine wpAnyH_ready (rs := [8]) (by kernel_rfl) (by simp) ?_
 refine AllReadyH.cons (o := ln5o_8) rfl (fun K hK => ?_) AllReadyH.nil
 unfold ln5o_8
 have HH := hidden hH0
 clear hH0
 refine wp_buildL rfl G n cG rfl (fun tb wn1 hb hcb => ?_)
 replace OL := hidden (Tr.own_stay OL.out hb)
 replace R3 := hidden (range_bl R3.out hb)
 replace TH3 := hidden (Li.there_bl TH3.out hb)
 replace EA := hidden (fun t ht => (EA.out t ht).keep hb)
 replace RG := hidden (RG.out.keep hb)
 have CB := hidden (hcb)
 have SN := hidden (below_trans HH.out (below_less hb (Nat.le_trans hTW HH.out.size)))
 clear HH hb hcb
 simp only [Act.put, sA, sB, sC]
 refine hK.out _ _ SN.out (fun hH1 => ?_)
 clear hK K SN
 exact ln5_s3 hTW hn1 hi64 hz hxs lo l1 lR hir k0 kr C7 ol r3 th3 ea HQ _ hH1 OL R3 TH3 EA RG GE CB
def ln5_s1 (w : World) (hH0 : Below T3 W w) (OL : Hid (w.ownsRow (T3 + 1) 41 1 v i xs)) (R3 : Hid (w.rangeAt T3 0 [v, im])) (TH3 : Hid (w.there T3 0 2)) (EA : Hid (∀ t, t < i → Rl w (g t) 0 n (gs t))) : wpAnyH Tryz.prog .any ln5o (NoPanic Q) (fun x => Below T3 W x) 5 #[true, true, true, true, true, true, true, false, false, false, false, false] ⟨#[Xa, .pointer (some ⟨T1, 0, none⟩), Xc, .pointer (some ⟨T3, 0, none⟩), .int .i64 (i : Int), Xf, Xg, Xh, Xi, Xj, Xk, Xl, Xm, Xn, Xo, Xp, .pointer (some ⟨T3, 0, none⟩), v, .pointer (some ⟨T1, 0, none⟩), .slice (some ⟨R, 0, none⟩) r cR, .int .i64 (i : Int), .pointer (some ⟨R, i, none⟩), .slice (some ⟨a, 0, none⟩) n ca, Xx, Xy, Xz, Ya, Yb], []⟩ w := by
 refine wpAnyH_ready (rs := [7]) (by kernel_rfl) (by simp) ?_
 refine AllReadyH.cons (o := ln5o_7) rfl (fun K hK => ?_) AllReadyH.nil
 unfold ln5o_7
 have HH := hidden hH0
 clear hH0
 go_simp
 refine (C7.out _ HH.out).mono ?_
 rintro e wn1 ⟨G, cG, rfl, hG, hR, hb⟩
 have GE := hidden ((by have := there_lt TH3.out; omega : T3 + 1 ≤ G))
 replace OL := hidden (Tr.own_stay OL.out hb)
 replace R3 := hidden (range_bl R3.out hb)
 replace TH3 := hidden (Li.there_bl TH3.out hb)
 replace EA := hidden (fun t ht => (EA.out t ht).keep hb)
 have RG := hidden (hR)
 have SN := hidden (below_trans HH.out (below_less hb (Nat.le_trans hTW HH.out.size)))
 clear HH hb hG hR
 go_wp2_with fail
 refine hK.out _ _ SN.out (fun hH1 => ?_)
 clear hK K SN
 exact ln5_s2 hTW hn1 hi64 hz hxs lo l1 lR hir k0 kr C7 ol r3 th3 ea HQ _ hH1 OL R3 TH3 EA RG GE
def ln5_s7 (w : World) (hH0 : Below T3 W w) (OL : Hid (w.ownsRow (T3 + 1) 41 1 v i xs)) (R3 : Hid (w.rangeAt T3 0 [v, im])) (TH3 : Hid (w.there T3 0 2)) (EA : Hid (∀ t, t < i → Rl w (g t) 0 n (gs t))) (RG : Hid (Rl w G 0 n f)) (GE : Hid (T3 + 1 ≤ G)) (CB : Hid (w.cell? ⟨tb, 0, none⟩ = some (.slice (some ⟨G, 0, none⟩) n cG))) : wpAnyH Tryz.prog .any ln5o (NoPanic Q) (fun x => Below T3 W x) 4 #[true, false, true, true, true, true, true, true, true, false, false, false] ⟨#[Xa, .pointer (some ⟨T1, 0, none⟩), Xc, .pointer (some ⟨T3, 0, none⟩), .int .i64 (i : Int), Xf, Xg, Xh, Xi, Xj, Xk, Xl, Xm, Xn, Xo, Xp, .pointer (some ⟨T3, 0, none⟩), Xr, .pointer (some ⟨T1, 0, none⟩), .slice (some ⟨R, 0, none⟩) r cR, .int .i64 (i : Int), .pointer (some ⟨R, i, none⟩), .slice (some ⟨a, 0, none⟩) n ca, .slice (some ⟨G, 0, none⟩) n cG, .slice (some ⟨tb, 0, none⟩) 1 1, Xz, Ya, Yb], []⟩ w := by
 refine wpAnyH_ready (rs := [1]) (by kernel_rfl) (by simp) ?_
 refine AllReadyH.cons (o := ln5o_1) rfl (fun K hK => ?_) AllReadyH.nil
 unfold ln5o_1
 have HH := hidden hH0
 clear hH0
 refine wp_loadL 40 _ rfl T3 0 (by rfl) v (run_loadL _ _ _ _ (R3.out 0 _ rfl)) ?_
 simp only [Act.put, sA, sB, sC]
 have SN := HH
 clear HH
 refine hK.out _ _ SN.out (fun hH1 => ?_)
 clear hK K SN
 exact ln5_s3 hTW hn1 hi64 hz hxs lo l1 lR hir k0 kr C7 ol r3 th3 ea HQ _ hH1 OL R3 TH3 EA RG GE CB
def ln5_s6 (w : World) (hH0 : Below T3 W w) (OL : Hid (w.ownsRow (T3 + 1) 41 1 v i xs)) (R3 : Hid (w.rangeAt T3 0 [v, im])) (TH3 : Hid (w.there T3 0 2)) (EA : Hid (∀ t, t < i → Rl w (g t) 0 n (gs t))) (RG : Hid (Rl w G 0 n f)) (GE : Hid (T3 + 1 ≤ G)) : wpAnyH Tryz.prog .any ln5o (NoPanic Q) (fun x => Below T3 W x) 5 #[true, false, true, true, true, true, true, true, false, false, false, false] ⟨#[Xa, .pointer (some ⟨T1, 0, none⟩), Xc, .pointer (some ⟨T3, 0, none⟩), .int .i64 (i : Int), Xf, Xg, Xh, Xi, Xj, Xk, Xl, Xm, Xn, Xo, Xp, .pointer (some ⟨T3, 0, none⟩), Xr, .pointer (some ⟨T1, 0, none⟩), .slice (some ⟨R, 0, none⟩) r cR, .int .i64 (i : Int), .pointer (some ⟨R, i, none⟩), .slice (some ⟨a, 0, none⟩) n ca, .slice (some ⟨G, 0, none⟩) n cG, Xy, Xz, Ya, Yb], []⟩ w := by
 refine wpAnyH_ready (rs := [1, 8]) (by kernel_rfl) (by simp) ?_
 refine AllReadyH.cons (o := ln5o_1) rfl (fun K hK => ?_) (AllReadyH.cons (o := ln5o_8) rfl (fun K hK => ?_) AllReadyH.nil)
 ·unfold ln5o_1
  have HH := hidden hH0
  clear hH0
  refine wp_loadL 40 _ rfl T3 0 (by rfl) v (run_loadL _ _ _ _ (R3.out 0 _ rfl)) ?_
  simp only [Act.put, sA, sB, sC]
  have SN := HH
  clear HH
  refine hK.out _ _ SN.out (fun hH1 => ?_)
  clear hK K SN
  exact ln5_s2 hTW hn1 hi64 hz hxs lo l1 lR hir k0 kr C7 ol r3 th3 ea HQ _ hH1 OL R3 TH3 EA RG GE
 ·unfold ln5o_8
  have HH := hidden hH0
  clear hH0
  refine wp_buildL rfl G n cG rfl (fun tb wn1 hb hcb => ?_)
  replace OL := hidden (Tr.own_stay OL.out hb)
  replace R3 := hidden (range_bl R3.out hb)
  replace TH3 := hidden (Li.there_bl TH3.out hb)
  replace EA := hidden (fun t ht => (EA.out t ht).keep hb)
  replace RG := hidden (RG.out.keep hb)
  have CB := hidden (hcb)
  have SN := hidden (below_trans HH.out (below_less hb (Nat.le_trans hTW HH.out.size)))
  clear HH hb hcb
  simp only [Act.put, sA, sB, sC]
  refine hK.out _ _ SN.out (fun hH1 => ?_)
  clear hK K SN
  exact ln5_s7 hTW hn1 hi64 hz hxs lo l1 lR hir k0 kr C7 ol r3 th3 ea HQ _ hH1 OL R3 TH3 EA RG GE CB
def ln5_s0 (w : World) (hH0 : Below T3 W w) (OL : Hid (w.ownsRow (T3 + 1) 41 1 v i xs)) (R3 : Hid (w.rangeAt T3 0 [v, im])) (TH3 : Hid (w.there T3 0 2)) (EA : Hid (∀ t, t < i → Rl w (g t) 0 n (gs t))) : wpAnyH Tryz.prog .any ln5o (NoPanic Q) (fun x => Below T3 W x) 6 #[true, false, true, true, true, true, true, false, false, false, false, false] ⟨#[Xa, .pointer (some ⟨T1, 0, none⟩), Xc, .pointer (some ⟨T3, 0, none⟩), .int .i64 (i : Int), Xf, Xg, Xh, Xi, Xj, Xk, Xl, Xm, Xn, Xo, Xp, .pointer (some ⟨T3, 0, none⟩), Xr, .pointer (some ⟨T1, 0, none⟩), .slice (some ⟨R, 0, none⟩) r cR, .int .i64 (i : Int), .pointer (some ⟨R, i, none⟩), .slice (some ⟨a, 0, none⟩) n ca, Xx, Xy, Xz, Ya, Yb], []⟩ w := by
 refine wpAnyH_ready (rs := [1, 7]) (by kernel_rfl) (by simp) ?_
 refine AllReadyH.cons (o := ln5o_1) rfl (fun K hK => ?_) (AllReadyH.cons (o := ln5o_7) rfl (fun K hK => ?_) AllReadyH.nil)
 ·unfold ln5o_1
  have HH := hidden hH0
  clear hH0
  refine wp_loadL 40 _ rfl T3 0 (by rfl) v (run_loadL _ _ _ _ (R3.out 0 _ rfl)) ?_
  simp only [Act.put, sA, sB, sC]
  have SN := HH
  clear HH
  refine hK.out _ _ SN.out (fun hH1 => ?_)
  clear hK K SN
  exact ln5_s1 hTW hn1 hi64 hz hxs lo l1 lR hir k0 kr C7 ol r3 th3 ea HQ _ hH1 OL R3 TH3 EA
 ·unfold ln5o_7
  have HH := hidden hH0
  clear hH0
  go_simp
  refine (C7.out _ HH.out).mono ?_
  rintro e wn1 ⟨G, cG, rfl, hG, hR, hb⟩
  have GE := hidden ((by have := there_lt TH3.out; omega : T3 + 1 ≤ G))
  replace OL := hidden (Tr.own_stay OL.out hb)
  replace R3 := hidden (range_bl R3.out hb)
  replace TH3 := hidden (Li.there_bl TH3.out hb)
  replace EA := hidden (fun t ht => (EA.out t ht).keep hb)
  have RG := hidden (hR)
  have SN := hidden (below_trans HH.out (below_less hb (Nat.le_trans hTW HH.out.size)))
  clear HH hb hG hR
  go_wp2_with fail
  refine hK.out _ _ SN.out (fun hH1 => ?_)
  clear hK K SN
  exact ln5_s6 hTW hn1 hi64 hz hxs lo l1 lR hir k0 kr C7 ol r3 th3 ea HQ _ hH1 OL R3 TH3 EA RG GE
def ln5 : (Code.region 5 ln5o true).wp Tryz.prog Q ⟨#[Xa, .pointer (some ⟨T1, 0, none⟩), Xc, .pointer (some ⟨T3, 0, none⟩), .int .i64 (i : Int), Xf, Xg, Xh, Xi, Xj, Xk, Xl, Xm, Xn, Xo, Xp, Xq, Xr, Xs, Xt, Xu, Xv, Xw, Xx, Xy, Xz, Ya, Yb], []⟩ W := by
 have OL := hidden (Tr.own_stay ol (bl_drew W))
 have R3 := hidden (range_bl r3 (bl_drew W))
 have TH3 := hidden (Li.there_bl th3 (bl_drew W))
 have EA : Hid (∀ t, t < i → Rl W.drew (g t) 0 n (gs t)) := hidden (fun t ht => (ea t ht).keep (bl_drew W))
 refine wp_region_noPanic ?_
 refine wp_region_held_drew (S := fun x => Below T3 W x) (by kernel_rfl) (below_less (bl_drew W) hTW) (fun hH0 => ?_)
 show wpAnyH Tryz.prog .any ln5o (NoPanic Q) (fun x => Below T3 W x) 12 #[false, false, false, false, false, false, false, false, false, false, false, false] ⟨#[Xa, .pointer (some ⟨T1, 0, none⟩), Xc, .pointer (some ⟨T3, 0, none⟩), .int .i64 (i : Int), Xf, Xg, Xh, Xi, Xj, Xk, Xl, Xm, Xn, Xo, Xp, Xq, Xr, Xs, Xt, Xu, Xv, Xw, Xx, Xy, Xz, Ya, Yb], []⟩ W.drew
 refine tk 0 ln5o_0 (.pointer (some ⟨T3, 0, none⟩)) rfl (by kernel_rfl) hH0 rfl (fun w0 hSw => ?_) ?_
 ·(unfold ln5o_0; clear hSw; go_simp)
 simp only [ln5o_0, Act.put, sA, sB, sC]
 refine tk 2 ln5o_2 (.pointer (some ⟨T1, 0, none⟩)) rfl (by kernel_rfl) hH0 rfl (fun w0 hSw => ?_) ?_
 ·(unfold ln5o_2; clear hSw; go_simp)
 simp only [ln5o_2, Act.put, sA, sB, sC]
 refine tk 4 ln5o_4 (.int .i64 (i : Int)) rfl (by kernel_rfl) hH0 rfl (fun w0 hSw => ?_) ?_
 ·(unfold ln5o_4; clear hSw; go_simp)
 simp only [ln5o_4, Act.put, sA, sB, sC]
 refine tk 3 ln5o_3 (.slice (some ⟨R, 0, none⟩) r cR) rfl (by kernel_rfl) hH0 rfl (fun w0 hSw => ?_) ?_
 ·(unfold ln5o_3; have hS : Below T3 W w0 := hSw; have a0 := (hS.cell (p := ⟨T1, 0, none⟩) l1).trans k0; clear hS hSw; go_simp)
 simp only [ln5o_3, Act.put, sA, sB, sC]
 refine tk 5 ln5o_5 (.pointer (some ⟨R, i, none⟩)) rfl (by kernel_rfl) hH0 rfl (fun w0 hSw => ?_) ?_
 ·(unfold ln5o_5; clear hSw; go_simp)
 simp only [ln5o_5, Act.put, sA, sB, sC]
 refine tk 6 ln5o_6 (.slice (some ⟨a, 0, none⟩) n ca) rfl (by kernel_rfl) hH0 rfl (fun w0 hSw => ?_) ?_
 ·(unfold ln5o_6; have hS : Below T3 W w0 := hSw; have a0 := (hS.cell (p := ⟨R, i, none⟩) lR).trans kr; clear hS hSw; go_simp)
 simp only [ln5o_6, Act.put, sA, sB, sC]
 exact ln5_s0 hTW hn1 hi64 hz hxs lo l1 lR hir k0 kr C7 ol r3 th3 ea HQ _ hH0 OL R3 TH3 EA
end
open Go.RowKit
structure Lq (w3 : World) (T3 n : Nat) (im v : Value) (i : Nat) (g cn : Nat → Nat) (gs : Nat → Nat → E4) (x : World) : Prop where
 own : x.ownsRow (T3 + 1) 41 1 v i ((List.range i).map fun t => .slice (some ⟨g t, 0, none⟩) n (cn t))
 rg : x.rangeAt T3 0 [v, im]
 th : x.there T3 0 2
 each : ∀ t, t < i → Rl x (g t) 0 n (gs t)
 lo : ∀ t, t < i → T3 + 1 ≤ g t
 bel : Below T3 w3 x
 z : i = 0 → v = .slice none 0 0
def LnR (w : World) (r n : Nat) (gs : Nat → Nat → E4) (im : Nat → E4) (e : Ending) (w' : World) : Prop := ∃ (R2 I2 cR2 cI2 : Nat) (g cn : Nat → Nat), e = .returned (.agg #[.slice (some ⟨R2, 0, none⟩) r cR2, .slice (some ⟨I2, 0, none⟩) r cI2]) ∧ Cl w' R2 I2 r n g cn gs im ∧ Below w.heap.size w w'
theorem lq_next {w3 x : World} {T3 n i G cG R1 c1 : Nat} {im v : Value} {g cn : Nat → Nat} {gs : Nat → Nat → E4} {wr : World} (h : Lq w3 T3 n im v i g cn gs wr) (hT : T3 ≤ wr.heap.size) (b : Below T3 wr x) (ho : x.ownsRow (T3 + 1) 41 1 (.slice (some ⟨R1, 0, none⟩) (i + 1) c1) (i + 1) (((List.range i).map fun t => .slice (some ⟨g t, 0, none⟩) n (cn t)) ++ [.slice (some ⟨G, 0, none⟩) n cG])) (hr : x.rangeAt T3 0 [.slice (some ⟨R1, 0, none⟩) (i + 1) c1, im]) (ht : x.there T3 0 2) (ea : ∀ t, t < i → Rl x (g t) 0 n (gs t)) (rg : Rl x G 0 n (gs i)) (ge : T3 + 1 ≤ G) :
  Lq w3 T3 n im (.slice (some ⟨R1, 0, none⟩) (i + 1) c1) (i + 1) (fun t => if t < i then g t else G) (fun t => if t < i then cn t else cG) gs x := by
 refine ⟨?_, hr, ht, fun t ht => ?_, fun t ht => ?_, below_trans h.bel b, fun e => by omega⟩
 ·rw [List.range_succ, List.map_append]
  have e1 : ((List.range i).map fun t => Value.slice (some ⟨(if t < i then g t else G), 0, none⟩) n (if t < i then cn t else cG)) = ((List.range i).map fun t => .slice (some ⟨g t, 0, none⟩) n (cn t)) := List.map_congr_left fun t ht => by rw [if_pos (List.mem_range.1 ht), if_pos (List.mem_range.1 ht)]
  rw [e1]
  simpa using ho
 ·by_cases q : t < i
  ·simp only [if_pos q]; exact ea t q
  ·simp only [if_neg q]
   obtain rfl : t = i := by omega
   exact rg
 ·by_cases q : t < i
  ·simp only [if_pos q]; exact h.lo t q
  ·simp only [if_neg q]; exact ge
theorem there_bel {w w' : World} {b n m : Nat} (h : w.there b 0 n) (hb : Below m w w') (hl : b < m) : w'.there b 0 n := fun j hj => ⟨by rw [hb.cell (p := ⟨b, 0 + j, none⟩) hl]; exact (h j hj).1, by rw [hb.frozen (p := ⟨b, 0 + j, none⟩) hl]; exact (h j hj).2⟩
theorem rl_bel {w w' : World} {b n m : Nat} {g : Nat → E4} (h : Rl w b 0 n g) (hb : Below m w w') (hl : b < m) : Rl w' b 0 n g :=
 ⟨fun k hk => (hb.cell (p := ⟨b, _, none⟩) hl).trans (h.c0 k hk), fun k hk => (hb.cell (p := ⟨b, _, none⟩) hl).trans (h.c1 k hk), fun k hk => (hb.cell (p := ⟨b, _, none⟩) hl).trans (h.c2 k hk), fun k hk => (hb.cell (p := ⟨b, _, none⟩) hl).trans (h.c3 k hk)⟩
theorem lineR (R I r n cR cI : Nat) (a ca : Nat → Nat) (gs : Nat → Nat → E4) (im : Nat → E4) (w : World) (hr1 : 1 ≤ r) (hr2 : r ≤ 64) (hn1 : 1 ≤ n) (hn : n ≤ 64) (hrow : ∀ i, i < r → w.cell? ⟨R, i, none⟩ = some (.slice (some ⟨a i, 0, none⟩) n (ca i))) (hrl : ∀ i, i < r → Rl w (a i) 0 n (gs i)) (hri : Rl w I 0 r im) (ok : ∀ i, i < r → ∀ j, j < n → (gs i j).ok) (oi : ∀ i, i < r → (im i).ok) :
  Calls Tryz.prog 11 #[.agg #[.slice (some ⟨R, 0, none⟩) r cR, .slice (some ⟨I, 0, none⟩) r cI]] w fun e w' => LnR w r n gs im e w' := by
 have M0 := ((Mw.start w).new [.slice (some ⟨R, 0, none⟩) r cR, .slice (some ⟨I, 0, none⟩) r cI] 30).new [.slice none 0 0, .slice none 0 0] 43
 simp only [World.size_alloc] at M0
 have M := hidden M0
 have L1 := hidden (fun x (hb : Below w.heap.size w x) => linesR I r cI im x hr1 hr2 (hri.keep hb))
 have HW := hidden (And.intro hrow hrl)
 have lR : Hid (R < w.heap.size) := hidden (World.block_lt_of_cell? w _ (hrow 0 (by omega)))
 clear M0 hrow hrl hri
 go_enter Tryz.func11, Tryz.ntmps11
 go_upto_region 1 with fail
 generalize ((w.alloc (.cells #[.slice (some ⟨R, 0, none⟩) r cR, .slice (some ⟨I, 0, none⟩) r cI] 30)).alloc (.cells #[.slice none 0 0, .slice none 0 0] 43)) = w2 at *
 have x0 := (M.out.r (w.heap.size, [.slice (some ⟨R, 0, none⟩) r cR, .slice (some ⟨I, 0, none⟩) r cI]) (by simp)).1 0 _ rfl
 have x1 := (M.out.r (w.heap.size, [.slice (some ⟨R, 0, none⟩) r cR, .slice (some ⟨I, 0, none⟩) r cI]) (by simp)).1 1 _ rfl
 simp only [Nat.zero_add] at x0 x1
 go_upto_region 2 with (first | (go_at_call 34; refine (L1.out _ M.out.bel).mono ?_; rintro e wa ⟨GI, cI2, rfl, hGI, hR, hb⟩; have LG := hidden (Nat.lt_of_lt_of_le (M.out.r (w.heap.size + 1, [.slice none 0 0, .slice none 0 0]) (by simp)).2.2.2 hGI); have MA := hidden (M.out.keep hb); have RI := hidden hR; clear hb hR M x0 x1 L1 hGI))
 have MB := hidden (MA.out.keep (bl_alloc wa (.cells #[.slice none 0 0, .slice (some ⟨GI, 0, none⟩) r cI2] 43)))
 have RI2 := hidden (RI.out.keep (bl_alloc wa (.cells #[.slice none 0 0, .slice (some ⟨GI, 0, none⟩) r cI2] 43)))
 have lGI : Hid (GI < wa.heap.size) := hidden (rl_lt RI.out hr1)
 have LQ0 : Hid (Lq (wa.alloc (.cells #[.slice none 0 0, .slice (some ⟨GI, 0, none⟩) r cI2] 43)) wa.heap.size n (.slice (some ⟨GI, 0, none⟩) r cI2) (.slice none 0 0) 0 (fun _ => 0) (fun _ => 0) gs (wa.alloc (.cells #[.slice none 0 0, .slice (some ⟨GI, 0, none⟩) r cI2] 43))) := hidden ⟨World.ownsRow_nil _ _ _ _, range_newM wa [.slice none 0 0, .slice (some ⟨GI, 0, none⟩) r cI2] 43, there_newM wa [.slice none 0 0, .slice (some ⟨GI, 0, none⟩) r cI2] 43, fun t ht => absurd ht (by omega), fun t ht => absurd ht (by omega), Below.refl _ _, fun _ => rfl⟩
 have SZ3 : Hid ((wa.alloc (.cells #[.slice none 0 0, .slice (some ⟨GI, 0, none⟩) r cI2] 43)).heap.size = wa.heap.size + 1) := hidden (World.size_alloc _ _)
 have lT : Hid (w.heap.size + 1 < wa.heap.size) := hidden (MA.out.r (w.heap.size + 1, [.slice none 0 0, .slice none 0 0]) (by simp)).2.2.2
 generalize wa.alloc (.cells #[.slice none 0 0, .slice (some ⟨GI, 0, none⟩) r cI2] 43) = w3 at *
 generalize wa.heap.size = T3 at *
 clear MA RI
 go_wp2_with fail
 go_loopw [4] (fun iv w' => ∃ i : Nat, i ≤ r ∧ iv = .int .i64 i ∧ Hid (∃ (v : Value) (g cn : Nat → Nat), Lq w3 T3 n (.slice (some ⟨GI, 0, none⟩) r cI2) v i g cn gs w')) (fun i _ => r - (intOf i).toNat)
 case atStart => exact ⟨0, by omega, rfl, hidden ⟨_, _, _, LQ0.out⟩⟩
 case round =>
  clear LQ0
  obtain ⟨i, hi, rfl, hL⟩ := hrel
  obtain ⟨v, g, cn, hL⟩ := hL.out
  have HL := hidden hL
  clear hL
  have T1x := (HL.out.bel.cell (p := ⟨w.heap.size, 0, none⟩) (by have := lT.out; simp only; omega)).trans ((MB.out.r (w.heap.size, [.slice (some ⟨R, 0, none⟩) r cR, .slice (some ⟨I, 0, none⟩) r cI]) (by simp)).1 0 _ rfl)
  have sz := HL.out.bel.size
  have s3 := SZ3.out
  by_cases hin : i < r
  ·have i0 : (0 : Int) ≤ (i : Int) := by omega
   have i1 : (i : Int) < (r : Int) := by omega
   have w9 : IntKind.i64.wrap ((i : Int) + 1) = (i : Int) + 1 := IntWalk.i64_in _ (by omega)
   go_upto_region 5 with fail
   have BW : Below w.heap.size w wr := below_trans MB.out.bel (below_less HL.out.bel (by have := lT.out; omega))
   have kr := cell_keep (HW.out.1 i hin) BW
   refine ln5 (T1 := w.heap.size) (T3 := T3) (R := R) (r := r) (cR := cR) (a := a i) (ca := ca i) (n := n) (i := i) (v := v) (im := (.slice (some ⟨GI, 0, none⟩) r cI2)) (xs := ((List.range i).map fun t => .slice (some ⟨g t, 0, none⟩) n (cn t))) (g := g) (gs := gs) (f := gs i) (W := wr) (by omega) hn1 (by omega) HL.out.z ?_ HL.out.lo (by have := lT.out; omega) (by have := lT.out; have := lR.out; omega) hin T1x kr (hidden fun y hy => ?_) HL.out.own HL.out.rg HL.out.th HL.out.each (hidden ?_)
   ·intro u hu
    rw [List.getElem?_map] at hu
    cases hq : (List.range i)[0]? with
    | none => rw [hq] at hu; simp at hu
    | some z => rw [hq] at hu; simp at hu; exact ⟨_, _, _, hu.symm⟩
   ·have BY : Below w.heap.size w y := below_trans BW (below_less hy (by have := lT.out; omega))
    exact linesR (a i) n (ca i) (gs i) y hn1 hn ((HW.out.2 i hin).keep BY)
   intro G cG tb R1 c1 wz b1 b2 b3 b4 b5 b6 b7
   have NX := hidden (lq_next HL.out (by omega) b1 b2 b3 b4 b5 b6 b7)
   clear b1 b2 b3 b4 b5 b6 b7 HL T1x BW kr
   go_wp2_with fail
   go_roundw
   case rel => exact ⟨i + 1, by omega, by go_num, hidden ⟨_, _, _, NX.out⟩⟩
   case measure => simp [intOf]; omega
  ·obtain rfl : i = r := by omega
   have lq : ¬ (i : Int) < (i : Int) := by omega
   obtain ⟨R2, cR2, rfl, hc2, _⟩ := own_shapeS HL.out.own (by omega)
   have y0 := HL.out.rg 0 _ rfl
   have y1 := HL.out.rg 1 _ rfl
   simp only [Nat.zero_add] at y0 y1
   have TH : wr.there (w.heap.size + 1) 0 2 := there_bel (MB.out.r (w.heap.size + 1, [.slice none 0 0, .slice none 0 0]) (by simp)).2.1 HL.out.bel (by have := lT.out; omega)
   obtain ⟨f0, d0⟩ := Option.isSome_iff_exists.1 (TH 0 (by omega)).1
   obtain ⟨f1, d1⟩ := Option.isSome_iff_exists.1 (TH 1 (by omega)).1
   have h0 := (TH 0 (by omega)).2
   have h1 := (TH 1 (by omega)).2
   simp only [Nat.zero_add] at d0 d1 h0 h1
   clear TH
   go_wp2_with fail
   have BW : Below w.heap.size w wr := below_trans MB.out.bel (below_less HL.out.bel (by have := lT.out; omega))
   have hG := gb_setCells (w.heap.size + 1) [.slice (some ⟨R2, 0, none⟩) i cR2, .slice (some ⟨GI, 0, none⟩) i cI2] 0 wr
   have lt := lT.out
   have lg := lGI.out
   refine bodyPost_ret (v := .agg #[.slice (some ⟨R2, 0, none⟩) i cR2, .slice (some ⟨GI, 0, none⟩) i cI2]) (by simp [results, Tryz.results11, go_sem, d0, d1]) rfl ⟨R2, GI, cR2, cI2, g, cn, rfl, ⟨fun j hj => ?_, fun j hj => rl_gb (HL.out.each j hj) hG (by have := HL.out.lo j hj; omega), rl_gb (rl_bel RI2.out HL.out.bel lg) hG ?_, ok, oi⟩, below_trans BW (below_grown hG BW.size (fun k hk => by have := Option.some.inj hk; omega))⟩
   ·have hq := HL.out.own.cellAt j (by omega)
    rw [List.getElem?_map, List.getElem?_range hj] at hq
    refine hG.cell hq (fun e => ?_)
    have h9 : R2 = w.heap.size + 1 := Option.some.inj e
    have := (HL.out.own.lt R2 rfl).1
    omega
   ·have := LG.out
    omega
end Sg
end Go.Proofs.YtbbnjmjeeiglcaaGreatDoor
namespace Go.Proofs.YtbbnjmjeeiglcaaGreatDoor.Li
open Go.RowKit
theorem ints_any (k : Int) (w : World) : Calls Tryz.prog 9 #[.int .u64 k] w fun e w' => e = .returned (.agg #[.int .u64 k, .int .u64 0, .int .u64 0, .int .u64 0]) ∧ Below w.heap.size w w' := by
 go_enter Tryz.func9, Tryz.ntmps9
 go_wp2_with fail
 refine bodyPost_ret (v := .agg #[.int .u64 k, .int .u64 0, .int .u64 0, .int .u64 0]) (by simp [results, Tryz.results9, go_sem]) rfl ⟨rfl, bl_alloc w _⟩
theorem ok_small (k : Int) (h : 0 ≤ k ∧ k < 100) : (⟨k, 0, 0, 0⟩ : E4).ok := by unfold E4.ok; simp only [Sm.Wd]; omega
theorem n_small (k : Int) : (⟨k, 0, 0, 0⟩ : E4).n = k := by simp [E4.n, Sm.V]
theorem buildS1 (y : E4) (w : World) : (Instr.buildSlice 23 1 #[(0, .agg #[.int .u64 y.x0, .int .u64 y.x1, .int .u64 y.x2, .int .u64 y.x3])]).run Tryz.prog w = .ok (.slice (some ⟨w.heap.size, 0, none⟩) 1 1) (w.alloc (.cells #[.int .u64 y.x0, .int .u64 y.x1, .int .u64 y.x2, .int .u64 y.x3] 26)) := by kernel_rfl
theorem wp_buildS1 {w : World} {o : Oper} {a : Act} {K : Act → World → Prop} {Q : Exit → Act → World → Prop} (x : Operand) (ho : o.op = .buildSlice 23 1 #[(0, x)]) (y : E4) (hx : a.eval x = .agg #[.int .u64 y.x0, .int .u64 y.x1, .int .u64 y.x2, .int .u64 y.x3]) (h : ∀ (tb : Nat) (wq : World), Below w.heap.size w wq → wq.rangeAt tb 0 [.int .u64 y.x0, .int .u64 y.x1, .int .u64 y.x2, .int .u64 y.x3] → K (a.put o.dst (.slice (some ⟨tb, 0, none⟩) 1 1)) wq) : o.wp Tryz.prog a w K Q := by
 have hr := buildS1 y w
 unfold Oper.wp execOp
 simp only [ho, Sem.run_bind, Sem.run_pure, Result.andThen_ok, List.map_toArray, List.map_cons, List.map_nil, hx, hr]
 exact h _ _ (bl_alloc _ _) (range_newM w [.int .u64 y.x0, .int .u64 y.x1, .int .u64 y.x2, .int .u64 y.x3] 26)
theorem lm1 {w : World} {b : Nat} {y : E4} (h : w.rangeAt b 0 [.int .u64 y.x0, .int .u64 y.x1, .int .u64 y.x2, .int .u64 y.x3]) : Lm w (some ⟨b, 0, none⟩) 1 (fun _ => y) := ⟨b, 0, fun _ => rfl, fun _ => ⟨fun i hi => (by obtain rfl : i = 0 := (by omega); exact h 0 _ rfl), fun i hi => (by obtain rfl : i = 0 := (by omega); exact h 1 _ rfl), fun i hi => (by obtain rfl : i = 0 := (by omega); exact h 2 _ rfl), fun i hi => (by obtain rfl : i = 0 := (by omega); exact h 3 _ rfl)⟩⟩
def al2o_0 : Oper := { dst := some 12, op := Op.load 43 (Operand.tmp 1), type := 43, pos := "outright.go:20", after := #[], guard := none }
def al2o_1 : Oper := { dst := some 13, op := Op.call { callee := Callee.value (Operand.func 9), args := #[Operand.const (Value.int IntKind.u64 3)], argTypes := #[24] }, type := 26, pos := "outright.go:20", after := #[], guard := none }
def al2o_2 : Oper := { dst := some 14, op := Op.buildSlice 23 1 #[(0, Operand.tmp 13)], type := 23, pos := "outright.go:20", after := #[{ on := 1, ground := Ground.data }], guard := none }
def al2o_3 : Oper := { dst := some 15, op := Op.call { callee := Callee.value (Operand.func 20), args := #[Operand.tmp 12, Operand.tmp 14], argTypes := #[43, 23] }, type := 53, pos := "outright.go:20", after := #[{ on := 0, ground := Ground.data }, { on := 2, ground := Ground.data }, { on := 1, ground := Ground.chain }], guard := none }
def al2o_4 : Oper := { dst := some 11, op := Op.move (Operand.tmp 15), type := 53, pos := "outright.go:20", after := #[{ on := 3, ground := Ground.data }], guard := none }
def al2o_5 : Oper := { dst := some 16, op := Op.extract (Operand.tmp 11) 0, type := 41, pos := "outright.go:20", after := #[{ on := 4, ground := Ground.data }], guard := none }
def al2o_6 : Oper := { dst := some 17, op := Op.extract (Operand.tmp 11) 1, type := 35, pos := "outright.go:20", after := #[{ on := 4, ground := Ground.data }, { on := 7, ground := Ground.gcOnly Departure.lateStores }], guard := none }
def al2o_7 : Oper := { dst := some 2, op := Op.assign (Operand.tmp 16), type := 41, pos := "outright.go:20", after := #[{ on := 5, ground := Ground.data }, { on := 3, ground := Ground.chain }, { on := 0, ground := Ground.phase }, { on := 1, ground := Ground.phase }, { on := 2, ground := Ground.phase }, { on := 3, ground := Ground.phase }, { on := 4, ground := Ground.phase }, { on := 5, ground := Ground.phase }, { on := 6, ground := Ground.textOnly Departure.lateStores }], guard := none }
def al2o_8 : Oper := { dst := some 3, op := Op.assign (Operand.tmp 17), type := 35, pos := "outright.go:20", after := #[{ on := 6, ground := Ground.data }, { on := 7, ground := Ground.chain }, { on := 0, ground := Ground.phase }, { on := 1, ground := Ground.phase }, { on := 2, ground := Ground.phase }, { on := 3, ground := Ground.phase }, { on := 4, ground := Ground.phase }, { on := 5, ground := Ground.phase }, { on := 6, ground := Ground.phase }, { on := 7, ground := Ground.phase }], guard := none }
def al2o : Array Oper := #[al2o_0, al2o_1, al2o_2, al2o_3, al2o_4, al2o_5, al2o_6, al2o_7, al2o_8]
theorem al2 (Q : Exit → Act → World → Prop) (T1 R I : Nat) (y : E4) (RW : Nat → World → Prop) (u0 u2 u3 u4 u5 u6 u7 u8 u9 u10 u11 u12 u13 u14 u15 u16 u17 u18 u19 u20 u21 u22 u23 u24 u25 u26 u27 u28 u29 u30 u31 u32 u33 u34 u35 u36 u37 u38 u39 u40 u41 u42 u43 u44 u45 u46 u47 u48 u49 u50 u51 u52 u53 u54 u55 u56 u57 u58 u59 u60 u61 u62 u63 u64 u65 : Value) (W : World)
  (cl0 : W.cell? ⟨T1, 0, none⟩ = some (.slice (some ⟨R, 0, none⟩) 1 1)) (cl1 : W.cell? ⟨T1, 1, none⟩ = some (.slice (some ⟨I, 0, none⟩) 1 1))
  (C1 : Hid (∀ x, Calls Tryz.prog 9 #[.int .u64 3] x fun e w' => e = .returned (.agg #[.int .u64 y.x0, .int .u64 y.x1, .int .u64 y.x2, .int .u64 y.x3]) ∧ Below x.heap.size x w'))
  (C3 : Hid (∀ (x : World) (tb : Nat), Below W.heap.size W x → x.rangeAt tb 0 [.int .u64 y.x0, .int .u64 y.x1, .int .u64 y.x2, .int .u64 y.x3] → Calls Tryz.prog 20 #[.agg #[.slice (some ⟨R, 0, none⟩) 1 1, .slice (some ⟨I, 0, none⟩) 1 1], .slice (some ⟨tb, 0, none⟩) 1 1] x fun e w' => ∃ D : Nat, e = .returned (.tuple #[.slice (some ⟨D, 0, none⟩) 1 1, .int .i64 0]) ∧ RW D w' ∧ Below x.heap.size x w'))
  (HQ : Hid (∀ (tb D : Nat) (wz : World), Below W.heap.size W wz → RW D wz → Q .normal ⟨#[u0, .pointer (some ⟨T1, 0, none⟩), .slice (some ⟨D, 0, none⟩) 1 1, .int .i64 0, u4, u5, u6, u7, u8, u9, u10, .tuple #[.slice (some ⟨D, 0, none⟩) 1 1, .int .i64 0], .agg #[.slice (some ⟨R, 0, none⟩) 1 1, .slice (some ⟨I, 0, none⟩) 1 1], .agg #[.int .u64 y.x0, .int .u64 y.x1, .int .u64 y.x2, .int .u64 y.x3], .slice (some ⟨tb, 0, none⟩) 1 1, .tuple #[.slice (some ⟨D, 0, none⟩) 1 1, .int .i64 0], .slice (some ⟨D, 0, none⟩) 1 1, .int .i64 0, u18, u19, u20, u21, u22, u23, u24, u25, u26, u27, u28, u29, u30, u31, u32, u33, u34, u35, u36, u37, u38, u39, u40, u41, u42, u43, u44, u45, u46, u47, u48, u49, u50, u51, u52, u53, u54, u55, u56, u57, u58, u59, u60, u61, u62, u63, u64, u65], []⟩ wz)) : (Code.region 2 al2o true).wp Tryz.prog Q ⟨#[u0, .pointer (some ⟨T1, 0, none⟩), u2, u3, u4, u5, u6, u7, u8, u9, u10, u11, u12, u13, u14, u15, u16, u17, u18, u19, u20, u21, u22, u23, u24, u25, u26, u27, u28, u29, u30, u31, u32, u33, u34, u35, u36, u37, u38, u39, u40, u41, u42, u43, u44, u45, u46, u47, u48, u49, u50, u51, u52, u53, u54, u55, u56, u57, u58, u59, u60, u61, u62, u63, u64, u65], []⟩ W := by
 unfold al2o
 refine wp_region_noPanic ?_
 refine wp_region_held_drew (S := fun x => Below W.heap.size W x) (by kernel_rfl) (bl_drew W) (fun hH0 => ?_)
 refine tk 0 al2o_0 (.agg #[.slice (some ⟨R, 0, none⟩) 1 1, .slice (some ⟨I, 0, none⟩) 1 1]) rfl (by kernel_rfl) hH0 rfl (fun w0 hSw => ?_) ?_
 ·(unfold al2o_0; have hS : Below W.heap.size W w0 := hSw; have a0 := cell_keep cl0 hS; have a1 := cell_keep cl1 hS; clear hS hSw; go_simp)
 simp only [al2o_0, Act.put, sA, sB, sC]
 refine wpAnyH_ready (rs := [1]) (by kernel_rfl) (by simp) ?_
 refine AllReadyH.cons (o := al2o_1) rfl (fun K hK => ?_) AllReadyH.nil
 unfold al2o_1
 have HH := hidden hH0
 clear hH0
 go_simp
 refine (C1.out _).mono ?_
 rintro e wn1 ⟨rfl, hb⟩
 have SN := hidden (bl_trans HH.out hb)
 clear HH C1 hb
 go_wp2_with fail
 refine hK.out _ _ SN.out (fun hH1 => ?_)
 clear hK K SN
 refine wpAnyH_ready (rs := [2]) (by kernel_rfl) (by simp) ?_
 refine AllReadyH.cons (o := al2o_2) rfl (fun K hK => ?_) AllReadyH.nil
 unfold al2o_2
 have HH := hidden hH1
 clear hH1
 refine wp_buildS1 (.tmp 13) rfl y rfl (fun tb wn2 hb hcb => ?_)
 have RB := hidden (hcb)
 have SN := hidden (bl_trans HH.out hb)
 clear HH hb hcb
 simp only [Act.put, sA, sB, sC]
 refine hK.out _ _ SN.out (fun hH2 => ?_)
 clear hK K SN
 refine wpAnyH_ready (rs := [3]) (by kernel_rfl) (by simp) ?_
 refine AllReadyH.cons (o := al2o_3) rfl (fun K hK => ?_) AllReadyH.nil
 unfold al2o_3
 have HH := hidden hH2
 clear hH2
 go_simp
 refine (C3.out _ tb HH.out RB.out).mono ?_
 rintro e wn3 ⟨D, rfl, hR, hb⟩
 have RR := hidden (hR)
 have SN := hidden (bl_trans HH.out hb)
 clear HH C3 hR hb RB
 go_wp2_with fail
 refine hK.out _ _ SN.out (fun hH3 => ?_)
 clear hK K SN
 refine tk 4 al2o_4 (.tuple #[.slice (some ⟨D, 0, none⟩) 1 1, .int .i64 0]) rfl (by kernel_rfl) hH3 rfl (fun w0 hSw => ?_) ?_
 ·(unfold al2o_4; clear hSw; go_simp)
 simp only [al2o_4, Act.put, sA, sB, sC]
 refine tk 5 al2o_5 (.slice (some ⟨D, 0, none⟩) 1 1) rfl (by kernel_rfl) hH3 rfl (fun w0 hSw => ?_) ?_
 ·(unfold al2o_5; clear hSw; go_simp)
 simp only [al2o_5, Act.put, sA, sB, sC]
 refine tk 6 al2o_6 (.int .i64 0) rfl (by kernel_rfl) hH3 rfl (fun w0 hSw => ?_) ?_
 ·(unfold al2o_6; clear hSw; go_simp)
 simp only [al2o_6, Act.put, sA, sB, sC]
 refine tk 7 al2o_7 (.slice (some ⟨D, 0, none⟩) 1 1) rfl (by kernel_rfl) hH3 rfl (fun w0 hSw => ?_) ?_
 ·(unfold al2o_7; clear hSw; go_simp)
 simp only [al2o_7, Act.put, sA, sB, sC]
 refine tk 8 al2o_8 (.int .i64 0) rfl (by kernel_rfl) hH3 rfl (fun w0 hSw => ?_) ?_
 ·(unfold al2o_8; clear hSw; go_simp)
 simp only [al2o_8, Act.put, sA, sB, sC]
 have HH := hidden hH3
 have FQ := hidden (HQ.out tb D _ HH.out RR.out)
 refine wpAnyH_done (by kernel_rfl) ?_ _
 refine NoPanic.normal ?_
 exact FQ.out
def al4o_0 : Oper := { dst := some 27, op := Op.move (Operand.tmp 3), type := 35, pos := "outright.go:22", after := #[], guard := none }
def al4o_1 : Oper := { dst := some 28, op := Op.binOp BinOp.neq 3 (Operand.tmp 27) (Operand.const (Value.int IntKind.i64 0)) 3, type := 4, pos := "outright.go:22", after := #[{ on := 0, ground := Ground.data }], guard := none }
def al4o_2 : Oper := { dst := some 29, op := Op.move (Operand.tmp 28), type := 4, pos := "outright.go:22", after := #[{ on := 1, ground := Ground.data }], guard := none }
def al4o_3 : Oper := { dst := some 30, op := Op.move (Operand.tmp 5), type := 35, pos := "outright.go:22", after := #[{ on := 2, ground := Ground.guard }], guard := some (2, false) }
def al4o_4 : Oper := { dst := some 31, op := Op.binOp BinOp.neq 3 (Operand.tmp 30) (Operand.const (Value.int IntKind.i64 0)) 3, type := 4, pos := "outright.go:22", after := #[{ on := 3, ground := Ground.data }, { on := 2, ground := Ground.guard }], guard := some (2, false) }
def al4o_5 : Oper := { dst := some 32, op := Op.pick (Operand.tmp 29) (Operand.const (Value.bool true)) (Operand.tmp 31), type := 4, pos := "outright.go:22", after := #[{ on := 2, ground := Ground.data }, { on := 4, ground := Ground.data }], guard := none }
def al4o_6 : Oper := { dst := some 33, op := Op.move (Operand.tmp 32), type := 4, pos := "outright.go:22", after := #[{ on := 5, ground := Ground.data }, { on := 2, ground := Ground.chain }], guard := none }
def al4o_7 : Oper := { dst := some 34, op := Op.move (Operand.tmp 2), type := 41, pos := "outright.go:22", after := #[{ on := 6, ground := Ground.guard }], guard := some (6, false) }
def al4o_8 : Oper := { dst := some 35, op := Op.call { callee := Callee.builtin Builtin.len, args := #[Operand.tmp 34], argTypes := #[41] }, type := 3, pos := "outright.go:22", after := #[{ on := 7, ground := Ground.data }, { on := 6, ground := Ground.guard }], guard := some (6, false) }
def al4o_9 : Oper := { dst := some 36, op := Op.binOp BinOp.neq 3 (Operand.tmp 35) (Operand.const (Value.int IntKind.i64 1)) 3, type := 4, pos := "outright.go:22", after := #[{ on := 8, ground := Ground.data }, { on := 6, ground := Ground.guard }], guard := some (6, false) }
def al4o_10 : Oper := { dst := some 37, op := Op.pick (Operand.tmp 33) (Operand.const (Value.bool true)) (Operand.tmp 36), type := 4, pos := "outright.go:22", after := #[{ on := 6, ground := Ground.data }, { on := 9, ground := Ground.data }], guard := none }
def al4o_11 : Oper := { dst := some 38, op := Op.move (Operand.tmp 37), type := 4, pos := "outright.go:22", after := #[{ on := 10, ground := Ground.data }, { on := 6, ground := Ground.chain }], guard := none }
def al4o_12 : Oper := { dst := some 39, op := Op.move (Operand.tmp 4), type := 23, pos := "outright.go:22", after := #[{ on := 11, ground := Ground.guard }], guard := some (11, false) }
def al4o_13 : Oper := { dst := some 40, op := Op.call { callee := Callee.builtin Builtin.len, args := #[Operand.tmp 39], argTypes := #[23] }, type := 3, pos := "outright.go:22", after := #[{ on := 12, ground := Ground.data }, { on := 11, ground := Ground.guard }], guard := some (11, false) }
def al4o_14 : Oper := { dst := some 41, op := Op.binOp BinOp.neq 3 (Operand.tmp 40) (Operand.const (Value.int IntKind.i64 1)) 3, type := 4, pos := "outright.go:22", after := #[{ on := 13, ground := Ground.data }, { on := 11, ground := Ground.guard }], guard := some (11, false) }
def al4o_15 : Oper := { dst := some 42, op := Op.pick (Operand.tmp 38) (Operand.const (Value.bool true)) (Operand.tmp 41), type := 4, pos := "outright.go:22", after := #[{ on := 11, ground := Ground.data }, { on := 14, ground := Ground.data }], guard := none }
def al4o_16 : Oper := { dst := some 43, op := Op.move (Operand.tmp 42), type := 4, pos := "outright.go:22", after := #[{ on := 15, ground := Ground.data }, { on := 11, ground := Ground.chain }], guard := none }
def al4o_17 : Oper := { dst := some 44, op := Op.move (Operand.tmp 4), type := 23, pos := "outright.go:22", after := #[{ on := 16, ground := Ground.guard }], guard := some (16, false) }
def al4o_18 : Oper := { dst := some 45, op := Op.indexAddr 23 (Operand.tmp 44) (Operand.const (Value.int IntKind.i64 0)), type := 0, pos := "outright.go:22", after := #[{ on := 17, ground := Ground.data }, { on := 16, ground := Ground.guard }], guard := some (16, false) }
def al4o_19 : Oper := { dst := some 46, op := Op.load 26 (Operand.tmp 45), type := 26, pos := "outright.go:22", after := #[{ on := 18, ground := Ground.data }, { on := 16, ground := Ground.guard }], guard := some (16, false) }
def al4o_20 : Oper := { dst := some 47, op := Op.call { callee := Callee.value (Operand.func 9), args := #[Operand.const (Value.int IntKind.u64 13)], argTypes := #[24] }, type := 26, pos := "outright.go:22", after := #[{ on := 16, ground := Ground.chain }, { on := 16, ground := Ground.guard }], guard := some (16, false) }
def al4o_21 : Oper := { dst := some 48, op := Op.call { callee := Callee.value (Operand.func 14), args := #[Operand.tmp 46, Operand.tmp 47], argTypes := #[26, 26] }, type := 4, pos := "outright.go:22", after := #[{ on := 19, ground := Ground.data }, { on := 20, ground := Ground.data }, { on := 20, ground := Ground.chain }, { on := 16, ground := Ground.guard }], guard := some (16, false) }
def al4o_22 : Oper := { dst := some 49, op := Op.unOp UnOp.not 4 (Operand.tmp 48), type := 4, pos := "outright.go:22", after := #[{ on := 21, ground := Ground.data }, { on := 16, ground := Ground.guard }], guard := some (16, false) }
def al4o_23 : Oper := { dst := some 50, op := Op.pick (Operand.tmp 43) (Operand.const (Value.bool true)) (Operand.tmp 49), type := 4, pos := "outright.go:22", after := #[{ on := 16, ground := Ground.data }, { on := 22, ground := Ground.data }], guard := none }
def al4o : Array Oper := #[al4o_0, al4o_1, al4o_2, al4o_3, al4o_4, al4o_5, al4o_6, al4o_7, al4o_8, al4o_9, al4o_10, al4o_11, al4o_12, al4o_13, al4o_14, al4o_15, al4o_16, al4o_17, al4o_18, al4o_19, al4o_20, al4o_21, al4o_22, al4o_23]
theorem al4 (Q : Exit → Act → World → Prop) (D E : Nat) (a y : E4) (u0 u1 u6 u7 u8 u9 u10 u11 u12 u13 u14 u15 u16 u17 u18 u19 u20 u21 u22 u23 u24 u25 u26 u27 u28 u29 u30 u31 u32 u33 u34 u35 u36 u37 u38 u39 u40 u41 u42 u43 u44 u45 u46 u47 u48 u49 u50 u51 u52 u53 u54 u55 u56 u57 u58 u59 u60 u61 u62 u63 u64 u65 : Value) (W : World)
  (ca0 : W.cell? ⟨E, 0, none⟩ = some (.int .u64 a.x0)) (ca1 : W.cell? ⟨E, 1, none⟩ = some (.int .u64 a.x1)) (ca2 : W.cell? ⟨E, 2, none⟩ = some (.int .u64 a.x2)) (ca3 : W.cell? ⟨E, 3, none⟩ = some (.int .u64 a.x3))
  (C20 : Hid (∀ x, Calls Tryz.prog 9 #[.int .u64 13] x fun e w' => e = .returned (.agg #[.int .u64 y.x0, .int .u64 y.x1, .int .u64 y.x2, .int .u64 y.x3]) ∧ Below x.heap.size x w'))
  (C21 : Hid (∀ x, Below W.heap.size W x → Calls Tryz.prog 14 #[.agg #[.int .u64 a.x0, .int .u64 a.x1, .int .u64 a.x2, .int .u64 a.x3], .agg #[.int .u64 y.x0, .int .u64 y.x1, .int .u64 y.x2, .int .u64 y.x3]] x fun e w' => e = .returned (.bool true) ∧ Below x.heap.size x w'))
  (HQ : Hid (∀ (wz : World), Below W.heap.size W wz → Q .normal ⟨#[u0, u1, .slice (some ⟨D, 0, none⟩) 1 1, .int .i64 0, .slice (some ⟨E, 0, none⟩) 1 1, .int .i64 0, u6, u7, u8, u9, u10, u11, u12, u13, u14, u15, u16, u17, u18, u19, u20, u21, u22, u23, u24, u25, u26, .int .i64 0, .bool false, .bool false, .int .i64 0, .bool false, .bool false, .bool false, .slice (some ⟨D, 0, none⟩) 1 1, .int .i64 1, .bool false, .bool false, .bool false, .slice (some ⟨E, 0, none⟩) 1 1, .int .i64 1, .bool false, .bool false, .bool false, .slice (some ⟨E, 0, none⟩) 1 1, .pointer (some ⟨E, 0, none⟩), .agg #[.int .u64 a.x0, .int .u64 a.x1, .int .u64 a.x2, .int .u64 a.x3], .agg #[.int .u64 y.x0, .int .u64 y.x1, .int .u64 y.x2, .int .u64 y.x3], .bool true, .bool false, .bool false, u51, u52, u53, u54, u55, u56, u57, u58, u59, u60, u61, u62, u63, u64, u65], []⟩ wz)) : (Code.region 4 al4o true).wp Tryz.prog Q ⟨#[u0, u1, .slice (some ⟨D, 0, none⟩) 1 1, .int .i64 0, .slice (some ⟨E, 0, none⟩) 1 1, .int .i64 0, u6, u7, u8, u9, u10, u11, u12, u13, u14, u15, u16, u17, u18, u19, u20, u21, u22, u23, u24, u25, u26, u27, u28, u29, u30, u31, u32, u33, u34, u35, u36, u37, u38, u39, u40, u41, u42, u43, u44, u45, u46, u47, u48, u49, u50, u51, u52, u53, u54, u55, u56, u57, u58, u59, u60, u61, u62, u63, u64, u65], []⟩ W := by
 unfold al4o
 refine wp_region_noPanic ?_
 refine wp_region_held_drew (S := fun x => Below W.heap.size W x) (by kernel_rfl) (bl_drew W) (fun hH0 => ?_)
 refine tk 0 al4o_0 (.int .i64 0) rfl (by kernel_rfl) hH0 rfl (fun w0 hSw => ?_) ?_
 ·(unfold al4o_0; clear hSw; go_simp)
 simp only [al4o_0, Act.put, sA, sB, sC]
 refine tk 1 al4o_1 (.bool false) rfl (by kernel_rfl) hH0 rfl (fun w0 hSw => ?_) ?_
 ·(unfold al4o_1; clear hSw; go_simp)
 simp only [al4o_1, Act.put, sA, sB, sC]
 refine tk 2 al4o_2 (.bool false) rfl (by kernel_rfl) hH0 rfl (fun w0 hSw => ?_) ?_
 ·(unfold al4o_2; clear hSw; go_simp)
 simp only [al4o_2, Act.put, sA, sB, sC]
 refine tk 3 al4o_3 (.int .i64 0) rfl (by kernel_rfl) hH0 rfl (fun w0 hSw => ?_) ?_
 ·(unfold al4o_3; clear hSw; go_simp)
 simp only [al4o_3, Act.put, sA, sB, sC]
 refine tk 4 al4o_4 (.bool false) rfl (by kernel_rfl) hH0 rfl (fun w0 hSw => ?_) ?_
 ·(unfold al4o_4; clear hSw; go_simp)
 simp only [al4o_4, Act.put, sA, sB, sC]
 refine tk 5 al4o_5 (.bool false) rfl (by kernel_rfl) hH0 rfl (fun w0 hSw => ?_) ?_
 ·(unfold al4o_5; clear hSw; go_simp)
 simp only [al4o_5, Act.put, sA, sB, sC]
 refine tk 6 al4o_6 (.bool false) rfl (by kernel_rfl) hH0 rfl (fun w0 hSw => ?_) ?_
 ·(unfold al4o_6; clear hSw; go_simp)
 simp only [al4o_6, Act.put, sA, sB, sC]
 refine tk 7 al4o_7 (.slice (some ⟨D, 0, none⟩) 1 1) rfl (by kernel_rfl) hH0 rfl (fun w0 hSw => ?_) ?_
 ·(unfold al4o_7; clear hSw; go_simp)
 simp only [al4o_7, Act.put, sA, sB, sC]
 refine tk 8 al4o_8 (.int .i64 1) rfl (by kernel_rfl) hH0 rfl (fun w0 hSw => ?_) ?_
 ·(unfold al4o_8; clear hSw; go_simp)
 simp only [al4o_8, Act.put, sA, sB, sC]
 refine tk 9 al4o_9 (.bool false) rfl (by kernel_rfl) hH0 rfl (fun w0 hSw => ?_) ?_
 ·(unfold al4o_9; clear hSw; go_simp)
 simp only [al4o_9, Act.put, sA, sB, sC]
 refine tk 10 al4o_10 (.bool false) rfl (by kernel_rfl) hH0 rfl (fun w0 hSw => ?_) ?_
 ·(unfold al4o_10; clear hSw; go_simp)
 simp only [al4o_10, Act.put, sA, sB, sC]
 refine tk 11 al4o_11 (.bool false) rfl (by kernel_rfl) hH0 rfl (fun w0 hSw => ?_) ?_
 ·(unfold al4o_11; clear hSw; go_simp)
 simp only [al4o_11, Act.put, sA, sB, sC]
 refine tk 12 al4o_12 (.slice (some ⟨E, 0, none⟩) 1 1) rfl (by kernel_rfl) hH0 rfl (fun w0 hSw => ?_) ?_
 ·(unfold al4o_12; clear hSw; go_simp)
 simp only [al4o_12, Act.put, sA, sB, sC]
 refine tk 13 al4o_13 (.int .i64 1) rfl (by kernel_rfl) hH0 rfl (fun w0 hSw => ?_) ?_
 ·(unfold al4o_13; clear hSw; go_simp)
 simp only [al4o_13, Act.put, sA, sB, sC]
 refine tk 14 al4o_14 (.bool false) rfl (by kernel_rfl) hH0 rfl (fun w0 hSw => ?_) ?_
 ·(unfold al4o_14; clear hSw; go_simp)
 simp only [al4o_14, Act.put, sA, sB, sC]
 refine tk 15 al4o_15 (.bool false) rfl (by kernel_rfl) hH0 rfl (fun w0 hSw => ?_) ?_
 ·(unfold al4o_15; clear hSw; go_simp)
 simp only [al4o_15, Act.put, sA, sB, sC]
 refine tk 16 al4o_16 (.bool false) rfl (by kernel_rfl) hH0 rfl (fun w0 hSw => ?_) ?_
 ·(unfold al4o_16; clear hSw; go_simp)
 simp only [al4o_16, Act.put, sA, sB, sC]
 refine tk 17 al4o_17 (.slice (some ⟨E, 0, none⟩) 1 1) rfl (by kernel_rfl) hH0 rfl (fun w0 hSw => ?_) ?_
 ·(unfold al4o_17; clear hSw; go_simp)
 simp only [al4o_17, Act.put, sA, sB, sC]
 refine tk 18 al4o_18 (.pointer (some ⟨E, 0, none⟩)) rfl (by kernel_rfl) hH0 rfl (fun w0 hSw => ?_) ?_
 ·(unfold al4o_18; clear hSw; go_simp)
 simp only [al4o_18, Act.put, sA, sB, sC]
 refine tk 19 al4o_19 (.agg #[.int .u64 a.x0, .int .u64 a.x1, .int .u64 a.x2, .int .u64 a.x3]) rfl (by kernel_rfl) hH0 rfl (fun w0 hSw => ?_) ?_
 ·(unfold al4o_19; have hS : Below W.heap.size W w0 := hSw; have a0 := cell_keep ca0 hS; have a1 := cell_keep ca1 hS; have a2 := cell_keep ca2 hS; have a3 := cell_keep ca3 hS; clear hS hSw; go_simp)
 simp only [al4o_19, Act.put, sA, sB, sC]
 refine wpAnyH_ready (rs := [20]) (by kernel_rfl) (by simp) ?_
 refine AllReadyH.cons (o := al4o_20) rfl (fun K hK => ?_) AllReadyH.nil
 unfold al4o_20
 have HH := hidden hH0
 clear hH0
 go_simp
 refine (C20.out _).mono ?_
 rintro e wn1 ⟨rfl, hb⟩
 have SN := hidden (bl_trans HH.out hb)
 clear HH C20 hb
 go_wp2_with fail
 refine hK.out _ _ SN.out (fun hH1 => ?_)
 clear hK K SN
 refine wpAnyH_ready (rs := [21]) (by kernel_rfl) (by simp) ?_
 refine AllReadyH.cons (o := al4o_21) rfl (fun K hK => ?_) AllReadyH.nil
 unfold al4o_21
 have HH := hidden hH1
 clear hH1
 go_simp
 refine (C21.out _ HH.out).mono ?_
 rintro e wn2 ⟨rfl, hb⟩
 have SN := hidden (bl_trans HH.out hb)
 clear HH C21 hb
 go_wp2_with fail
 refine hK.out _ _ SN.out (fun hH2 => ?_)
 clear hK K SN
 refine tk 22 al4o_22 (.bool false) rfl (by kernel_rfl) hH2 rfl (fun w0 hSw => ?_) ?_
 ·(unfold al4o_22; clear hSw; go_simp)
 simp only [al4o_22, Act.put, sA, sB, sC]
 refine tk 23 al4o_23 (.bool false) rfl (by kernel_rfl) hH2 rfl (fun w0 hSw => ?_) ?_
 ·(unfold al4o_23; clear hSw; go_simp)
 simp only [al4o_23, Act.put, sA, sB, sC]
 have HH := hidden hH2
 have FQ := hidden (HQ.out _ HH.out)
 refine wpAnyH_done (by kernel_rfl) ?_ _
 refine NoPanic.normal ?_
 exact FQ.out
def al6o_0 : Oper := { dst := some 51, op := Op.load 43 (Operand.tmp 1), type := 43, pos := "outright.go:25", after := #[], guard := none }
def al6o_1 : Oper := { dst := some 52, op := Op.move (Operand.tmp 2), type := 41, pos := "outright.go:25", after := #[], guard := none }
def al6o_2 : Oper := { dst := some 53, op := Op.call { callee := Callee.value (Operand.func 9), args := #[Operand.const (Value.int IntKind.u64 2)], argTypes := #[24] }, type := 26, pos := "outright.go:25", after := #[], guard := none }
def al6o_3 : Oper := { dst := some 54, op := Op.move (Operand.tmp 4), type := 23, pos := "outright.go:25", after := #[], guard := none }
def al6o_4 : Oper := { dst := some 55, op := Op.call { callee := Callee.value (Operand.func 22), args := #[Operand.tmp 51, Operand.tmp 52, Operand.tmp 53, Operand.tmp 54], argTypes := #[43, 41, 26, 23] }, type := 35, pos := "outright.go:25", after := #[{ on := 0, ground := Ground.data }, { on := 1, ground := Ground.data }, { on := 2, ground := Ground.data }, { on := 3, ground := Ground.data }, { on := 2, ground := Ground.chain }], guard := none }
def al6o_5 : Oper := { dst := some 56, op := Op.binOp BinOp.eql 3 (Operand.tmp 55) (Operand.const (Value.int IntKind.i64 0)) 3, type := 4, pos := "outright.go:25", after := #[{ on := 4, ground := Ground.data }], guard := none }
def al6o_6 : Oper := { dst := some 57, op := Op.move (Operand.tmp 56), type := 4, pos := "outright.go:25", after := #[{ on := 5, ground := Ground.data }, { on := 4, ground := Ground.chain }], guard := none }
def al6o_7 : Oper := { dst := some 58, op := Op.load 43 (Operand.tmp 1), type := 43, pos := "outright.go:25", after := #[{ on := 6, ground := Ground.guard }], guard := some (6, true) }
def al6o_8 : Oper := { dst := some 59, op := Op.move (Operand.tmp 2), type := 41, pos := "outright.go:25", after := #[{ on := 6, ground := Ground.guard }], guard := some (6, true) }
def al6o_9 : Oper := { dst := some 60, op := Op.call { callee := Callee.value (Operand.func 9), args := #[Operand.const (Value.int IntKind.u64 2)], argTypes := #[24] }, type := 26, pos := "outright.go:25", after := #[{ on := 6, ground := Ground.chain }, { on := 6, ground := Ground.guard }], guard := some (6, true) }
def al6o_10 : Oper := { dst := some 61, op := Op.call { callee := Callee.value (Operand.func 9), args := #[Operand.const (Value.int IntKind.u64 12)], argTypes := #[24] }, type := 26, pos := "outright.go:25", after := #[{ on := 9, ground := Ground.chain }, { on := 6, ground := Ground.guard }], guard := some (6, true) }
def al6o_11 : Oper := { dst := some 62, op := Op.buildSlice 23 1 #[(0, Operand.tmp 61)], type := 23, pos := "outright.go:25", after := #[{ on := 10, ground := Ground.data }, { on := 6, ground := Ground.guard }], guard := some (6, true) }
def al6o_12 : Oper := { dst := some 63, op := Op.call { callee := Callee.value (Operand.func 22), args := #[Operand.tmp 58, Operand.tmp 59, Operand.tmp 60, Operand.tmp 62], argTypes := #[43, 41, 26, 23] }, type := 35, pos := "outright.go:25", after := #[{ on := 7, ground := Ground.data }, { on := 8, ground := Ground.data }, { on := 9, ground := Ground.data }, { on := 11, ground := Ground.data }, { on := 10, ground := Ground.chain }, { on := 6, ground := Ground.guard }], guard := some (6, true) }
def al6o_13 : Oper := { dst := some 64, op := Op.binOp BinOp.eql 3 (Operand.tmp 63) (Operand.const (Value.int IntKind.i64 111)) 3, type := 4, pos := "outright.go:25", after := #[{ on := 12, ground := Ground.data }, { on := 6, ground := Ground.guard }], guard := some (6, true) }
def al6o_14 : Oper := { dst := some 65, op := Op.pick (Operand.tmp 57) (Operand.tmp 64) (Operand.const (Value.bool false)), type := 4, pos := "outright.go:25", after := #[{ on := 6, ground := Ground.data }, { on := 13, ground := Ground.data }], guard := none }
def al6o_15 : Oper := { dst := some 0, op := Op.assign (Operand.tmp 65), type := 4, pos := "outright.go:25", after := #[{ on := 14, ground := Ground.data }, { on := 12, ground := Ground.chain }, { on := 0, ground := Ground.phase }, { on := 1, ground := Ground.phase }, { on := 2, ground := Ground.phase }, { on := 3, ground := Ground.phase }, { on := 4, ground := Ground.phase }, { on := 5, ground := Ground.phase }, { on := 6, ground := Ground.phase }, { on := 7, ground := Ground.phase }, { on := 8, ground := Ground.phase }, { on := 9, ground := Ground.phase }, { on := 10, ground := Ground.phase }, { on := 11, ground := Ground.phase }, { on := 12, ground := Ground.phase }, { on := 13, ground := Ground.phase }, { on := 14, ground := Ground.phase }], guard := none }
def al6o : Array Oper := #[al6o_0, al6o_1, al6o_2, al6o_3, al6o_4, al6o_5, al6o_6, al6o_7, al6o_8, al6o_9, al6o_10, al6o_11, al6o_12, al6o_13, al6o_14, al6o_15]
theorem al6 (Q : Exit → Act → World → Prop) (T1 R I D E : Nat) (y v : E4) (u0 u3 u5 u6 u7 u8 u9 u10 u11 u12 u13 u14 u15 u16 u17 u18 u19 u20 u21 u22 u23 u24 u25 u26 u27 u28 u29 u30 u31 u32 u33 u34 u35 u36 u37 u38 u39 u40 u41 u42 u43 u44 u45 u46 u47 u48 u49 u50 u51 u52 u53 u54 u55 u56 u57 u58 u59 u60 u61 u62 u63 u64 u65 : Value) (W : World)
  (cl0 : W.cell? ⟨T1, 0, none⟩ = some (.slice (some ⟨R, 0, none⟩) 1 1)) (cl1 : W.cell? ⟨T1, 1, none⟩ = some (.slice (some ⟨I, 0, none⟩) 1 1))
  (C2 : Hid (∀ x, Calls Tryz.prog 9 #[.int .u64 2] x fun e w' => e = .returned (.agg #[.int .u64 y.x0, .int .u64 y.x1, .int .u64 y.x2, .int .u64 y.x3]) ∧ Below x.heap.size x w'))
  (C10 : Hid (∀ x, Calls Tryz.prog 9 #[.int .u64 12] x fun e w' => e = .returned (.agg #[.int .u64 v.x0, .int .u64 v.x1, .int .u64 v.x2, .int .u64 v.x3]) ∧ Below x.heap.size x w'))
  (C4 : Hid (∀ x, Below W.heap.size W x → Calls Tryz.prog 22 #[.agg #[.slice (some ⟨R, 0, none⟩) 1 1, .slice (some ⟨I, 0, none⟩) 1 1], .slice (some ⟨D, 0, none⟩) 1 1, .agg #[.int .u64 y.x0, .int .u64 y.x1, .int .u64 y.x2, .int .u64 y.x3], .slice (some ⟨E, 0, none⟩) 1 1] x fun e w' => e = .returned (.int .i64 0) ∧ Below x.heap.size x w'))
  (C12 : Hid (∀ (x : World) (tb : Nat), Below W.heap.size W x → x.rangeAt tb 0 [.int .u64 v.x0, .int .u64 v.x1, .int .u64 v.x2, .int .u64 v.x3] → Calls Tryz.prog 22 #[.agg #[.slice (some ⟨R, 0, none⟩) 1 1, .slice (some ⟨I, 0, none⟩) 1 1], .slice (some ⟨D, 0, none⟩) 1 1, .agg #[.int .u64 y.x0, .int .u64 y.x1, .int .u64 y.x2, .int .u64 y.x3], .slice (some ⟨tb, 0, none⟩) 1 1] x fun e w' => e = .returned (.int .i64 111) ∧ Below x.heap.size x w'))
  (HQ : Hid (∀ (tb : Nat) (wz : World), Below W.heap.size W wz → Q .normal ⟨#[.bool true, .pointer (some ⟨T1, 0, none⟩), .slice (some ⟨D, 0, none⟩) 1 1, u3, .slice (some ⟨E, 0, none⟩) 1 1, u5, u6, u7, u8, u9, u10, u11, u12, u13, u14, u15, u16, u17, u18, u19, u20, u21, u22, u23, u24, u25, u26, u27, u28, u29, u30, u31, u32, u33, u34, u35, u36, u37, u38, u39, u40, u41, u42, u43, u44, u45, u46, u47, u48, u49, u50, .agg #[.slice (some ⟨R, 0, none⟩) 1 1, .slice (some ⟨I, 0, none⟩) 1 1], .slice (some ⟨D, 0, none⟩) 1 1, .agg #[.int .u64 y.x0, .int .u64 y.x1, .int .u64 y.x2, .int .u64 y.x3], .slice (some ⟨E, 0, none⟩) 1 1, .int .i64 0, .bool true, .bool true, .agg #[.slice (some ⟨R, 0, none⟩) 1 1, .slice (some ⟨I, 0, none⟩) 1 1], .slice (some ⟨D, 0, none⟩) 1 1, .agg #[.int .u64 y.x0, .int .u64 y.x1, .int .u64 y.x2, .int .u64 y.x3], .agg #[.int .u64 v.x0, .int .u64 v.x1, .int .u64 v.x2, .int .u64 v.x3], .slice (some ⟨tb, 0, none⟩) 1 1, .int .i64 111, .bool true, .bool true], []⟩ wz)) : (Code.region 6 al6o true).wp Tryz.prog Q ⟨#[u0, .pointer (some ⟨T1, 0, none⟩), .slice (some ⟨D, 0, none⟩) 1 1, u3, .slice (some ⟨E, 0, none⟩) 1 1, u5, u6, u7, u8, u9, u10, u11, u12, u13, u14, u15, u16, u17, u18, u19, u20, u21, u22, u23, u24, u25, u26, u27, u28, u29, u30, u31, u32, u33, u34, u35, u36, u37, u38, u39, u40, u41, u42, u43, u44, u45, u46, u47, u48, u49, u50, u51, u52, u53, u54, u55, u56, u57, u58, u59, u60, u61, u62, u63, u64, u65], []⟩ W := by
 unfold al6o
 refine wp_region_noPanic ?_
 refine wp_region_held_drew (S := fun x => Below W.heap.size W x) (by kernel_rfl) (bl_drew W) (fun hH0 => ?_)
 refine tk 0 al6o_0 (.agg #[.slice (some ⟨R, 0, none⟩) 1 1, .slice (some ⟨I, 0, none⟩) 1 1]) rfl (by kernel_rfl) hH0 rfl (fun w0 hSw => ?_) ?_
 ·(unfold al6o_0; have hS : Below W.heap.size W w0 := hSw; have a0 := cell_keep cl0 hS; have a1 := cell_keep cl1 hS; clear hS hSw; go_simp)
 simp only [al6o_0, Act.put, sA, sB, sC]
 refine tk 1 al6o_1 (.slice (some ⟨D, 0, none⟩) 1 1) rfl (by kernel_rfl) hH0 rfl (fun w0 hSw => ?_) ?_
 ·(unfold al6o_1; clear hSw; go_simp)
 simp only [al6o_1, Act.put, sA, sB, sC]
 refine tk 3 al6o_3 (.slice (some ⟨E, 0, none⟩) 1 1) rfl (by kernel_rfl) hH0 rfl (fun w0 hSw => ?_) ?_
 ·(unfold al6o_3; clear hSw; go_simp)
 simp only [al6o_3, Act.put, sA, sB, sC]
 refine wpAnyH_ready (rs := [2]) (by kernel_rfl) (by simp) ?_
 refine AllReadyH.cons (o := al6o_2) rfl (fun K hK => ?_) AllReadyH.nil
 unfold al6o_2
 have HH := hidden hH0
 clear hH0
 go_simp
 refine (C2.out _).mono ?_
 rintro e wn1 ⟨rfl, hb⟩
 have SN := hidden (bl_trans HH.out hb)
 clear HH hb
 go_wp2_with fail
 refine hK.out _ _ SN.out (fun hH1 => ?_)
 clear hK K SN
 refine wpAnyH_ready (rs := [4]) (by kernel_rfl) (by simp) ?_
 refine AllReadyH.cons (o := al6o_4) rfl (fun K hK => ?_) AllReadyH.nil
 unfold al6o_4
 have HH := hidden hH1
 clear hH1
 go_simp
 refine (C4.out _ HH.out).mono ?_
 rintro e wn2 ⟨rfl, hb⟩
 have SN := hidden (bl_trans HH.out hb)
 clear HH C4 hb
 go_wp2_with fail
 refine hK.out _ _ SN.out (fun hH2 => ?_)
 clear hK K SN
 refine tk 5 al6o_5 (.bool true) rfl (by kernel_rfl) hH2 rfl (fun w0 hSw => ?_) ?_
 ·(unfold al6o_5; clear hSw; go_simp)
 simp only [al6o_5, Act.put, sA, sB, sC]
 refine tk 6 al6o_6 (.bool true) rfl (by kernel_rfl) hH2 rfl (fun w0 hSw => ?_) ?_
 ·(unfold al6o_6; clear hSw; go_simp)
 simp only [al6o_6, Act.put, sA, sB, sC]
 refine tk 7 al6o_7 (.agg #[.slice (some ⟨R, 0, none⟩) 1 1, .slice (some ⟨I, 0, none⟩) 1 1]) rfl (by kernel_rfl) hH2 rfl (fun w0 hSw => ?_) ?_
 ·(unfold al6o_7; have hS : Below W.heap.size W w0 := hSw; have a0 := cell_keep cl0 hS; have a1 := cell_keep cl1 hS; clear hS hSw; go_simp)
 simp only [al6o_7, Act.put, sA, sB, sC]
 refine tk 8 al6o_8 (.slice (some ⟨D, 0, none⟩) 1 1) rfl (by kernel_rfl) hH2 rfl (fun w0 hSw => ?_) ?_
 ·(unfold al6o_8; clear hSw; go_simp)
 simp only [al6o_8, Act.put, sA, sB, sC]
 refine wpAnyH_ready (rs := [9]) (by kernel_rfl) (by simp) ?_
 refine AllReadyH.cons (o := al6o_9) rfl (fun K hK => ?_) AllReadyH.nil
 unfold al6o_9
 have HH := hidden hH2
 clear hH2
 go_simp
 refine (C2.out _).mono ?_
 rintro e wn3 ⟨rfl, hb⟩
 have SN := hidden (bl_trans HH.out hb)
 clear HH C2 hb
 go_wp2_with fail
 refine hK.out _ _ SN.out (fun hH3 => ?_)
 clear hK K SN
 refine wpAnyH_ready (rs := [10]) (by kernel_rfl) (by simp) ?_
 refine AllReadyH.cons (o := al6o_10) rfl (fun K hK => ?_) AllReadyH.nil
 unfold al6o_10
 have HH := hidden hH3
 clear hH3
 go_simp
 refine (C10.out _).mono ?_
 rintro e wn4 ⟨rfl, hb⟩
 have SN := hidden (bl_trans HH.out hb)
 clear HH C10 hb
 go_wp2_with fail
 refine hK.out _ _ SN.out (fun hH4 => ?_)
 clear hK K SN
 refine wpAnyH_ready (rs := [11]) (by kernel_rfl) (by simp) ?_
 refine AllReadyH.cons (o := al6o_11) rfl (fun K hK => ?_) AllReadyH.nil
 unfold al6o_11
 have HH := hidden hH4
 clear hH4
 refine wp_buildS1 (.tmp 61) rfl v rfl (fun tb wn5 hb hcb => ?_)
 have RB := hidden (hcb)
 have SN := hidden (bl_trans HH.out hb)
 clear HH hb hcb
 simp only [Act.put, sA, sB, sC]
 refine hK.out _ _ SN.out (fun hH5 => ?_)
 clear hK K SN
 refine wpAnyH_ready (rs := [12]) (by kernel_rfl) (by simp) ?_
 refine AllReadyH.cons (o := al6o_12) rfl (fun K hK => ?_) AllReadyH.nil
 unfold al6o_12
 have HH := hidden hH5
 clear hH5
 go_simp
 refine (C12.out _ tb HH.out RB.out).mono ?_
 rintro e wn6 ⟨rfl, hb⟩
 have SN := hidden (bl_trans HH.out hb)
 clear HH C12 hb RB
 go_wp2_with fail
 refine hK.out _ _ SN.out (fun hH6 => ?_)
 clear hK K SN
 refine tk 13 al6o_13 (.bool true) rfl (by kernel_rfl) hH6 rfl (fun w0 hSw => ?_) ?_
 ·(unfold al6o_13; clear hSw; go_simp)
 simp only [al6o_13, Act.put, sA, sB, sC]
 refine tk 14 al6o_14 (.bool true) rfl (by kernel_rfl) hH6 rfl (fun w0 hSw => ?_) ?_
 ·(unfold al6o_14; clear hSw; go_simp)
 simp only [al6o_14, Act.put, sA, sB, sC]
 refine tk 15 al6o_15 (.bool true) rfl (by kernel_rfl) hH6 rfl (fun w0 hSw => ?_) ?_
 ·(unfold al6o_15; clear hSw; go_simp)
 simp only [al6o_15, Act.put, List.setIfInBounds_toArray, List.set_cons_zero]
 have HH := hidden hH6
 have FQ := hidden (HQ.out tb _ HH.out)
 refine wpAnyH_done (by kernel_rfl) ?_ _
 refine NoPanic.normal ?_
 exact FQ.out
theorem alive_any (w : World) (hT : Tb w) : Calls Tryz.prog 7 #[] w fun e w' => e = .returned (.bool true) ∧ Below w.heap.size w w' := by
 have I1 := hidden (fun x => ints_any 1 x)
 have I5 := hidden (fun x => ints_any 5 x)
 have KC := hidden (fun x => Key1 (⟨1, 0, 0, 0⟩ : E4) (⟨5, 0, 0, 0⟩ : E4) x)
 obtain ⟨f1, hf1⟩ : ∃ f1, lst (zero4.n + (lst ((⟨1, 0, 0, 0⟩ : E4).n * (⟨3, 0, 0, 0⟩ : E4).n)).n) = f1 := ⟨_, rfl⟩
 obtain ⟨an, han⟩ : ∃ an, lst ((⟨3, 0, 0, 0⟩ : E4).n + (lst ((⟨2, 0, 0, 0⟩ : E4).n * (⟨5, 0, 0, 0⟩ : E4).n)).n) = an := ⟨_, rfl⟩
 have hf3 : lst f1.n = lst 3 := by rw [← hf1, lst_n', n_small, n_small, z4n, Int.zero_add, lst_n']; rfl
 have han13 : lst an.n = lst 13 := by rw [← han, lst_n', n_small, n_small, n_small, lst_two rfl (lst_n' _)]; rfl
 have of1 : f1.ok := hf1 ▸ lst_ok _
 have oan : an.ok := han ▸ lst_ok _
 have HT := hidden hT
 have HN := hidden (And.intro hf1 (And.intro han (And.intro hf3 (And.intro han13 (And.intro of1 oan)))))
 clear hT hf1 han hf3 han13 of1 oan
 go_enter Tryz.func7, Tryz.ntmps7
 go_upto_region 2 with (first
  | (go_at_call 9; refine (I1.out _).mono ?_; rintro e wa ⟨rfl, ha⟩; have BA := hidden ha; clear ha I1)
  | (go_at_call 9; refine (I5.out _).mono ?_; rintro e wb ⟨rfl, hb⟩; have BW := hidden (bl_trans BA.out hb); clear hb I5)
  | (go_at_call 19; refine (KC.out _).mono ?_; rintro e wc ⟨R, I, g, rfl, kR, kg, kI, hc⟩; have BC := hidden (bl_trans BW.out hc); have HK := hidden (And.intro kR (And.intro kg kI)); clear hc kR kg kI KC))
 have B1 : Below w.heap.size w (wc.alloc (.cells #[.slice (some ⟨R, 0, none⟩) 1 1, .slice (some ⟨I, 0, none⟩) 1 1] 43)) := bl_trans BC.out (bl_alloc wc _)
 have a0 : (wc.alloc (.cells #[.slice (some ⟨R, 0, none⟩) 1 1, .slice (some ⟨I, 0, none⟩) 1 1] 43)).cell? ⟨wc.heap.size, 0, none⟩ = some (.slice (some ⟨R, 0, none⟩) 1 1) := by go_simp
 have a1 : (wc.alloc (.cells #[.slice (some ⟨R, 0, none⟩) 1 1, .slice (some ⟨I, 0, none⟩) 1 1] 43)).cell? ⟨wc.heap.size, 1, none⟩ = some (.slice (some ⟨I, 0, none⟩) 1 1) := by go_simp
 have kR := cell_keep HK.out.1 (bl_alloc wc (.cells #[.slice (some ⟨R, 0, none⟩) 1 1, .slice (some ⟨I, 0, none⟩) 1 1] 43))
 have kg := HK.out.2.1.keep (bl_alloc wc (.cells #[.slice (some ⟨R, 0, none⟩) 1 1, .slice (some ⟨I, 0, none⟩) 1 1] 43))
 have kI := range_bl HK.out.2.2 (bl_alloc wc (.cells #[.slice (some ⟨R, 0, none⟩) 1 1, .slice (some ⟨I, 0, none⟩) 1 1] 43))
 generalize (wc.alloc (.cells #[.slice (some ⟨R, 0, none⟩) 1 1, .slice (some ⟨I, 0, none⟩) 1 1] 43)) = w1 at *
 generalize wc.heap.size = T1 at *
 have TT := HT.out
 obtain ⟨hf1, han, hf3, han13, of1, oan⟩ := HN.out
 refine al2 _ T1 R I (⟨3, 0, 0, 0⟩ : E4) (fun D w' => w'.rangeAt D 0 [.int .u64 f1.x0, .int .u64 f1.x1, .int .u64 f1.x2, .int .u64 f1.x3]) _ _ _ _ _ _ _ _ _ _ _ _ _ _ _ _ _ _ _ _ _ _ _ _ _ _ _ _ _ _ _ _ _ _ _ _ _ _ _ _ _ _ _ _ _ _ _ _ _ _ _ _ _ _ _ _ _ _ _ _ _ _ _ _ _ w1 a0 a1 (hidden (fun x => ints_any 3 x)) (hidden (fun x tb hx htb => (First1 R I g 1 1 1 1 _ (fun _ => (⟨3, 0, 0, 0⟩ : E4)) (fun _ => (⟨1, 0, 0, 0⟩ : E4)) _ f1 x (TT.keep (bl_trans B1 hx)) (lm1 htb) (ok_small 3 (by omega)) (ok_small 1 (by omega)) (cell_keep kR hx) (kg.keep hx) rfl hf1.symm).mono (fun e w' q => by
  obtain ⟨D, h1, h2, h3, h4⟩ := q
  exact ⟨D, h1, h3, h4⟩))) (hidden ?_)
 intro tb D w2 hw2 hD
 have I3 := hidden (fun x => ints_any 3 x)
 have I5 := hidden (fun x => ints_any 5 x)
 have I2 := hidden (fun x => ints_any 2 x)
 have AN := hidden (fun (x : World) (A X : Nat) (hx : Below w2.heap.size w2 x) (h1 : x.rangeAt A 0 [.int .u64 (⟨3, 0, 0, 0⟩ : E4).x0, .int .u64 (⟨3, 0, 0, 0⟩ : E4).x1, .int .u64 (⟨3, 0, 0, 0⟩ : E4).x2, .int .u64 (⟨3, 0, 0, 0⟩ : E4).x3]) (h2 : x.rangeAt X 0 [.int .u64 (⟨5, 0, 0, 0⟩ : E4).x0, .int .u64 (⟨5, 0, 0, 0⟩ : E4).x1, .int .u64 (⟨5, 0, 0, 0⟩ : E4).x2, .int .u64 (⟨5, 0, 0, 0⟩ : E4).x3]) => Answer1 A X 1 1 (⟨3, 0, 0, 0⟩ : E4) (⟨5, 0, 0, 0⟩ : E4) (⟨2, 0, 0, 0⟩ : E4) _ an x (TT.keep (bl_trans B1 (bl_trans hw2 hx))) (ok_small 3 (by omega)) (ok_small 5 (by omega)) (ok_small 2 (by omega)) h1 h2 rfl han.symm)
 have B2 := bl_trans B1 hw2
 have b0 := cell_keep a0 hw2
 have b1 := cell_keep a1 hw2
 have lR := cell_keep kR hw2
 have lg := kg.keep hw2
 have lI := range_bl kI hw2
 have HL := hidden (And.intro B2 (And.intro b0 (And.intro b1 (And.intro lR (And.intro lg (And.intro lI hD))))))
 clear B1 B2 a0 a1 b0 b1 kR kg kI lR lg lI hD hw2 hf1 han HK BA BW BC
 go_upto_region 4 with (first
  | (go_at_call 9; refine (I3.out _).mono ?_; rintro e wd ⟨rfl, hd⟩; have BD := hidden hd; have R3 := hidden (range_newM wd [.int .u64 (⟨3, 0, 0, 0⟩ : E4).x0, .int .u64 (⟨3, 0, 0, 0⟩ : E4).x1, .int .u64 (⟨3, 0, 0, 0⟩ : E4).x2, .int .u64 (⟨3, 0, 0, 0⟩ : E4).x3] 26); clear hd I3)
  | (go_at_call 9; refine (I5.out _).mono ?_; rintro e we ⟨rfl, he⟩; have BE := hidden (bl_trans (bl_alloc wd (.cells #[.int .u64 3, .int .u64 0, .int .u64 0, .int .u64 0] 26)) he); have BE3 := hidden he; have R5 := hidden (range_newM we [.int .u64 (⟨5, 0, 0, 0⟩ : E4).x0, .int .u64 (⟨5, 0, 0, 0⟩ : E4).x1, .int .u64 (⟨5, 0, 0, 0⟩ : E4).x2, .int .u64 (⟨5, 0, 0, 0⟩ : E4).x3] 26); clear he I5)
  | (go_at_call 9; refine (I2.out _).mono ?_; rintro e wf ⟨rfl, hf⟩; have BF := hidden (bl_trans (bl_alloc we (.cells #[.int .u64 5, .int .u64 0, .int .u64 0, .int .u64 0] 26)) hf); have BF5 := hidden hf; clear hf I2)
  | (go_at_call 21; refine (AN.out _ wd.heap.size we.heap.size (bl_trans BD.out (bl_trans BE.out BF.out)) (range_bl R3.out (bl_trans BE3.out BF.out)) (range_bl R5.out BF5.out)).mono ?_; rintro e wg ⟨X, rfl, hX, hr, hg⟩; have HG := hidden (And.intro hr (bl_trans (bl_trans BD.out (bl_trans BE.out BF.out)) hg)); clear hX hr hg AN))
 obtain ⟨B2, b0, b1, lR, lg, lI, hD⟩ := HL.out
 obtain ⟨hr, hg⟩ := HG.out
 have BG := bl_trans B2 hg
 refine al4 _ D X an (⟨13, 0, 0, 0⟩ : E4) _ _ _ _ _ _ _ _ _ _ _ _ _ _ _ _ _ _ _ _ _ _ _ _ _ _ _ _ _ _ _ _ _ _ _ _ _ _ _ _ _ _ _ _ _ _ _ _ _ _ _ _ _ _ _ _ _ _ _ _ _ _ wg (hr 0 _ rfl) (hr 1 _ rfl) (hr 2 _ rfl) (hr 3 _ rfl) (hidden (fun x => ints_any 13 x)) (hidden (fun x hx => (Same_any an (⟨13, 0, 0, 0⟩ : E4) x (TT.keep (bl_trans BG hx)) oan (ok_small 13 (by omega))).mono (fun e w' q => ⟨by rw [q.1, han13, n_small, E4.same_self], q.2⟩))) (hidden ?_)
 intro w4 h4
 have B4 := bl_trans BG h4
 have hw4 := bl_trans hg h4
 have CA4 : Hid (∀ x, Below w4.heap.size w4 x → Calls Tryz.prog 22 #[.agg #[.slice (some ⟨R, 0, none⟩) 1 1, .slice (some ⟨I, 0, none⟩) 1 1], .slice (some ⟨D, 0, none⟩) 1 1, .agg #[.int .u64 (⟨2, 0, 0, 0⟩ : E4).x0, .int .u64 (⟨2, 0, 0, 0⟩ : E4).x1, .int .u64 (⟨2, 0, 0, 0⟩ : E4).x2, .int .u64 (⟨2, 0, 0, 0⟩ : E4).x3], .slice (some ⟨X, 0, none⟩) 1 1] x fun e w' => e = .returned (.int .i64 0) ∧ Below x.heap.size x w') := hidden (fun x hx => accepts_L R I g 1 1 1 1 1 (some ⟨X, 0, none⟩) (⟨2, 0, 0, 0⟩ : E4) (⟨5, 0, 0, 0⟩ : E4) (fun _ => an) (fun _ => (⟨1, 0, 0, 0⟩ : E4)) D 1 f1 true x (by omega) (by omega) (TT.keep (bl_trans B4 hx)) (ok_small 2 (by omega)) (lm1 (range_bl hr (bl_trans h4 hx))) (fun _ _ => oan) (cell_keep lR (bl_trans hw4 hx)) (lg.keep (bl_trans hw4 hx)) (fun _ _ => ok_small 1 (by omega)) (range_bl lI (bl_trans hw4 hx)) (ok_small 5 (by omega)) (range_bl hD (bl_trans hw4 hx)) of1 (by
  rw [lst_n', hf3]
  have e : lst (tot (fun _ => an.n * (⟨1, 0, 0, 0⟩ : E4).n) 1 + -(⟨2, 0, 0, 0⟩ : E4).n * (⟨5, 0, 0, 0⟩ : E4).n) = lst 3 := by
   rw [n_small, n_small, n_small, tot, tot, Int.zero_add, Int.mul_one, lst_two han13 rfl]
   rfl
  rw [e, E4.same_self]))
 have CA12 : Hid (∀ (x : World) (tb : Nat), Below w4.heap.size w4 x → x.rangeAt tb 0 [.int .u64 (⟨12, 0, 0, 0⟩ : E4).x0, .int .u64 (⟨12, 0, 0, 0⟩ : E4).x1, .int .u64 (⟨12, 0, 0, 0⟩ : E4).x2, .int .u64 (⟨12, 0, 0, 0⟩ : E4).x3] → Calls Tryz.prog 22 #[.agg #[.slice (some ⟨R, 0, none⟩) 1 1, .slice (some ⟨I, 0, none⟩) 1 1], .slice (some ⟨D, 0, none⟩) 1 1, .agg #[.int .u64 (⟨2, 0, 0, 0⟩ : E4).x0, .int .u64 (⟨2, 0, 0, 0⟩ : E4).x1, .int .u64 (⟨2, 0, 0, 0⟩ : E4).x2, .int .u64 (⟨2, 0, 0, 0⟩ : E4).x3], .slice (some ⟨tb, 0, none⟩) 1 1] x fun e w' => e = .returned (.int .i64 111) ∧ Below x.heap.size x w') := hidden (fun x tb hx htb => accepts_L R I g 1 1 1 1 1 (some ⟨tb, 0, none⟩) (⟨2, 0, 0, 0⟩ : E4) (⟨5, 0, 0, 0⟩ : E4) (fun _ => (⟨12, 0, 0, 0⟩ : E4)) (fun _ => (⟨1, 0, 0, 0⟩ : E4)) D 1 f1 false x (by omega) (by omega) (TT.keep (bl_trans B4 hx)) (ok_small 2 (by omega)) (lm1 htb) (fun _ _ => ok_small 12 (by omega)) (cell_keep lR (bl_trans hw4 hx)) (lg.keep (bl_trans hw4 hx)) (fun _ _ => ok_small 1 (by omega)) (range_bl lI (bl_trans hw4 hx)) (ok_small 5 (by omega)) (range_bl hD (bl_trans hw4 hx)) of1 (by
  rw [lst_n', hf3]
  have e : lst (tot (fun _ => (⟨12, 0, 0, 0⟩ : E4).n * (⟨1, 0, 0, 0⟩ : E4).n) 1 + -(⟨2, 0, 0, 0⟩ : E4).n * (⟨5, 0, 0, 0⟩ : E4).n) = lst 2 := by
   rw [n_small, n_small, n_small, n_small, tot, tot]
   rfl
  rw [e]
  decide +kernel))
 go_upto_region 6 with fail
 refine al6 _ T1 R I D X (⟨2, 0, 0, 0⟩ : E4) (⟨12, 0, 0, 0⟩ : E4) _ _ _ _ _ _ _ _ _ _ _ _ _ _ _ _ _ _ _ _ _ _ _ _ _ _ _ _ _ _ _ _ _ _ _ _ _ _ _ _ _ _ _ _ _ _ _ _ _ _ _ _ _ _ _ _ _ _ _ _ _ _ _ w4 (cell_keep b0 hw4) (cell_keep b1 hw4) (hidden (fun x => ints_any 2 x)) (hidden (fun x => ints_any 12 x)) CA4 CA12 (hidden ?_)
 intro tb w5 h5
 have B5 := bl_trans B4 h5
 clear CA4 CA12
 go_wp2_with fail
 refine bodyPost_ret (v := .bool true) (by simp [results, Tryz.results7, go_sem]) rfl ⟨rfl, B5⟩
end Go.Proofs.YtbbnjmjeeiglcaaGreatDoor.Li
namespace Go.Proofs.YtbbnjmjeeiglcaaGreatDoor
namespace Sg
open Go.RowKit
theorem einfo : (Tryz.prog.info? 34).map (·.size) = some 10 := by kernel_rfl
theorem one10 (p q : E4) (Pa Qa : Option Addr) (a b c d : Nat) : ([.int .u64 p.x0, .int .u64 p.x1, .int .u64 p.x2, .int .u64 p.x3, .int .u64 q.x0, .int .u64 q.x1, .int .u64 q.x2, .int .u64 q.x3, .slice Pa a b, .slice Qa c d] : List Value).toArray.all (·.oneCell') = true := by simp [Value.oneCell']
theorem zv_e (w : World) : (zeroValue 34).run Tryz.prog w = .ok (.agg ([.int .u64 0, .int .u64 0, .int .u64 0, .int .u64 0, .int .u64 0, .int .u64 0, .int .u64 0, .int .u64 0, .slice none 0 0, .slice none 0 0] : List Value).toArray) w := by kernel_rfl
theorem wp_allocE {o : Oper} {a : Act} {w : World} {K : Act → World → Prop} {Q : Exit → Act → World → Prop} (ho : o.op = .alloc 34) (h : ∀ (A : Nat) (wq : World), A = w.heap.size → Below w.heap.size w wq → wq.there A 0 10 → wq.rangeAt A 0 [.int .u64 0, .int .u64 0, .int .u64 0, .int .u64 0, .int .u64 0, .int .u64 0, .int .u64 0, .int .u64 0, .slice none 0 0, .slice none 0 0] → K (a.put o.dst (.pointer (some ⟨A, 0, none⟩))) wq) : o.wp Tryz.prog a w K Q := wp_allocY _ zv_e ho h
theorem cb_of {w w' : World} {s R I r n : Nat} {g cn : Nat → Nat} {gs : Nat → Nat → E4} {im : Nat → E4} (h : Cl w R I r n g cn gs im) (hs : w.heap.size ≤ s) (h' : Cl w' R I r n g cn gs im) (hr : 1 ≤ r) (hn : 1 ≤ n) : Cb s w' R I r n g cn gs im :=
 ⟨h', Nat.lt_of_lt_of_le (World.block_lt_of_cell? w _ (h.row 0 hr)) hs, Nat.lt_of_lt_of_le (rl_lt h.ri hr) hs, fun i hi => Nat.lt_of_lt_of_le (rl_lt (h.rl i hi) hn) hs⟩
def lw12o_0 : Oper := { dst := some 62, op := Op.load 30 (Operand.tmp 22), type := 30, pos := "outright.go:220", after := #[], guard := none }
def lw12o_1 : Oper := { dst := some 63, op := Op.call { callee := Callee.value (Operand.func 11), args := #[Operand.tmp 62], argTypes := #[30] }, type := 43, pos := "outright.go:220", after := #[{ on := 0, ground := Ground.data }], guard := none }
def lw12o_2 : Oper := { dst := some 64, op := Op.load 30 (Operand.tmp 23), type := 30, pos := "outright.go:220", after := #[], guard := none }
def lw12o_3 : Oper := { dst := some 65, op := Op.call { callee := Callee.value (Operand.func 11), args := #[Operand.tmp 64], argTypes := #[30] }, type := 43, pos := "outright.go:220", after := #[{ on := 2, ground := Ground.data }, { on := 1, ground := Ground.chain }], guard := none }
def lw12o_4 : Oper := { dst := some 66, op := Op.move (Operand.tmp 18), type := 23, pos := "outright.go:220", after := #[], guard := none }
def lw12o_5 : Oper := { dst := some 67, op := Op.move (Operand.tmp 20), type := 23, pos := "outright.go:220", after := #[], guard := none }
def lw12o_6 : Oper := { dst := some 68, op := Op.load 26 (Operand.tmp 14), type := 26, pos := "outright.go:220", after := #[], guard := none }
def lw12o_7 : Oper := { dst := some 69, op := Op.move (Operand.tmp 21), type := 23, pos := "outright.go:220", after := #[], guard := none }
def lw12o_8 : Oper := { dst := some 70, op := Op.load 26 (Operand.tmp 15), type := 26, pos := "outright.go:220", after := #[], guard := none }
def lw12o_9 : Oper := { dst := some 71, op := Op.buildSlice 23 1 #[(0, Operand.tmp 70)], type := 23, pos := "outright.go:220", after := #[{ on := 8, ground := Ground.data }], guard := none }
def lw12o_10 : Oper := { dst := some 72, op := Op.call { callee := Callee.value (Operand.func 12), args := #[Operand.tmp 71], argTypes := #[23] }, type := 45, pos := "outright.go:220", after := #[{ on := 9, ground := Ground.data }, { on := 3, ground := Ground.chain }], guard := none }
def lw12o_11 : Oper := { dst := some 73, op := Op.makeInterface 45 (Operand.tmp 72), type := 60, pos := "outright.go:220", after := #[{ on := 10, ground := Ground.data }], guard := none }
def lw12o_12 : Oper := { dst := some 74, op := Op.call { callee := Callee.value (Operand.func 10), args := #[Operand.tmp 63, Operand.tmp 65, Operand.const (Value.int IntKind.i64 1), Operand.tmp 66, Operand.tmp 67, Operand.tmp 68, Operand.tmp 69, Operand.tmp 73], argTypes := #[43, 43, 3, 23, 23, 26, 23, 60] }, type := 36, pos := "outright.go:220", after := #[{ on := 1, ground := Ground.data }, { on := 3, ground := Ground.data }, { on := 4, ground := Ground.data }, { on := 5, ground := Ground.data }, { on := 6, ground := Ground.data }, { on := 7, ground := Ground.data }, { on := 11, ground := Ground.data }, { on := 10, ground := Ground.chain }], guard := none }
def lw12o_13 : Oper := { dst := some 61, op := Op.move (Operand.tmp 74), type := 36, pos := "outright.go:220", after := #[{ on := 12, ground := Ground.data }], guard := none }
def lw12o_14 : Oper := { dst := some 75, op := Op.extract (Operand.tmp 61) 0, type := 34, pos := "outright.go:220", after := #[{ on := 13, ground := Ground.data }], guard := none }
def lw12o_15 : Oper := { dst := some 76, op := Op.extract (Operand.tmp 61) 1, type := 35, pos := "outright.go:220", after := #[{ on := 13, ground := Ground.data }, { on := 17, ground := Ground.gcOnly Departure.lateStores }], guard := none }
def lw12o_16 : Oper := { dst := some 24, op := Op.alloc 34, type := 0, pos := "outright.go:220", after := #[], guard := none }
def lw12o_17 : Oper := { dst := none, op := Op.store 34 (Operand.tmp 24) (Operand.tmp 75), type := 0, pos := "outright.go:220", after := #[{ on := 16, ground := Ground.data }, { on := 14, ground := Ground.data }, { on := 12, ground := Ground.chain }, { on := 0, ground := Ground.phase }, { on := 1, ground := Ground.phase }, { on := 2, ground := Ground.phase }, { on := 3, ground := Ground.phase }, { on := 4, ground := Ground.phase }, { on := 5, ground := Ground.phase }, { on := 6, ground := Ground.phase }, { on := 7, ground := Ground.phase }, { on := 8, ground := Ground.phase }, { on := 9, ground := Ground.phase }, { on := 10, ground := Ground.phase }, { on := 11, ground := Ground.phase }, { on := 12, ground := Ground.phase }, { on := 13, ground := Ground.phase }, { on := 14, ground := Ground.phase }, { on := 15, ground := Ground.textOnly Departure.lateStores }, { on := 16, ground := Ground.phase }], guard := none }
def lw12o_18 : Oper := { dst := some 25, op := Op.assign (Operand.tmp 76), type := 35, pos := "outright.go:220", after := #[{ on := 15, ground := Ground.data }, { on := 17, ground := Ground.chain }, { on := 0, ground := Ground.phase }, { on := 1, ground := Ground.phase }, { on := 2, ground := Ground.phase }, { on := 3, ground := Ground.phase }, { on := 4, ground := Ground.phase }, { on := 5, ground := Ground.phase }, { on := 6, ground := Ground.phase }, { on := 7, ground := Ground.phase }, { on := 8, ground := Ground.phase }, { on := 9, ground := Ground.phase }, { on := 10, ground := Ground.phase }, { on := 11, ground := Ground.phase }, { on := 12, ground := Ground.phase }, { on := 13, ground := Ground.phase }, { on := 14, ground := Ground.phase }, { on := 15, ground := Ground.phase }, { on := 16, ground := Ground.phase }, { on := 17, ground := Ground.phase }], guard := none }
def lw12o : Array Oper := #[lw12o_0, lw12o_1, lw12o_2, lw12o_3, lw12o_4, lw12o_5, lw12o_6, lw12o_7, lw12o_8, lw12o_9, lw12o_10, lw12o_11, lw12o_12, lw12o_13, lw12o_14, lw12o_15, lw12o_16, lw12o_17, lw12o_18]
section
variable {Q : Exit → Act → World → Prop} {T14 T15 T22 T23 RR J1 J2 cRR cJ1 cJ2 A3 A4 A6 c3 c4 c6 r n : Nat} {t c u v : E4} {gs : Nat → Nat → E4} {im1 im2 fa fb : Nat → E4} {Xa Xb Xc Xd Xe Xf Xg Xh Xi Xj Xk Xl Xm Xn Xq Xr Xt Xy Xz Ya Yb Yc Yd Ye Yf Yg Yh Yi Yj Yk Yl Ym Yn Yo Yp Yq Yr Ys Yt Yu Yv Yw Yx Yy Yz Za Zb Zc Zd Ze Zf Zg Zh Zi Zj Zk Zl Zm Zn Zo Zp Zq Zr Zs Zt Zu Zv Zw Zx Zy Zz Ua Ub Uc Ud Ue Uf Ug Uh Ui Uj Uk Ul Um Un Uo Up Uq Ur Us Ut Uu Uv Uw Ux Uy Uz Da Db Dc Dd De Df Dg Dh Di Dj Dk Dl Dm Dn Do Dp Dq Dr Ds Dt Du Dv Dw Dx Dy Dz Ja Jb Jc Jd Je Jf Jg Jh Ji Jj Jk Jl Jm Jn Jo Jp Jq Jr Js Jt Ju Jv Jw Jx Jy Jz Ia Ib Ic Id Ie If Ig Ih Ii Ij Ik Il Im In Io Ip Iq Ir Is It Iu Iv Iw Ix Iy Iz Ga Gb Gc Gd Ge Gf Gg Gh Gi Gj Gk Gl Gm Gn Go Gp Gq Gr Gs Gt Gu Gv Gw Gx Gy Gz Ba Bb Bc Bd Be Bf Bg Bh Bi : Value} {W : World}
variable (hr1 : 1 ≤ r)
variable (hn1 : 1 ≤ n)
variable (ca0 : W.cell? ⟨T22, 0, none⟩ = some (.slice (some ⟨RR, 0, none⟩) r cRR)) (ca1 : W.cell? ⟨T22, 1, none⟩ = some (.slice (some ⟨J1, 0, none⟩) r cJ1))
variable (cb0 : W.cell? ⟨T23, 0, none⟩ = some (.slice (some ⟨RR, 0, none⟩) r cRR)) (cb1 : W.cell? ⟨T23, 1, none⟩ = some (.slice (some ⟨J2, 0, none⟩) r cJ2))
variable (ct0 : W.cell? ⟨T15, 0, none⟩ = some (.int .u64 t.x0)) (ct1 : W.cell? ⟨T15, 1, none⟩ = some (.int .u64 t.x1)) (ct2 : W.cell? ⟨T15, 2, none⟩ = some (.int .u64 t.x2)) (ct3 : W.cell? ⟨T15, 3, none⟩ = some (.int .u64 t.x3))
variable (cc0 : W.cell? ⟨T14, 0, none⟩ = some (.int .u64 c.x0)) (cc1 : W.cell? ⟨T14, 1, none⟩ = some (.int .u64 c.x1)) (cc2 : W.cell? ⟨T14, 2, none⟩ = some (.int .u64 c.x2)) (cc3 : W.cell? ⟨T14, 3, none⟩ = some (.int .u64 c.x3))
variable (C1 : Hid (∀ y, Below W.heap.size W y → Calls Tryz.prog 11 #[.agg #[.slice (some ⟨RR, 0, none⟩) r cRR, .slice (some ⟨J1, 0, none⟩) r cJ1]] y fun e w' => ∃ (R I cR cI : Nat) (g cn : Nat → Nat), e = .returned (.agg #[.slice (some ⟨R, 0, none⟩) r cR, .slice (some ⟨I, 0, none⟩) r cI]) ∧ Cl w' R I r n g cn gs im1 ∧ Below y.heap.size y w'))
variable (C3 : Hid (∀ y, Below W.heap.size W y → Calls Tryz.prog 11 #[.agg #[.slice (some ⟨RR, 0, none⟩) r cRR, .slice (some ⟨J2, 0, none⟩) r cJ2]] y fun e w' => ∃ (R I cR cI : Nat) (g cn : Nat → Nat), e = .returned (.agg #[.slice (some ⟨R, 0, none⟩) r cR, .slice (some ⟨I, 0, none⟩) r cI]) ∧ Cl w' R I r n g cn gs im2 ∧ Below y.heap.size y w'))
variable (CG : Hid (∀ y (b : Nat), Below W.heap.size W y → y.rangeAt b 0 [.int .u64 t.x0, .int .u64 t.x1, .int .u64 t.x2, .int .u64 t.x3] → Calls Tryz.prog 12 #[.slice (some ⟨b, 0, none⟩) 1 1] y fun e w' => ∃ s : Nat, e = .returned (.pointer (some ⟨s, 0, none⟩)) ∧ Fz w' s t ∧ y.heap.size ≤ s ∧ Below y.heap.size y w'))
variable (CP : Hid (∀ y (s R1 I1 cR1 cI1 R2 I2 cR2 cI2 : Nat) (g1 cn1 g2 cn2 : Nat → Nat), Below W.heap.size W y → W.heap.size ≤ s → Cb s y R1 I1 r n g1 cn1 gs im1 → Cb s y R2 I2 r n g2 cn2 gs im2 → Fz y s t → Calls Tryz.prog 10 #[.agg #[.slice (some ⟨R1, 0, none⟩) r cR1, .slice (some ⟨I1, 0, none⟩) r cI1], .agg #[.slice (some ⟨R2, 0, none⟩) r cR2, .slice (some ⟨I2, 0, none⟩) r cI2], .int .i64 1, .slice (some ⟨A3, 0, none⟩) n c3, .slice (some ⟨A4, 0, none⟩) n c4, .agg #[.int .u64 c.x0, .int .u64 c.x1, .int .u64 c.x2, .int .u64 c.x3], .slice (some ⟨A6, 0, none⟩) n c6, .iface 45 (.pointer (some ⟨s, 0, none⟩))] y fun e w' => ∃ N6 N10 : Nat, e = .returned (.tuple #[.agg #[.int .u64 u.x0, .int .u64 u.x1, .int .u64 u.x2, .int .u64 u.x3, .int .u64 v.x0, .int .u64 v.x1, .int .u64 v.x2, .int .u64 v.x3, .slice (some ⟨N6, 0, none⟩) n n, .slice (some ⟨N10, 0, none⟩) n n], .int .i64 0]) ∧ Rl w' N6 0 n fa ∧ Rl w' N10 0 n fb ∧ y.heap.size ≤ N6 ∧ y.heap.size ≤ N10 ∧ Tr.Bt (fun k => k = s) y w'))
variable (HQ : Hid (∀ (R1 : Nat) (I1 : Nat) (cR1 : Nat) (cI1 : Nat) (g1 : Nat → Nat) (cn1 : Nat → Nat) (R2 : Nat) (I2 : Nat) (cR2 : Nat) (cI2 : Nat) (g2 : Nat → Nat) (cn2 : Nat → Nat) (tb : Nat) (s : Nat) (N6 : Nat) (N10 : Nat) (AB : Nat) (wz : World), Below W.heap.size W wz → wz.rangeAt AB 0 [.int .u64 u.x0, .int .u64 u.x1, .int .u64 u.x2, .int .u64 u.x3, .int .u64 v.x0, .int .u64 v.x1, .int .u64 v.x2, .int .u64 v.x3, .slice (some ⟨N6, 0, none⟩) n n, .slice (some ⟨N10, 0, none⟩) n n] → Rl wz N6 0 n fa → Rl wz N10 0 n fb → W.heap.size ≤ AB → W.heap.size ≤ N6 → W.heap.size ≤ N10 → Q .normal ⟨#[Xa, Xb, Xc, Xd, Xe, Xf, Xg, Xh, Xi, Xj, Xk, Xl, Xm, Xn, .pointer (some ⟨T14, 0, none⟩), .pointer (some ⟨T15, 0, none⟩), Xq, Xr, .slice (some ⟨A3, 0, none⟩) n c3, Xt, .slice (some ⟨A4, 0, none⟩) n c4, .slice (some ⟨A6, 0, none⟩) n c6, .pointer (some ⟨T22, 0, none⟩), .pointer (some ⟨T23, 0, none⟩), .pointer (some ⟨AB, 0, none⟩), .int .i64 0, Ya, Yb, Yc, Yd, Ye, Yf, Yg, Yh, Yi, Yj, Yk, Yl, Ym, Yn, Yo, Yp, Yq, Yr, Ys, Yt, Yu, Yv, Yw, Yx, Yy, Yz, Za, Zb, Zc, Zd, Ze, Zf, Zg, Zh, Zi, .tuple #[.agg #[.int .u64 u.x0, .int .u64 u.x1, .int .u64 u.x2, .int .u64 u.x3, .int .u64 v.x0, .int .u64 v.x1, .int .u64 v.x2, .int .u64 v.x3, .slice (some ⟨N6, 0, none⟩) n n, .slice (some ⟨N10, 0, none⟩) n n], .int .i64 0], .agg #[.slice (some ⟨RR, 0, none⟩) r cRR, .slice (some ⟨J1, 0, none⟩) r cJ1], .agg #[.slice (some ⟨R1, 0, none⟩) r cR1, .slice (some ⟨I1, 0, none⟩) r cI1], .agg #[.slice (some ⟨RR, 0, none⟩) r cRR, .slice (some ⟨J2, 0, none⟩) r cJ2], .agg #[.slice (some ⟨R2, 0, none⟩) r cR2, .slice (some ⟨I2, 0, none⟩) r cI2], .slice (some ⟨A3, 0, none⟩) n c3, .slice (some ⟨A4, 0, none⟩) n c4, .agg #[.int .u64 c.x0, .int .u64 c.x1, .int .u64 c.x2, .int .u64 c.x3], .slice (some ⟨A6, 0, none⟩) n c6, .agg #[.int .u64 t.x0, .int .u64 t.x1, .int .u64 t.x2, .int .u64 t.x3], .slice (some ⟨tb, 0, none⟩) 1 1, .pointer (some ⟨s, 0, none⟩), .iface 45 (.pointer (some ⟨s, 0, none⟩)), .tuple #[.agg #[.int .u64 u.x0, .int .u64 u.x1, .int .u64 u.x2, .int .u64 u.x3, .int .u64 v.x0, .int .u64 v.x1, .int .u64 v.x2, .int .u64 v.x3, .slice (some ⟨N6, 0, none⟩) n n, .slice (some ⟨N10, 0, none⟩) n n], .int .i64 0], .agg #[.int .u64 u.x0, .int .u64 u.x1, .int .u64 u.x2, .int .u64 u.x3, .int .u64 v.x0, .int .u64 v.x1, .int .u64 v.x2, .int .u64 v.x3, .slice (some ⟨N6, 0, none⟩) n n, .slice (some ⟨N10, 0, none⟩) n n], .int .i64 0, Zz, Ua, Ub, Uc, Ud, Ue, Uf, Ug, Uh, Ui, Uj, Uk, Ul, Um, Un, Uo, Up, Uq, Ur, Us, Ut, Uu, Uv, Uw, Ux, Uy, Uz, Da, Db, Dc, Dd, De, Df, Dg, Dh, Di, Dj, Dk, Dl, Dm, Dn, Do, Dp, Dq, Dr, Ds, Dt, Du, Dv, Dw, Dx, Dy, Dz, Ja, Jb, Jc, Jd, Je, Jf, Jg, Jh, Ji, Jj, Jk, Jl, Jm, Jn, Jo, Jp, Jq, Jr, Js, Jt, Ju, Jv, Jw, Jx, Jy, Jz, Ia, Ib, Ic, Id, Ie, If, Ig, Ih, Ii, Ij, Ik, Il, Im, In, Io, Ip, Iq, Ir, Is, It, Iu, Iv, Iw, Ix, Iy, Iz, Ga, Gb, Gc, Gd, Ge, Gf, Gg, Gh, Gi, Gj, Gk, Gl, Gm, Gn, Go, Gp, Gq, Gr, Gs, Gt, Gu, Gv, Gw, Gx, Gy, Gz, Ba, Bb, Bc, Bd, Be, Bf, Bg, Bh, Bi], []⟩ wz))
variable {R1 I1 cR1 cI1 R2 I2 cR2 cI2 tb s N6 N10 AB : Nat}
variable {g1 cn1 g2 cn2 : Nat → Nat}
def lw12_s7 (w : World) (hH0 : Below W.heap.size W w) (GES : Hid (W.heap.size ≤ s)) (RA : Hid (Rl w N6 0 n fa)) (RB : Hid (Rl w N10 0 n fb)) (GE6 : Hid (W.heap.size ≤ N6)) (GE10 : Hid (W.heap.size ≤ N10)) (TH : Hid (w.there AB 0 10)) (R0 : Hid (w.rangeAt AB 0 [.int .u64 u.x0, .int .u64 u.x1, .int .u64 u.x2, .int .u64 u.x3, .int .u64 v.x0, .int .u64 v.x1, .int .u64 v.x2, .int .u64 v.x3, .slice (some ⟨N6, 0, none⟩) n n, .slice (some ⟨N10, 0, none⟩) n n])) (GEB : Hid (W.heap.size ≤ AB)) (NE6 : Hid (N6 ≠ AB)) (NE10 : Hid (N10 ≠ AB)) : wpAnyH Tryz.prog .any lw12o (NoPanic Q) (fun x => Below W.heap.size W x) 0 #[true, true, true, true, true, true, true, true, true, true, true, true, true, true, true, true, true, true, true] ⟨#[Xa, Xb, Xc, Xd, Xe, Xf, Xg, Xh, Xi, Xj, Xk, Xl, Xm, Xn, .pointer (some ⟨T14, 0, none⟩), .pointer (some ⟨T15, 0, none⟩), Xq, Xr, .slice (some ⟨A3, 0, none⟩) n c3, Xt, .slice (some ⟨A4, 0, none⟩) n c4, .slice (some ⟨A6, 0, none⟩) n c6, .pointer (some ⟨T22, 0, none⟩), .pointer (some ⟨T23, 0, none⟩), .pointer (some ⟨AB, 0, none⟩), .int .i64 0, Ya, Yb, Yc, Yd, Ye, Yf, Yg, Yh, Yi, Yj, Yk, Yl, Ym, Yn, Yo, Yp, Yq, Yr, Ys, Yt, Yu, Yv, Yw, Yx, Yy, Yz, Za, Zb, Zc, Zd, Ze, Zf, Zg, Zh, Zi, .tuple #[.agg #[.int .u64 u.x0, .int .u64 u.x1, .int .u64 u.x2, .int .u64 u.x3, .int .u64 v.x0, .int .u64 v.x1, .int .u64 v.x2, .int .u64 v.x3, .slice (some ⟨N6, 0, none⟩) n n, .slice (some ⟨N10, 0, none⟩) n n], .int .i64 0], .agg #[.slice (some ⟨RR, 0, none⟩) r cRR, .slice (some ⟨J1, 0, none⟩) r cJ1], .agg #[.slice (some ⟨R1, 0, none⟩) r cR1, .slice (some ⟨I1, 0, none⟩) r cI1], .agg #[.slice (some ⟨RR, 0, none⟩) r cRR, .slice (some ⟨J2, 0, none⟩) r cJ2], .agg #[.slice (some ⟨R2, 0, none⟩) r cR2, .slice (some ⟨I2, 0, none⟩) r cI2], .slice (some ⟨A3, 0, none⟩) n c3, .slice (some ⟨A4, 0, none⟩) n c4, c.v, .slice (some ⟨A6, 0, none⟩) n c6, t.v, .slice (some ⟨tb, 0, none⟩) 1 1, .pointer (some ⟨s, 0, none⟩), .iface 45 (.pointer (some ⟨s, 0, none⟩)), .tuple #[.agg #[.int .u64 u.x0, .int .u64 u.x1, .int .u64 u.x2, .int .u64 u.x3, .int .u64 v.x0, .int .u64 v.x1, .int .u64 v.x2, .int .u64 v.x3, .slice (some ⟨N6, 0, none⟩) n n, .slice (some ⟨N10, 0, none⟩) n n], .int .i64 0], .agg #[.int .u64 u.x0, .int .u64 u.x1, .int .u64 u.x2, .int .u64 u.x3, .int .u64 v.x0, .int .u64 v.x1, .int .u64 v.x2, .int .u64 v.x3, .slice (some ⟨N6, 0, none⟩) n n, .slice (some ⟨N10, 0, none⟩) n n], .int .i64 0, Zz, Ua, Ub, Uc, Ud, Ue, Uf, Ug, Uh, Ui, Uj, Uk, Ul, Um, Un, Uo, Up, Uq, Ur, Us, Ut, Uu, Uv, Uw, Ux, Uy, Uz, Da, Db, Dc, Dd, De, Df, Dg, Dh, Di, Dj, Dk, Dl, Dm, Dn, Do, Dp, Dq, Dr, Ds, Dt, Du, Dv, Dw, Dx, Dy, Dz, Ja, Jb, Jc, Jd, Je, Jf, Jg, Jh, Ji, Jj, Jk, Jl, Jm, Jn, Jo, Jp, Jq, Jr, Js, Jt, Ju, Jv, Jw, Jx, Jy, Jz, Ia, Ib, Ic, Id, Ie, If, Ig, Ih, Ii, Ij, Ik, Il, Im, In, Io, Ip, Iq, Ir, Is, It, Iu, Iv, Iw, Ix, Iy, Iz, Ga, Gb, Gc, Gd, Ge, Gf, Gg, Gh, Gi, Gj, Gk, Gl, Gm, Gn, Go, Gp, Gq, Gr, Gs, Gt, Gu, Gv, Gw, Gx, Gy, Gz, Ba, Bb, Bc, Bd, Be, Bf, Bg, Bh, Bi], []⟩ w := by
 have zz := And.intro hr1 (And.intro hn1 (And.intro ca0 (And.intro ca1 (And.intro cb0 (And.intro cb1 (And.intro ct0 (And.intro ct1 (And.intro ct2 (And.intro ct3 (And.intro cc0 (And.intro cc1 (And.intro cc2 (And.intro cc3 (And.intro C1 (And.intro C3 (And.intro CG (And.intro CP (HQ))))))))))))))))))
 clear zz
 unfold E4.v
 have HH := hidden hH0
 have FQ := hidden (HQ.out R1 I1 cR1 cI1 g1 cn1 R2 I2 cR2 cI2 g2 cn2 tb s N6 N10 AB _ HH.out R0.out RA.out RB.out GEB.out GE6.out GE10.out)
 refine wpAnyH_done (by kernel_rfl) ?_ _
 refine NoPanic.normal ?_
 exact FQ.out
def lw12_s6 (w : World) (hH0 : Below W.heap.size W w) (GES : Hid (W.heap.size ≤ s)) (RA : Hid (Rl w N6 0 n fa)) (RB : Hid (Rl w N10 0 n fb)) (GE6 : Hid (W.heap.size ≤ N6)) (GE10 : Hid (W.heap.size ≤ N10)) (TH : Hid (w.there AB 0 10)) (R0 : Hid (w.rangeAt AB 0 [.int .u64 0, .int .u64 0, .int .u64 0, .int .u64 0, .int .u64 0, .int .u64 0, .int .u64 0, .int .u64 0, .slice none 0 0, .slice none 0 0])) (GEB : Hid (W.heap.size ≤ AB)) (NE6 : Hid (N6 ≠ AB)) (NE10 : Hid (N10 ≠ AB)) : wpAnyH Tryz.prog .any lw12o (NoPanic Q) (fun x => Below W.heap.size W x) 2 #[true, true, true, true, true, true, true, true, true, true, true, true, true, true, true, true, true, false, false] ⟨#[Xa, Xb, Xc, Xd, Xe, Xf, Xg, Xh, Xi, Xj, Xk, Xl, Xm, Xn, .pointer (some ⟨T14, 0, none⟩), .pointer (some ⟨T15, 0, none⟩), Xq, Xr, .slice (some ⟨A3, 0, none⟩) n c3, Xt, .slice (some ⟨A4, 0, none⟩) n c4, .slice (some ⟨A6, 0, none⟩) n c6, .pointer (some ⟨T22, 0, none⟩), .pointer (some ⟨T23, 0, none⟩), .pointer (some ⟨AB, 0, none⟩), Xz, Ya, Yb, Yc, Yd, Ye, Yf, Yg, Yh, Yi, Yj, Yk, Yl, Ym, Yn, Yo, Yp, Yq, Yr, Ys, Yt, Yu, Yv, Yw, Yx, Yy, Yz, Za, Zb, Zc, Zd, Ze, Zf, Zg, Zh, Zi, .tuple #[.agg #[.int .u64 u.x0, .int .u64 u.x1, .int .u64 u.x2, .int .u64 u.x3, .int .u64 v.x0, .int .u64 v.x1, .int .u64 v.x2, .int .u64 v.x3, .slice (some ⟨N6, 0, none⟩) n n, .slice (some ⟨N10, 0, none⟩) n n], .int .i64 0], .agg #[.slice (some ⟨RR, 0, none⟩) r cRR, .slice (some ⟨J1, 0, none⟩) r cJ1], .agg #[.slice (some ⟨R1, 0, none⟩) r cR1, .slice (some ⟨I1, 0, none⟩) r cI1], .agg #[.slice (some ⟨RR, 0, none⟩) r cRR, .slice (some ⟨J2, 0, none⟩) r cJ2], .agg #[.slice (some ⟨R2, 0, none⟩) r cR2, .slice (some ⟨I2, 0, none⟩) r cI2], .slice (some ⟨A3, 0, none⟩) n c3, .slice (some ⟨A4, 0, none⟩) n c4, c.v, .slice (some ⟨A6, 0, none⟩) n c6, t.v, .slice (some ⟨tb, 0, none⟩) 1 1, .pointer (some ⟨s, 0, none⟩), .iface 45 (.pointer (some ⟨s, 0, none⟩)), .tuple #[.agg #[.int .u64 u.x0, .int .u64 u.x1, .int .u64 u.x2, .int .u64 u.x3, .int .u64 v.x0, .int .u64 v.x1, .int .u64 v.x2, .int .u64 v.x3, .slice (some ⟨N6, 0, none⟩) n n, .slice (some ⟨N10, 0, none⟩) n n], .int .i64 0], .agg #[.int .u64 u.x0, .int .u64 u.x1, .int .u64 u.x2, .int .u64 u.x3, .int .u64 v.x0, .int .u64 v.x1, .int .u64 v.x2, .int .u64 v.x3, .slice (some ⟨N6, 0, none⟩) n n, .slice (some ⟨N10, 0, none⟩) n n], .int .i64 0, Zz, Ua, Ub, Uc, Ud, Ue, Uf, Ug, Uh, Ui, Uj, Uk, Ul, Um, Un, Uo, Up, Uq, Ur, Us, Ut, Uu, Uv, Uw, Ux, Uy, Uz, Da, Db, Dc, Dd, De, Df, Dg, Dh, Di, Dj, Dk, Dl, Dm, Dn, Do, Dp, Dq, Dr, Ds, Dt, Du, Dv, Dw, Dx, Dy, Dz, Ja, Jb, Jc, Jd, Je, Jf, Jg, Jh, Ji, Jj, Jk, Jl, Jm, Jn, Jo, Jp, Jq, Jr, Js, Jt, Ju, Jv, Jw, Jx, Jy, Jz, Ia, Ib, Ic, Id, Ie, If, Ig, Ih, Ii, Ij, Ik, Il, Im, In, Io, Ip, Iq, Ir, Is, It, Iu, Iv, Iw, Ix, Iy, Iz, Ga, Gb, Gc, Gd, Ge, Gf, Gg, Gh, Gi, Gj, Gk, Gl, Gm, Gn, Go, Gp, Gq, Gr, Gs, Gt, Gu, Gv, Gw, Gx, Gy, Gz, Ba, Bb, Bc, Bd, Be, Bf, Bg, Bh, Bi], []⟩ w := by
 unfold E4.v
 refine wpAnyH_ready (rs := [17]) (by kernel_rfl) (by simp) ?_
 refine AllReadyH.cons (o := lw12o_17) rfl (fun K hK => ?_) AllReadyH.nil
 unfold lw12o_17
 have HH := hidden hH0
 clear hH0
 refine wp_storeE 34 _ _ rfl AB 0 ([.int .u64 u.x0, .int .u64 u.x1, .int .u64 u.x2, .int .u64 u.x3, .int .u64 v.x0, .int .u64 v.x1, .int .u64 v.x2, .int .u64 v.x3, .slice (some ⟨N6, 0, none⟩) n n, .slice (some ⟨N10, 0, none⟩) n n]) (by rfl) (by rfl) TH.out einfo (one10 u v (some ⟨N6, 0, none⟩) (some ⟨N10, 0, none⟩) n n n n) rfl (fun wn1 hw => ?_)
 have SN := hidden (below_trans HH.out (below_grown (gb_setCells AB [.int .u64 u.x0, .int .u64 u.x1, .int .u64 u.x2, .int .u64 u.x3, .int .u64 v.x0, .int .u64 v.x1, .int .u64 v.x2, .int .u64 v.x3, .slice (some ⟨N6, 0, none⟩) n n, .slice (some ⟨N10, 0, none⟩) n n] 0 _) HH.out.size (fun k hk => (Option.some.inj hk) ▸ GEB.out)))
 replace RA := hidden (rl_gb RA.out (gb_setCells AB [.int .u64 u.x0, .int .u64 u.x1, .int .u64 u.x2, .int .u64 u.x3, .int .u64 v.x0, .int .u64 v.x1, .int .u64 v.x2, .int .u64 v.x3, .slice (some ⟨N6, 0, none⟩) n n, .slice (some ⟨N10, 0, none⟩) n n] 0 _) NE6.out)
 replace RB := hidden (rl_gb RB.out (gb_setCells AB [.int .u64 u.x0, .int .u64 u.x1, .int .u64 u.x2, .int .u64 u.x3, .int .u64 v.x0, .int .u64 v.x1, .int .u64 v.x2, .int .u64 v.x3, .slice (some ⟨N6, 0, none⟩) n n, .slice (some ⟨N10, 0, none⟩) n n] 0 _) NE10.out)
 replace R0 := hidden (World.rangeAt_setCells_same _ AB 0 [.int .u64 u.x0, .int .u64 u.x1, .int .u64 u.x2, .int .u64 u.x3, .int .u64 v.x0, .int .u64 v.x1, .int .u64 v.x2, .int .u64 v.x3, .slice (some ⟨N6, 0, none⟩) n n, .slice (some ⟨N10, 0, none⟩) n n] TH.out)
 replace TH := hidden (there_set TH.out AB 0 [.int .u64 u.x0, .int .u64 u.x1, .int .u64 u.x2, .int .u64 u.x3, .int .u64 v.x0, .int .u64 v.x1, .int .u64 v.x2, .int .u64 v.x3, .slice (some ⟨N6, 0, none⟩) n n, .slice (some ⟨N10, 0, none⟩) n n])
 rw [← hw] at SN RA RB R0 TH
 clear HH hw
 refine hK.out _ _ SN.out (fun hH1 => ?_)
 clear hK K SN
 refine tk 18 lw12o_18 (.int .i64 0) rfl (by kernel_rfl) hH1 rfl (fun w0 hSw => ?_) ?_
 ·(unfold lw12o_18; clear hSw; go_simp)
 simp only [lw12o_18, Act.put, sA, sB, sC]
 exact lw12_s7 (g1 := g1) (cn1 := cn1) (g2 := g2) (cn2 := cn2) hr1 hn1 ca0 ca1 cb0 cb1 ct0 ct1 ct2 ct3 cc0 cc1 cc2 cc3 C1 C3 CG CP HQ _ hH1 GES RA RB GE6 GE10 TH R0 GEB NE6 NE10
def lw12_s5 (w : World) (hH0 : Below W.heap.size W w) (GES : Hid (W.heap.size ≤ s)) (RA : Hid (Rl w N6 0 n fa)) (RB : Hid (Rl w N10 0 n fb)) (GE6 : Hid (W.heap.size ≤ N6)) (GE10 : Hid (W.heap.size ≤ N10)) : wpAnyH Tryz.prog .any lw12o (NoPanic Q) (fun x => Below W.heap.size W x) 3 #[true, true, true, true, true, true, true, true, true, true, true, true, true, true, true, true, false, false, false] ⟨#[Xa, Xb, Xc, Xd, Xe, Xf, Xg, Xh, Xi, Xj, Xk, Xl, Xm, Xn, .pointer (some ⟨T14, 0, none⟩), .pointer (some ⟨T15, 0, none⟩), Xq, Xr, .slice (some ⟨A3, 0, none⟩) n c3, Xt, .slice (some ⟨A4, 0, none⟩) n c4, .slice (some ⟨A6, 0, none⟩) n c6, .pointer (some ⟨T22, 0, none⟩), .pointer (some ⟨T23, 0, none⟩), Xy, Xz, Ya, Yb, Yc, Yd, Ye, Yf, Yg, Yh, Yi, Yj, Yk, Yl, Ym, Yn, Yo, Yp, Yq, Yr, Ys, Yt, Yu, Yv, Yw, Yx, Yy, Yz, Za, Zb, Zc, Zd, Ze, Zf, Zg, Zh, Zi, .tuple #[.agg #[.int .u64 u.x0, .int .u64 u.x1, .int .u64 u.x2, .int .u64 u.x3, .int .u64 v.x0, .int .u64 v.x1, .int .u64 v.x2, .int .u64 v.x3, .slice (some ⟨N6, 0, none⟩) n n, .slice (some ⟨N10, 0, none⟩) n n], .int .i64 0], .agg #[.slice (some ⟨RR, 0, none⟩) r cRR, .slice (some ⟨J1, 0, none⟩) r cJ1], .agg #[.slice (some ⟨R1, 0, none⟩) r cR1, .slice (some ⟨I1, 0, none⟩) r cI1], .agg #[.slice (some ⟨RR, 0, none⟩) r cRR, .slice (some ⟨J2, 0, none⟩) r cJ2], .agg #[.slice (some ⟨R2, 0, none⟩) r cR2, .slice (some ⟨I2, 0, none⟩) r cI2], .slice (some ⟨A3, 0, none⟩) n c3, .slice (some ⟨A4, 0, none⟩) n c4, c.v, .slice (some ⟨A6, 0, none⟩) n c6, t.v, .slice (some ⟨tb, 0, none⟩) 1 1, .pointer (some ⟨s, 0, none⟩), .iface 45 (.pointer (some ⟨s, 0, none⟩)), .tuple #[.agg #[.int .u64 u.x0, .int .u64 u.x1, .int .u64 u.x2, .int .u64 u.x3, .int .u64 v.x0, .int .u64 v.x1, .int .u64 v.x2, .int .u64 v.x3, .slice (some ⟨N6, 0, none⟩) n n, .slice (some ⟨N10, 0, none⟩) n n], .int .i64 0], .agg #[.int .u64 u.x0, .int .u64 u.x1, .int .u64 u.x2, .int .u64 u.x3, .int .u64 v.x0, .int .u64 v.x1, .int .u64 v.x2, .int .u64 v.x3, .slice (some ⟨N6, 0, none⟩) n n, .slice (some ⟨N10, 0, none⟩) n n], .int .i64 0, Zz, Ua, Ub, Uc, Ud, Ue, Uf, Ug, Uh, Ui, Uj, Uk, Ul, Um, Un, Uo, Up, Uq, Ur, Us, Ut, Uu, Uv, Uw, Ux, Uy, Uz, Da, Db, Dc, Dd, De, Df, Dg, Dh, Di, Dj, Dk, Dl, Dm, Dn, Do, Dp, Dq, Dr, Ds, Dt, Du, Dv, Dw, Dx, Dy, Dz, Ja, Jb, Jc, Jd, Je, Jf, Jg, Jh, Ji, Jj, Jk, Jl, Jm, Jn, Jo, Jp, Jq, Jr, Js, Jt, Ju, Jv, Jw, Jx, Jy, Jz, Ia, Ib, Ic, Id, Ie, If, Ig, Ih, Ii, Ij, Ik, Il, Im, In, Io, Ip, Iq, Ir, Is, It, Iu, Iv, Iw, Ix, Iy, Iz, Ga, Gb, Gc, Gd, Ge, Gf, Gg, Gh, Gi, Gj, Gk, Gl, Gm, Gn, Go, Gp, Gq, Gr, Gs, Gt, Gu, Gv, Gw, Gx, Gy, Gz, Ba, Bb, Bc, Bd, Be, Bf, Bg, Bh, Bi], []⟩ w := by
 unfold E4.v
 refine wpAnyH_ready (rs := [16]) (by kernel_rfl) (by simp) ?_
 refine AllReadyH.cons (o := lw12o_16) rfl (fun K hK => ?_) AllReadyH.nil
 unfold lw12o_16
 have HH := hidden hH0
 clear hH0
 refine wp_allocE rfl (fun AB wn1 hA hb hth hrg => ?_)
 have NE6 := hidden ((by have := rl_lt RA.out hn1; omega : N6 ≠ AB))
 have NE10 := hidden ((by have := rl_lt RB.out hn1; omega : N10 ≠ AB))
 replace RA := hidden (RA.out.keep hb)
 replace RB := hidden (RB.out.keep hb)
 have GEB := hidden ((by have := HH.out.size; omega : W.heap.size ≤ AB))
 have TH := hidden (hth)
 have R0 := hidden (hrg)
 have SN := hidden (bl_trans HH.out hb)
 clear HH hA hb hth hrg
 simp only [Act.put, sA, sB, sC]
 refine hK.out _ _ SN.out (fun hH1 => ?_)
 clear hK K SN
 exact lw12_s6 (g1 := g1) (cn1 := cn1) (g2 := g2) (cn2 := cn2) hr1 hn1 ca0 ca1 cb0 cb1 ct0 ct1 ct2 ct3 cc0 cc1 cc2 cc3 C1 C3 CG CP HQ _ hH1 GES RA RB GE6 GE10 TH R0 GEB NE6 NE10
def lw12_s8 (w : World) (hH0 : Below W.heap.size W w) (K1 : Hid (Cb s w R1 I1 r n g1 cn1 gs im1)) (K2 : Hid (Cb s w R2 I2 r n g2 cn2 gs im2)) (GES : Hid (W.heap.size ≤ s)) (FZ : Hid (Fz w s t)) (TH : Hid (w.there AB 0 10)) (R0 : Hid (w.rangeAt AB 0 [.int .u64 0, .int .u64 0, .int .u64 0, .int .u64 0, .int .u64 0, .int .u64 0, .int .u64 0, .int .u64 0, .slice none 0 0, .slice none 0 0])) (GEB : Hid (W.heap.size ≤ AB)) (NES : Hid (AB ≠ s)) : wpAnyH Tryz.prog .any lw12o (NoPanic Q) (fun x => Below W.heap.size W x) 6 #[true, true, true, true, true, true, true, true, true, true, true, true, false, false, false, false, true, false, false] ⟨#[Xa, Xb, Xc, Xd, Xe, Xf, Xg, Xh, Xi, Xj, Xk, Xl, Xm, Xn, .pointer (some ⟨T14, 0, none⟩), .pointer (some ⟨T15, 0, none⟩), Xq, Xr, .slice (some ⟨A3, 0, none⟩) n c3, Xt, .slice (some ⟨A4, 0, none⟩) n c4, .slice (some ⟨A6, 0, none⟩) n c6, .pointer (some ⟨T22, 0, none⟩), .pointer (some ⟨T23, 0, none⟩), .pointer (some ⟨AB, 0, none⟩), Xz, Ya, Yb, Yc, Yd, Ye, Yf, Yg, Yh, Yi, Yj, Yk, Yl, Ym, Yn, Yo, Yp, Yq, Yr, Ys, Yt, Yu, Yv, Yw, Yx, Yy, Yz, Za, Zb, Zc, Zd, Ze, Zf, Zg, Zh, Zi, Zj, .agg #[.slice (some ⟨RR, 0, none⟩) r cRR, .slice (some ⟨J1, 0, none⟩) r cJ1], .agg #[.slice (some ⟨R1, 0, none⟩) r cR1, .slice (some ⟨I1, 0, none⟩) r cI1], .agg #[.slice (some ⟨RR, 0, none⟩) r cRR, .slice (some ⟨J2, 0, none⟩) r cJ2], .agg #[.slice (some ⟨R2, 0, none⟩) r cR2, .slice (some ⟨I2, 0, none⟩) r cI2], .slice (some ⟨A3, 0, none⟩) n c3, .slice (some ⟨A4, 0, none⟩) n c4, c.v, .slice (some ⟨A6, 0, none⟩) n c6, t.v, .slice (some ⟨tb, 0, none⟩) 1 1, .pointer (some ⟨s, 0, none⟩), .iface 45 (.pointer (some ⟨s, 0, none⟩)), Zw, Zx, Zy, Zz, Ua, Ub, Uc, Ud, Ue, Uf, Ug, Uh, Ui, Uj, Uk, Ul, Um, Un, Uo, Up, Uq, Ur, Us, Ut, Uu, Uv, Uw, Ux, Uy, Uz, Da, Db, Dc, Dd, De, Df, Dg, Dh, Di, Dj, Dk, Dl, Dm, Dn, Do, Dp, Dq, Dr, Ds, Dt, Du, Dv, Dw, Dx, Dy, Dz, Ja, Jb, Jc, Jd, Je, Jf, Jg, Jh, Ji, Jj, Jk, Jl, Jm, Jn, Jo, Jp, Jq, Jr, Js, Jt, Ju, Jv, Jw, Jx, Jy, Jz, Ia, Ib, Ic, Id, Ie, If, Ig, Ih, Ii, Ij, Ik, Il, Im, In, Io, Ip, Iq, Ir, Is, It, Iu, Iv, Iw, Ix, Iy, Iz, Ga, Gb, Gc, Gd, Ge, Gf, Gg, Gh, Gi, Gj, Gk, Gl, Gm, Gn, Go, Gp, Gq, Gr, Gs, Gt, Gu, Gv, Gw, Gx, Gy, Gz, Ba, Bb, Bc, Bd, Be, Bf, Bg, Bh, Bi], []⟩ w := by
 unfold E4.v
 refine wpAnyH_ready (rs := [12]) (by kernel_rfl) (by simp) ?_
 refine AllReadyH.cons (o := lw12o_12) rfl (fun K hK => ?_) AllReadyH.nil
 unfold lw12o_12
 have HH := hidden hH0
 clear hH0
 go_simp
 refine (CP.out _ s R1 I1 cR1 cI1 R2 I2 cR2 cI2 g1 cn1 g2 cn2 HH.out GES.out K1.out K2.out FZ.out).mono ?_
 rintro e wn1 ⟨N6, N10, rfl, h1, h2, h3, h4, hb⟩
 have NE6 := hidden ((by have := there_lt TH.out; omega : N6 ≠ AB))
 have NE10 := hidden ((by have := there_lt TH.out; omega : N10 ≠ AB))
 replace TH := hidden (there_bt TH.out hb (fun e => NES.out e))
 replace R0 := hidden (fun j u hu => bt_cell (R0.out j u hu) hb (fun e => NES.out e))
 have RA := hidden (h1)
 have RB := hidden (h2)
 have GE6 := hidden ((by have := HH.out.size; omega : W.heap.size ≤ N6))
 have GE10 := hidden ((by have := HH.out.size; omega : W.heap.size ≤ N10))
 have SN := hidden (below_trans HH.out (hb.below HH.out.size (fun k e => by subst e; exact GES.out)))
 clear HH hb h1 h2 h3 h4 K1 K2 FZ
 go_wp2_with fail
 refine hK.out _ _ SN.out (fun hH1 => ?_)
 clear hK K SN
 refine tk 13 lw12o_13 (.tuple #[.agg #[.int .u64 u.x0, .int .u64 u.x1, .int .u64 u.x2, .int .u64 u.x3, .int .u64 v.x0, .int .u64 v.x1, .int .u64 v.x2, .int .u64 v.x3, .slice (some ⟨N6, 0, none⟩) n n, .slice (some ⟨N10, 0, none⟩) n n], .int .i64 0]) rfl (by kernel_rfl) hH1 rfl (fun w0 hSw => ?_) ?_
 ·(unfold lw12o_13; clear hSw; go_simp)
 simp only [lw12o_13, Act.put, sA, sB, sC]
 refine tk 14 lw12o_14 (.agg #[.int .u64 u.x0, .int .u64 u.x1, .int .u64 u.x2, .int .u64 u.x3, .int .u64 v.x0, .int .u64 v.x1, .int .u64 v.x2, .int .u64 v.x3, .slice (some ⟨N6, 0, none⟩) n n, .slice (some ⟨N10, 0, none⟩) n n]) rfl (by kernel_rfl) hH1 rfl (fun w0 hSw => ?_) ?_
 ·(unfold lw12o_14; clear hSw; go_simp)
 simp only [lw12o_14, Act.put, sA, sB, sC]
 refine tk 15 lw12o_15 (.int .i64 0) rfl (by kernel_rfl) hH1 rfl (fun w0 hSw => ?_) ?_
 ·(unfold lw12o_15; clear hSw; go_simp)
 simp only [lw12o_15, Act.put, sA, sB, sC]
 exact lw12_s6 (g1 := g1) (cn1 := cn1) (g2 := g2) (cn2 := cn2) hr1 hn1 ca0 ca1 cb0 cb1 ct0 ct1 ct2 ct3 cc0 cc1 cc2 cc3 C1 C3 CG CP HQ _ hH1 GES RA RB GE6 GE10 TH R0 GEB NE6 NE10
def lw12_s4 (w : World) (hH0 : Below W.heap.size W w) (K1 : Hid (Cb s w R1 I1 r n g1 cn1 gs im1)) (K2 : Hid (Cb s w R2 I2 r n g2 cn2 gs im2)) (GES : Hid (W.heap.size ≤ s)) (FZ : Hid (Fz w s t)) : wpAnyH Tryz.prog .any lw12o (NoPanic Q) (fun x => Below W.heap.size W x) 7 #[true, true, true, true, true, true, true, true, true, true, true, true, false, false, false, false, false, false, false] ⟨#[Xa, Xb, Xc, Xd, Xe, Xf, Xg, Xh, Xi, Xj, Xk, Xl, Xm, Xn, .pointer (some ⟨T14, 0, none⟩), .pointer (some ⟨T15, 0, none⟩), Xq, Xr, .slice (some ⟨A3, 0, none⟩) n c3, Xt, .slice (some ⟨A4, 0, none⟩) n c4, .slice (some ⟨A6, 0, none⟩) n c6, .pointer (some ⟨T22, 0, none⟩), .pointer (some ⟨T23, 0, none⟩), Xy, Xz, Ya, Yb, Yc, Yd, Ye, Yf, Yg, Yh, Yi, Yj, Yk, Yl, Ym, Yn, Yo, Yp, Yq, Yr, Ys, Yt, Yu, Yv, Yw, Yx, Yy, Yz, Za, Zb, Zc, Zd, Ze, Zf, Zg, Zh, Zi, Zj, .agg #[.slice (some ⟨RR, 0, none⟩) r cRR, .slice (some ⟨J1, 0, none⟩) r cJ1], .agg #[.slice (some ⟨R1, 0, none⟩) r cR1, .slice (some ⟨I1, 0, none⟩) r cI1], .agg #[.slice (some ⟨RR, 0, none⟩) r cRR, .slice (some ⟨J2, 0, none⟩) r cJ2], .agg #[.slice (some ⟨R2, 0, none⟩) r cR2, .slice (some ⟨I2, 0, none⟩) r cI2], .slice (some ⟨A3, 0, none⟩) n c3, .slice (some ⟨A4, 0, none⟩) n c4, c.v, .slice (some ⟨A6, 0, none⟩) n c6, t.v, .slice (some ⟨tb, 0, none⟩) 1 1, .pointer (some ⟨s, 0, none⟩), .iface 45 (.pointer (some ⟨s, 0, none⟩)), Zw, Zx, Zy, Zz, Ua, Ub, Uc, Ud, Ue, Uf, Ug, Uh, Ui, Uj, Uk, Ul, Um, Un, Uo, Up, Uq, Ur, Us, Ut, Uu, Uv, Uw, Ux, Uy, Uz, Da, Db, Dc, Dd, De, Df, Dg, Dh, Di, Dj, Dk, Dl, Dm, Dn, Do, Dp, Dq, Dr, Ds, Dt, Du, Dv, Dw, Dx, Dy, Dz, Ja, Jb, Jc, Jd, Je, Jf, Jg, Jh, Ji, Jj, Jk, Jl, Jm, Jn, Jo, Jp, Jq, Jr, Js, Jt, Ju, Jv, Jw, Jx, Jy, Jz, Ia, Ib, Ic, Id, Ie, If, Ig, Ih, Ii, Ij, Ik, Il, Im, In, Io, Ip, Iq, Ir, Is, It, Iu, Iv, Iw, Ix, Iy, Iz, Ga, Gb, Gc, Gd, Ge, Gf, Gg, Gh, Gi, Gj, Gk, Gl, Gm, Gn, Go, Gp, Gq, Gr, Gs, Gt, Gu, Gv, Gw, Gx, Gy, Gz, Ba, Bb, Bc, Bd, Be, Bf, Bg, Bh, Bi], []⟩ w := by
 unfold E4.v
 refine wpAnyH_ready (rs := [12, 16]) (by kernel_rfl) (by simp) ?_
 refine AllReadyH.cons (o := lw12o_12) rfl (fun K hK => ?_) (AllReadyH.cons (o := lw12o_16) rfl (fun K hK => ?_) AllReadyH.nil)
 ·unfold lw12o_12
  have HH := hidden hH0
  clear hH0
  go_simp
  refine (CP.out _ s R1 I1 cR1 cI1 R2 I2 cR2 cI2 g1 cn1 g2 cn2 HH.out GES.out K1.out K2.out FZ.out).mono ?_
  rintro e wn1 ⟨N6, N10, rfl, h1, h2, h3, h4, hb⟩
  have RA := hidden (h1)
  have RB := hidden (h2)
  have GE6 := hidden ((by have := HH.out.size; omega : W.heap.size ≤ N6))
  have GE10 := hidden ((by have := HH.out.size; omega : W.heap.size ≤ N10))
  have SN := hidden (below_trans HH.out (hb.below HH.out.size (fun k e => by subst e; exact GES.out)))
  clear HH hb h1 h2 h3 h4 K1 K2 FZ
  go_wp2_with fail
  refine hK.out _ _ SN.out (fun hH1 => ?_)
  clear hK K SN
  refine tk 13 lw12o_13 (.tuple #[.agg #[.int .u64 u.x0, .int .u64 u.x1, .int .u64 u.x2, .int .u64 u.x3, .int .u64 v.x0, .int .u64 v.x1, .int .u64 v.x2, .int .u64 v.x3, .slice (some ⟨N6, 0, none⟩) n n, .slice (some ⟨N10, 0, none⟩) n n], .int .i64 0]) rfl (by kernel_rfl) hH1 rfl (fun w0 hSw => ?_) ?_
  ·(unfold lw12o_13; clear hSw; go_simp)
  simp only [lw12o_13, Act.put, sA, sB, sC]
  refine tk 14 lw12o_14 (.agg #[.int .u64 u.x0, .int .u64 u.x1, .int .u64 u.x2, .int .u64 u.x3, .int .u64 v.x0, .int .u64 v.x1, .int .u64 v.x2, .int .u64 v.x3, .slice (some ⟨N6, 0, none⟩) n n, .slice (some ⟨N10, 0, none⟩) n n]) rfl (by kernel_rfl) hH1 rfl (fun w0 hSw => ?_) ?_
  ·(unfold lw12o_14; clear hSw; go_simp)
  simp only [lw12o_14, Act.put, sA, sB, sC]
  refine tk 15 lw12o_15 (.int .i64 0) rfl (by kernel_rfl) hH1 rfl (fun w0 hSw => ?_) ?_
  ·(unfold lw12o_15; clear hSw; go_simp)
  simp only [lw12o_15, Act.put, sA, sB, sC]
  exact lw12_s5 (g1 := g1) (cn1 := cn1) (g2 := g2) (cn2 := cn2) hr1 hn1 ca0 ca1 cb0 cb1 ct0 ct1 ct2 ct3 cc0 cc1 cc2 cc3 C1 C3 CG CP HQ _ hH1 GES RA RB GE6 GE10
 ·unfold lw12o_16
  have HH := hidden hH0
  clear hH0
  refine wp_allocE rfl (fun AB wn1 hA hb hth hrg => ?_)
  have NES := hidden ((by have := FZ.out.lt; omega : AB ≠ s))
  replace K1 := hidden (K1.out.keep hb)
  replace K2 := hidden (K2.out.keep hb)
  replace FZ := hidden (FZ.out.keep hb)
  have GEB := hidden ((by have := HH.out.size; omega : W.heap.size ≤ AB))
  have TH := hidden (hth)
  have R0 := hidden (hrg)
  have SN := hidden (bl_trans HH.out hb)
  clear HH hA hb hth hrg
  simp only [Act.put, sA, sB, sC]
  refine hK.out _ _ SN.out (fun hH1 => ?_)
  clear hK K SN
  exact lw12_s8 hr1 hn1 ca0 ca1 cb0 cb1 ct0 ct1 ct2 ct3 cc0 cc1 cc2 cc3 C1 C3 CG CP HQ _ hH1 K1 K2 GES FZ TH R0 GEB NES
def lw12_s9 (w : World) (hH0 : Below W.heap.size W w) (K1 : Hid (Cl w R1 I1 r n g1 cn1 gs im1)) (K2 : Hid (Cl w R2 I2 r n g2 cn2 gs im2)) (RT : Hid (w.rangeAt tb 0 [.int .u64 t.x0, .int .u64 t.x1, .int .u64 t.x2, .int .u64 t.x3])) (TH : Hid (w.there AB 0 10)) (R0 : Hid (w.rangeAt AB 0 [.int .u64 0, .int .u64 0, .int .u64 0, .int .u64 0, .int .u64 0, .int .u64 0, .int .u64 0, .int .u64 0, .slice none 0 0, .slice none 0 0])) (GEB : Hid (W.heap.size ≤ AB)) : wpAnyH Tryz.prog .any lw12o (NoPanic Q) (fun x => Below W.heap.size W x) 8 #[true, true, true, true, true, true, true, true, true, true, false, false, false, false, false, false, true, false, false] ⟨#[Xa, Xb, Xc, Xd, Xe, Xf, Xg, Xh, Xi, Xj, Xk, Xl, Xm, Xn, .pointer (some ⟨T14, 0, none⟩), .pointer (some ⟨T15, 0, none⟩), Xq, Xr, .slice (some ⟨A3, 0, none⟩) n c3, Xt, .slice (some ⟨A4, 0, none⟩) n c4, .slice (some ⟨A6, 0, none⟩) n c6, .pointer (some ⟨T22, 0, none⟩), .pointer (some ⟨T23, 0, none⟩), .pointer (some ⟨AB, 0, none⟩), Xz, Ya, Yb, Yc, Yd, Ye, Yf, Yg, Yh, Yi, Yj, Yk, Yl, Ym, Yn, Yo, Yp, Yq, Yr, Ys, Yt, Yu, Yv, Yw, Yx, Yy, Yz, Za, Zb, Zc, Zd, Ze, Zf, Zg, Zh, Zi, Zj, .agg #[.slice (some ⟨RR, 0, none⟩) r cRR, .slice (some ⟨J1, 0, none⟩) r cJ1], .agg #[.slice (some ⟨R1, 0, none⟩) r cR1, .slice (some ⟨I1, 0, none⟩) r cI1], .agg #[.slice (some ⟨RR, 0, none⟩) r cRR, .slice (some ⟨J2, 0, none⟩) r cJ2], .agg #[.slice (some ⟨R2, 0, none⟩) r cR2, .slice (some ⟨I2, 0, none⟩) r cI2], .slice (some ⟨A3, 0, none⟩) n c3, .slice (some ⟨A4, 0, none⟩) n c4, c.v, .slice (some ⟨A6, 0, none⟩) n c6, t.v, .slice (some ⟨tb, 0, none⟩) 1 1, Zu, Zv, Zw, Zx, Zy, Zz, Ua, Ub, Uc, Ud, Ue, Uf, Ug, Uh, Ui, Uj, Uk, Ul, Um, Un, Uo, Up, Uq, Ur, Us, Ut, Uu, Uv, Uw, Ux, Uy, Uz, Da, Db, Dc, Dd, De, Df, Dg, Dh, Di, Dj, Dk, Dl, Dm, Dn, Do, Dp, Dq, Dr, Ds, Dt, Du, Dv, Dw, Dx, Dy, Dz, Ja, Jb, Jc, Jd, Je, Jf, Jg, Jh, Ji, Jj, Jk, Jl, Jm, Jn, Jo, Jp, Jq, Jr, Js, Jt, Ju, Jv, Jw, Jx, Jy, Jz, Ia, Ib, Ic, Id, Ie, If, Ig, Ih, Ii, Ij, Ik, Il, Im, In, Io, Ip, Iq, Ir, Is, It, Iu, Iv, Iw, Ix, Iy, Iz, Ga, Gb, Gc, Gd, Ge, Gf, Gg, Gh, Gi, Gj, Gk, Gl, Gm, Gn, Go, Gp, Gq, Gr, Gs, Gt, Gu, Gv, Gw, Gx, Gy, Gz, Ba, Bb, Bc, Bd, Be, Bf, Bg, Bh, Bi], []⟩ w := by
 unfold E4.v
 refine wpAnyH_ready (rs := [10]) (by kernel_rfl) (by simp) ?_
 refine AllReadyH.cons (o := lw12o_10) rfl (fun K hK => ?_) AllReadyH.nil
 unfold lw12o_10
 have HH := hidden hH0
 clear hH0
 go_simp
 refine (CG.out _ tb HH.out RT.out).mono ?_
 rintro e wn1 ⟨s, rfl, hF, hs, hb⟩
 have NES := hidden ((by have := there_lt TH.out; omega : AB ≠ s))
 replace TH := hidden (Li.there_bl TH.out hb)
 replace R0 := hidden (range_bl R0.out hb)
 replace K1 := hidden (cb_of (K1.out) hs (K1.out.keep hb) hr1 hn1)
 replace K2 := hidden (cb_of (K2.out) hs (K2.out.keep hb) hr1 hn1)
 have FZ := hidden (hF)
 have GES := hidden ((by have := HH.out.size; omega : W.heap.size ≤ s))
 have SN := hidden (bl_trans HH.out hb)
 clear HH hb hF hs RT
 go_wp2_with fail
 refine hK.out _ _ SN.out (fun hH1 => ?_)
 clear hK K SN
 refine tk 11 lw12o_11 (.iface 45 (.pointer (some ⟨s, 0, none⟩))) rfl (by kernel_rfl) hH1 rfl (fun w0 hSw => ?_) ?_
 ·(unfold lw12o_11; clear hSw; go_simp)
 simp only [lw12o_11, Act.put, sA, sB, sC]
 exact lw12_s8 hr1 hn1 ca0 ca1 cb0 cb1 ct0 ct1 ct2 ct3 cc0 cc1 cc2 cc3 C1 C3 CG CP HQ _ hH1 K1 K2 GES FZ TH R0 GEB NES
def lw12_s3 (w : World) (hH0 : Below W.heap.size W w) (K1 : Hid (Cl w R1 I1 r n g1 cn1 gs im1)) (K2 : Hid (Cl w R2 I2 r n g2 cn2 gs im2)) (RT : Hid (w.rangeAt tb 0 [.int .u64 t.x0, .int .u64 t.x1, .int .u64 t.x2, .int .u64 t.x3])) : wpAnyH Tryz.prog .any lw12o (NoPanic Q) (fun x => Below W.heap.size W x) 9 #[true, true, true, true, true, true, true, true, true, true, false, false, false, false, false, false, false, false, false] ⟨#[Xa, Xb, Xc, Xd, Xe, Xf, Xg, Xh, Xi, Xj, Xk, Xl, Xm, Xn, .pointer (some ⟨T14, 0, none⟩), .pointer (some ⟨T15, 0, none⟩), Xq, Xr, .slice (some ⟨A3, 0, none⟩) n c3, Xt, .slice (some ⟨A4, 0, none⟩) n c4, .slice (some ⟨A6, 0, none⟩) n c6, .pointer (some ⟨T22, 0, none⟩), .pointer (some ⟨T23, 0, none⟩), Xy, Xz, Ya, Yb, Yc, Yd, Ye, Yf, Yg, Yh, Yi, Yj, Yk, Yl, Ym, Yn, Yo, Yp, Yq, Yr, Ys, Yt, Yu, Yv, Yw, Yx, Yy, Yz, Za, Zb, Zc, Zd, Ze, Zf, Zg, Zh, Zi, Zj, .agg #[.slice (some ⟨RR, 0, none⟩) r cRR, .slice (some ⟨J1, 0, none⟩) r cJ1], .agg #[.slice (some ⟨R1, 0, none⟩) r cR1, .slice (some ⟨I1, 0, none⟩) r cI1], .agg #[.slice (some ⟨RR, 0, none⟩) r cRR, .slice (some ⟨J2, 0, none⟩) r cJ2], .agg #[.slice (some ⟨R2, 0, none⟩) r cR2, .slice (some ⟨I2, 0, none⟩) r cI2], .slice (some ⟨A3, 0, none⟩) n c3, .slice (some ⟨A4, 0, none⟩) n c4, c.v, .slice (some ⟨A6, 0, none⟩) n c6, t.v, .slice (some ⟨tb, 0, none⟩) 1 1, Zu, Zv, Zw, Zx, Zy, Zz, Ua, Ub, Uc, Ud, Ue, Uf, Ug, Uh, Ui, Uj, Uk, Ul, Um, Un, Uo, Up, Uq, Ur, Us, Ut, Uu, Uv, Uw, Ux, Uy, Uz, Da, Db, Dc, Dd, De, Df, Dg, Dh, Di, Dj, Dk, Dl, Dm, Dn, Do, Dp, Dq, Dr, Ds, Dt, Du, Dv, Dw, Dx, Dy, Dz, Ja, Jb, Jc, Jd, Je, Jf, Jg, Jh, Ji, Jj, Jk, Jl, Jm, Jn, Jo, Jp, Jq, Jr, Js, Jt, Ju, Jv, Jw, Jx, Jy, Jz, Ia, Ib, Ic, Id, Ie, If, Ig, Ih, Ii, Ij, Ik, Il, Im, In, Io, Ip, Iq, Ir, Is, It, Iu, Iv, Iw, Ix, Iy, Iz, Ga, Gb, Gc, Gd, Ge, Gf, Gg, Gh, Gi, Gj, Gk, Gl, Gm, Gn, Go, Gp, Gq, Gr, Gs, Gt, Gu, Gv, Gw, Gx, Gy, Gz, Ba, Bb, Bc, Bd, Be, Bf, Bg, Bh, Bi], []⟩ w := by
 unfold E4.v
 refine wpAnyH_ready (rs := [10, 16]) (by kernel_rfl) (by simp) ?_
 refine AllReadyH.cons (o := lw12o_10) rfl (fun K hK => ?_) (AllReadyH.cons (o := lw12o_16) rfl (fun K hK => ?_) AllReadyH.nil)
 ·unfold lw12o_10
  have HH := hidden hH0
  clear hH0
  go_simp
  refine (CG.out _ tb HH.out RT.out).mono ?_
  rintro e wn1 ⟨s, rfl, hF, hs, hb⟩
  replace K1 := hidden (cb_of (K1.out) hs (K1.out.keep hb) hr1 hn1)
  replace K2 := hidden (cb_of (K2.out) hs (K2.out.keep hb) hr1 hn1)
  have FZ := hidden (hF)
  have GES := hidden ((by have := HH.out.size; omega : W.heap.size ≤ s))
  have SN := hidden (bl_trans HH.out hb)
  clear HH hb hF hs RT
  go_wp2_with fail
  refine hK.out _ _ SN.out (fun hH1 => ?_)
  clear hK K SN
  refine tk 11 lw12o_11 (.iface 45 (.pointer (some ⟨s, 0, none⟩))) rfl (by kernel_rfl) hH1 rfl (fun w0 hSw => ?_) ?_
  ·(unfold lw12o_11; clear hSw; go_simp)
  simp only [lw12o_11, Act.put, sA, sB, sC]
  exact lw12_s4 hr1 hn1 ca0 ca1 cb0 cb1 ct0 ct1 ct2 ct3 cc0 cc1 cc2 cc3 C1 C3 CG CP HQ _ hH1 K1 K2 GES FZ
 ·unfold lw12o_16
  have HH := hidden hH0
  clear hH0
  refine wp_allocE rfl (fun AB wn1 hA hb hth hrg => ?_)
  replace K1 := hidden (K1.out.keep hb)
  replace K2 := hidden (K2.out.keep hb)
  replace RT := hidden (range_bl RT.out hb)
  have GEB := hidden ((by have := HH.out.size; omega : W.heap.size ≤ AB))
  have TH := hidden (hth)
  have R0 := hidden (hrg)
  have SN := hidden (bl_trans HH.out hb)
  clear HH hA hb hth hrg
  simp only [Act.put, sA, sB, sC]
  refine hK.out _ _ SN.out (fun hH1 => ?_)
  clear hK K SN
  exact lw12_s9 hr1 hn1 ca0 ca1 cb0 cb1 ct0 ct1 ct2 ct3 cc0 cc1 cc2 cc3 C1 C3 CG CP HQ _ hH1 K1 K2 RT TH R0 GEB
def lw12_s10 (w : World) (hH0 : Below W.heap.size W w) (K1 : Hid (Cl w R1 I1 r n g1 cn1 gs im1)) (K2 : Hid (Cl w R2 I2 r n g2 cn2 gs im2)) (TH : Hid (w.there AB 0 10)) (R0 : Hid (w.rangeAt AB 0 [.int .u64 0, .int .u64 0, .int .u64 0, .int .u64 0, .int .u64 0, .int .u64 0, .int .u64 0, .int .u64 0, .slice none 0 0, .slice none 0 0])) (GEB : Hid (W.heap.size ≤ AB)) : wpAnyH Tryz.prog .any lw12o (NoPanic Q) (fun x => Below W.heap.size W x) 9 #[true, true, true, true, true, true, true, true, true, false, false, false, false, false, false, false, true, false, false] ⟨#[Xa, Xb, Xc, Xd, Xe, Xf, Xg, Xh, Xi, Xj, Xk, Xl, Xm, Xn, .pointer (some ⟨T14, 0, none⟩), .pointer (some ⟨T15, 0, none⟩), Xq, Xr, .slice (some ⟨A3, 0, none⟩) n c3, Xt, .slice (some ⟨A4, 0, none⟩) n c4, .slice (some ⟨A6, 0, none⟩) n c6, .pointer (some ⟨T22, 0, none⟩), .pointer (some ⟨T23, 0, none⟩), .pointer (some ⟨AB, 0, none⟩), Xz, Ya, Yb, Yc, Yd, Ye, Yf, Yg, Yh, Yi, Yj, Yk, Yl, Ym, Yn, Yo, Yp, Yq, Yr, Ys, Yt, Yu, Yv, Yw, Yx, Yy, Yz, Za, Zb, Zc, Zd, Ze, Zf, Zg, Zh, Zi, Zj, .agg #[.slice (some ⟨RR, 0, none⟩) r cRR, .slice (some ⟨J1, 0, none⟩) r cJ1], .agg #[.slice (some ⟨R1, 0, none⟩) r cR1, .slice (some ⟨I1, 0, none⟩) r cI1], .agg #[.slice (some ⟨RR, 0, none⟩) r cRR, .slice (some ⟨J2, 0, none⟩) r cJ2], .agg #[.slice (some ⟨R2, 0, none⟩) r cR2, .slice (some ⟨I2, 0, none⟩) r cI2], .slice (some ⟨A3, 0, none⟩) n c3, .slice (some ⟨A4, 0, none⟩) n c4, c.v, .slice (some ⟨A6, 0, none⟩) n c6, t.v, Zt, Zu, Zv, Zw, Zx, Zy, Zz, Ua, Ub, Uc, Ud, Ue, Uf, Ug, Uh, Ui, Uj, Uk, Ul, Um, Un, Uo, Up, Uq, Ur, Us, Ut, Uu, Uv, Uw, Ux, Uy, Uz, Da, Db, Dc, Dd, De, Df, Dg, Dh, Di, Dj, Dk, Dl, Dm, Dn, Do, Dp, Dq, Dr, Ds, Dt, Du, Dv, Dw, Dx, Dy, Dz, Ja, Jb, Jc, Jd, Je, Jf, Jg, Jh, Ji, Jj, Jk, Jl, Jm, Jn, Jo, Jp, Jq, Jr, Js, Jt, Ju, Jv, Jw, Jx, Jy, Jz, Ia, Ib, Ic, Id, Ie, If, Ig, Ih, Ii, Ij, Ik, Il, Im, In, Io, Ip, Iq, Ir, Is, It, Iu, Iv, Iw, Ix, Iy, Iz, Ga, Gb, Gc, Gd, Ge, Gf, Gg, Gh, Gi, Gj, Gk, Gl, Gm, Gn, Go, Gp, Gq, Gr, Gs, Gt, Gu, Gv, Gw, Gx, Gy, Gz, Ba, Bb, Bc, Bd, Be, Bf, Bg, Bh, Bi], []⟩ w := by
 unfold E4.v
 refine wpAnyH_ready (rs := [9]) (by kernel_rfl) (by simp) ?_
 refine AllReadyH.cons (o := lw12o_9) rfl (fun K hK => ?_) AllReadyH.nil
 unfold lw12o_9
 have HH := hidden hH0
 clear hH0
 refine Li.wp_buildS1 (.tmp 70) rfl t rfl (fun tb wn1 hb hrt => ?_)
 replace K1 := hidden (K1.out.keep hb)
 replace K2 := hidden (K2.out.keep hb)
 replace TH := hidden (Li.there_bl TH.out hb)
 replace R0 := hidden (range_bl R0.out hb)
 have RT := hidden (hrt)
 have SN := hidden (bl_trans HH.out hb)
 clear HH hb hrt
 simp only [Act.put, sA, sB, sC]
 refine hK.out _ _ SN.out (fun hH1 => ?_)
 clear hK K SN
 exact lw12_s9 hr1 hn1 ca0 ca1 cb0 cb1 ct0 ct1 ct2 ct3 cc0 cc1 cc2 cc3 C1 C3 CG CP HQ _ hH1 K1 K2 RT TH R0 GEB
def lw12_s2 (w : World) (hH0 : Below W.heap.size W w) (K1 : Hid (Cl w R1 I1 r n g1 cn1 gs im1)) (K2 : Hid (Cl w R2 I2 r n g2 cn2 gs im2)) : wpAnyH Tryz.prog .any lw12o (NoPanic Q) (fun x => Below W.heap.size W x) 10 #[true, true, true, true, true, true, true, true, true, false, false, false, false, false, false, false, false, false, false] ⟨#[Xa, Xb, Xc, Xd, Xe, Xf, Xg, Xh, Xi, Xj, Xk, Xl, Xm, Xn, .pointer (some ⟨T14, 0, none⟩), .pointer (some ⟨T15, 0, none⟩), Xq, Xr, .slice (some ⟨A3, 0, none⟩) n c3, Xt, .slice (some ⟨A4, 0, none⟩) n c4, .slice (some ⟨A6, 0, none⟩) n c6, .pointer (some ⟨T22, 0, none⟩), .pointer (some ⟨T23, 0, none⟩), Xy, Xz, Ya, Yb, Yc, Yd, Ye, Yf, Yg, Yh, Yi, Yj, Yk, Yl, Ym, Yn, Yo, Yp, Yq, Yr, Ys, Yt, Yu, Yv, Yw, Yx, Yy, Yz, Za, Zb, Zc, Zd, Ze, Zf, Zg, Zh, Zi, Zj, .agg #[.slice (some ⟨RR, 0, none⟩) r cRR, .slice (some ⟨J1, 0, none⟩) r cJ1], .agg #[.slice (some ⟨R1, 0, none⟩) r cR1, .slice (some ⟨I1, 0, none⟩) r cI1], .agg #[.slice (some ⟨RR, 0, none⟩) r cRR, .slice (some ⟨J2, 0, none⟩) r cJ2], .agg #[.slice (some ⟨R2, 0, none⟩) r cR2, .slice (some ⟨I2, 0, none⟩) r cI2], .slice (some ⟨A3, 0, none⟩) n c3, .slice (some ⟨A4, 0, none⟩) n c4, c.v, .slice (some ⟨A6, 0, none⟩) n c6, t.v, Zt, Zu, Zv, Zw, Zx, Zy, Zz, Ua, Ub, Uc, Ud, Ue, Uf, Ug, Uh, Ui, Uj, Uk, Ul, Um, Un, Uo, Up, Uq, Ur, Us, Ut, Uu, Uv, Uw, Ux, Uy, Uz, Da, Db, Dc, Dd, De, Df, Dg, Dh, Di, Dj, Dk, Dl, Dm, Dn, Do, Dp, Dq, Dr, Ds, Dt, Du, Dv, Dw, Dx, Dy, Dz, Ja, Jb, Jc, Jd, Je, Jf, Jg, Jh, Ji, Jj, Jk, Jl, Jm, Jn, Jo, Jp, Jq, Jr, Js, Jt, Ju, Jv, Jw, Jx, Jy, Jz, Ia, Ib, Ic, Id, Ie, If, Ig, Ih, Ii, Ij, Ik, Il, Im, In, Io, Ip, Iq, Ir, Is, It, Iu, Iv, Iw, Ix, Iy, Iz, Ga, Gb, Gc, Gd, Ge, Gf, Gg, Gh, Gi, Gj, Gk, Gl, Gm, Gn, Go, Gp, Gq, Gr, Gs, Gt, Gu, Gv, Gw, Gx, Gy, Gz, Ba, Bb, Bc, Bd, Be, Bf, Bg, Bh, Bi], []⟩ w := by
 unfold E4.v
 refine wpAnyH_ready (rs := [9, 16]) (by kernel_rfl) (by simp) ?_
 refine AllReadyH.cons (o := lw12o_9) rfl (fun K hK => ?_) (AllReadyH.cons (o := lw12o_16) rfl (fun K hK => ?_) AllReadyH.nil)
 ·unfold lw12o_9
  have HH := hidden hH0
  clear hH0
  refine Li.wp_buildS1 (.tmp 70) rfl t rfl (fun tb wn1 hb hrt => ?_)
  replace K1 := hidden (K1.out.keep hb)
  replace K2 := hidden (K2.out.keep hb)
  have RT := hidden (hrt)
  have SN := hidden (bl_trans HH.out hb)
  clear HH hb hrt
  simp only [Act.put, sA, sB, sC]
  refine hK.out _ _ SN.out (fun hH1 => ?_)
  clear hK K SN
  exact lw12_s3 hr1 hn1 ca0 ca1 cb0 cb1 ct0 ct1 ct2 ct3 cc0 cc1 cc2 cc3 C1 C3 CG CP HQ _ hH1 K1 K2 RT
 ·unfold lw12o_16
  have HH := hidden hH0
  clear hH0
  refine wp_allocE rfl (fun AB wn1 hA hb hth hrg => ?_)
  replace K1 := hidden (K1.out.keep hb)
  replace K2 := hidden (K2.out.keep hb)
  have GEB := hidden ((by have := HH.out.size; omega : W.heap.size ≤ AB))
  have TH := hidden (hth)
  have R0 := hidden (hrg)
  have SN := hidden (bl_trans HH.out hb)
  clear HH hA hb hth hrg
  simp only [Act.put, sA, sB, sC]
  refine hK.out _ _ SN.out (fun hH1 => ?_)
  clear hK K SN
  exact lw12_s10 hr1 hn1 ca0 ca1 cb0 cb1 ct0 ct1 ct2 ct3 cc0 cc1 cc2 cc3 C1 C3 CG CP HQ _ hH1 K1 K2 TH R0 GEB
def lw12_s12 (w : World) (hH0 : Below W.heap.size W w) (K1 : Hid (Cl w R1 I1 r n g1 cn1 gs im1)) (RT : Hid (w.rangeAt tb 0 [.int .u64 t.x0, .int .u64 t.x1, .int .u64 t.x2, .int .u64 t.x3])) (TH : Hid (w.there AB 0 10)) (R0 : Hid (w.rangeAt AB 0 [.int .u64 0, .int .u64 0, .int .u64 0, .int .u64 0, .int .u64 0, .int .u64 0, .int .u64 0, .int .u64 0, .slice none 0 0, .slice none 0 0])) (GEB : Hid (W.heap.size ≤ AB)) : wpAnyH Tryz.prog .any lw12o (NoPanic Q) (fun x => Below W.heap.size W x) 9 #[true, true, true, false, true, true, true, true, true, true, false, false, false, false, false, false, true, false, false] ⟨#[Xa, Xb, Xc, Xd, Xe, Xf, Xg, Xh, Xi, Xj, Xk, Xl, Xm, Xn, .pointer (some ⟨T14, 0, none⟩), .pointer (some ⟨T15, 0, none⟩), Xq, Xr, .slice (some ⟨A3, 0, none⟩) n c3, Xt, .slice (some ⟨A4, 0, none⟩) n c4, .slice (some ⟨A6, 0, none⟩) n c6, .pointer (some ⟨T22, 0, none⟩), .pointer (some ⟨T23, 0, none⟩), .pointer (some ⟨AB, 0, none⟩), Xz, Ya, Yb, Yc, Yd, Ye, Yf, Yg, Yh, Yi, Yj, Yk, Yl, Ym, Yn, Yo, Yp, Yq, Yr, Ys, Yt, Yu, Yv, Yw, Yx, Yy, Yz, Za, Zb, Zc, Zd, Ze, Zf, Zg, Zh, Zi, Zj, .agg #[.slice (some ⟨RR, 0, none⟩) r cRR, .slice (some ⟨J1, 0, none⟩) r cJ1], .agg #[.slice (some ⟨R1, 0, none⟩) r cR1, .slice (some ⟨I1, 0, none⟩) r cI1], .agg #[.slice (some ⟨RR, 0, none⟩) r cRR, .slice (some ⟨J2, 0, none⟩) r cJ2], Zn, .slice (some ⟨A3, 0, none⟩) n c3, .slice (some ⟨A4, 0, none⟩) n c4, c.v, .slice (some ⟨A6, 0, none⟩) n c6, t.v, .slice (some ⟨tb, 0, none⟩) 1 1, Zu, Zv, Zw, Zx, Zy, Zz, Ua, Ub, Uc, Ud, Ue, Uf, Ug, Uh, Ui, Uj, Uk, Ul, Um, Un, Uo, Up, Uq, Ur, Us, Ut, Uu, Uv, Uw, Ux, Uy, Uz, Da, Db, Dc, Dd, De, Df, Dg, Dh, Di, Dj, Dk, Dl, Dm, Dn, Do, Dp, Dq, Dr, Ds, Dt, Du, Dv, Dw, Dx, Dy, Dz, Ja, Jb, Jc, Jd, Je, Jf, Jg, Jh, Ji, Jj, Jk, Jl, Jm, Jn, Jo, Jp, Jq, Jr, Js, Jt, Ju, Jv, Jw, Jx, Jy, Jz, Ia, Ib, Ic, Id, Ie, If, Ig, Ih, Ii, Ij, Ik, Il, Im, In, Io, Ip, Iq, Ir, Is, It, Iu, Iv, Iw, Ix, Iy, Iz, Ga, Gb, Gc, Gd, Ge, Gf, Gg, Gh, Gi, Gj, Gk, Gl, Gm, Gn, Go, Gp, Gq, Gr, Gs, Gt, Gu, Gv, Gw, Gx, Gy, Gz, Ba, Bb, Bc, Bd, Be, Bf, Bg, Bh, Bi], []⟩ w := by
 unfold E4.v
 refine wpAnyH_ready (rs := [3]) (by kernel_rfl) (by simp) ?_
 refine AllReadyH.cons (o := lw12o_3) rfl (fun K hK => ?_) AllReadyH.nil
 unfold lw12o_3
 have HH := hidden hH0
 clear hH0
 go_simp
 refine (C3.out _ HH.out).mono ?_
 rintro e wn1 ⟨R2, I2, cR2, cI2, g2, cn2, rfl, hC, hb⟩
 replace K1 := hidden (K1.out.keep hb)
 replace RT := hidden (range_bl RT.out hb)
 replace TH := hidden (Li.there_bl TH.out hb)
 replace R0 := hidden (range_bl R0.out hb)
 have K2 := hidden (hC)
 have SN := hidden (bl_trans HH.out hb)
 clear HH hb hC
 go_wp2_with fail
 refine hK.out _ _ SN.out (fun hH1 => ?_)
 clear hK K SN
 exact lw12_s9 hr1 hn1 ca0 ca1 cb0 cb1 ct0 ct1 ct2 ct3 cc0 cc1 cc2 cc3 C1 C3 CG CP HQ _ hH1 K1 K2 RT TH R0 GEB
def lw12_s11 (w : World) (hH0 : Below W.heap.size W w) (K1 : Hid (Cl w R1 I1 r n g1 cn1 gs im1)) (RT : Hid (w.rangeAt tb 0 [.int .u64 t.x0, .int .u64 t.x1, .int .u64 t.x2, .int .u64 t.x3])) : wpAnyH Tryz.prog .any lw12o (NoPanic Q) (fun x => Below W.heap.size W x) 10 #[true, true, true, false, true, true, true, true, true, true, false, false, false, false, false, false, false, false, false] ⟨#[Xa, Xb, Xc, Xd, Xe, Xf, Xg, Xh, Xi, Xj, Xk, Xl, Xm, Xn, .pointer (some ⟨T14, 0, none⟩), .pointer (some ⟨T15, 0, none⟩), Xq, Xr, .slice (some ⟨A3, 0, none⟩) n c3, Xt, .slice (some ⟨A4, 0, none⟩) n c4, .slice (some ⟨A6, 0, none⟩) n c6, .pointer (some ⟨T22, 0, none⟩), .pointer (some ⟨T23, 0, none⟩), Xy, Xz, Ya, Yb, Yc, Yd, Ye, Yf, Yg, Yh, Yi, Yj, Yk, Yl, Ym, Yn, Yo, Yp, Yq, Yr, Ys, Yt, Yu, Yv, Yw, Yx, Yy, Yz, Za, Zb, Zc, Zd, Ze, Zf, Zg, Zh, Zi, Zj, .agg #[.slice (some ⟨RR, 0, none⟩) r cRR, .slice (some ⟨J1, 0, none⟩) r cJ1], .agg #[.slice (some ⟨R1, 0, none⟩) r cR1, .slice (some ⟨I1, 0, none⟩) r cI1], .agg #[.slice (some ⟨RR, 0, none⟩) r cRR, .slice (some ⟨J2, 0, none⟩) r cJ2], Zn, .slice (some ⟨A3, 0, none⟩) n c3, .slice (some ⟨A4, 0, none⟩) n c4, c.v, .slice (some ⟨A6, 0, none⟩) n c6, t.v, .slice (some ⟨tb, 0, none⟩) 1 1, Zu, Zv, Zw, Zx, Zy, Zz, Ua, Ub, Uc, Ud, Ue, Uf, Ug, Uh, Ui, Uj, Uk, Ul, Um, Un, Uo, Up, Uq, Ur, Us, Ut, Uu, Uv, Uw, Ux, Uy, Uz, Da, Db, Dc, Dd, De, Df, Dg, Dh, Di, Dj, Dk, Dl, Dm, Dn, Do, Dp, Dq, Dr, Ds, Dt, Du, Dv, Dw, Dx, Dy, Dz, Ja, Jb, Jc, Jd, Je, Jf, Jg, Jh, Ji, Jj, Jk, Jl, Jm, Jn, Jo, Jp, Jq, Jr, Js, Jt, Ju, Jv, Jw, Jx, Jy, Jz, Ia, Ib, Ic, Id, Ie, If, Ig, Ih, Ii, Ij, Ik, Il, Im, In, Io, Ip, Iq, Ir, Is, It, Iu, Iv, Iw, Ix, Iy, Iz, Ga, Gb, Gc, Gd, Ge, Gf, Gg, Gh, Gi, Gj, Gk, Gl, Gm, Gn, Go, Gp, Gq, Gr, Gs, Gt, Gu, Gv, Gw, Gx, Gy, Gz, Ba, Bb, Bc, Bd, Be, Bf, Bg, Bh, Bi], []⟩ w := by
 unfold E4.v
 refine wpAnyH_ready (rs := [3, 16]) (by kernel_rfl) (by simp) ?_
 refine AllReadyH.cons (o := lw12o_3) rfl (fun K hK => ?_) (AllReadyH.cons (o := lw12o_16) rfl (fun K hK => ?_) AllReadyH.nil)
 ·unfold lw12o_3
  have HH := hidden hH0
  clear hH0
  go_simp
  refine (C3.out _ HH.out).mono ?_
  rintro e wn1 ⟨R2, I2, cR2, cI2, g2, cn2, rfl, hC, hb⟩
  replace K1 := hidden (K1.out.keep hb)
  replace RT := hidden (range_bl RT.out hb)
  have K2 := hidden (hC)
  have SN := hidden (bl_trans HH.out hb)
  clear HH hb hC
  go_wp2_with fail
  refine hK.out _ _ SN.out (fun hH1 => ?_)
  clear hK K SN
  exact lw12_s3 hr1 hn1 ca0 ca1 cb0 cb1 ct0 ct1 ct2 ct3 cc0 cc1 cc2 cc3 C1 C3 CG CP HQ _ hH1 K1 K2 RT
 ·unfold lw12o_16
  have HH := hidden hH0
  clear hH0
  refine wp_allocE rfl (fun AB wn1 hA hb hth hrg => ?_)
  replace K1 := hidden (K1.out.keep hb)
  replace RT := hidden (range_bl RT.out hb)
  have GEB := hidden ((by have := HH.out.size; omega : W.heap.size ≤ AB))
  have TH := hidden (hth)
  have R0 := hidden (hrg)
  have SN := hidden (bl_trans HH.out hb)
  clear HH hA hb hth hrg
  simp only [Act.put, sA, sB, sC]
  refine hK.out _ _ SN.out (fun hH1 => ?_)
  clear hK K SN
  exact lw12_s12 hr1 hn1 ca0 ca1 cb0 cb1 ct0 ct1 ct2 ct3 cc0 cc1 cc2 cc3 C1 C3 CG CP HQ _ hH1 K1 RT TH R0 GEB
def lw12_s13 (w : World) (hH0 : Below W.heap.size W w) (K1 : Hid (Cl w R1 I1 r n g1 cn1 gs im1)) (TH : Hid (w.there AB 0 10)) (R0 : Hid (w.rangeAt AB 0 [.int .u64 0, .int .u64 0, .int .u64 0, .int .u64 0, .int .u64 0, .int .u64 0, .int .u64 0, .int .u64 0, .slice none 0 0, .slice none 0 0])) (GEB : Hid (W.heap.size ≤ AB)) : wpAnyH Tryz.prog .any lw12o (NoPanic Q) (fun x => Below W.heap.size W x) 10 #[true, true, true, false, true, true, true, true, true, false, false, false, false, false, false, false, true, false, false] ⟨#[Xa, Xb, Xc, Xd, Xe, Xf, Xg, Xh, Xi, Xj, Xk, Xl, Xm, Xn, .pointer (some ⟨T14, 0, none⟩), .pointer (some ⟨T15, 0, none⟩), Xq, Xr, .slice (some ⟨A3, 0, none⟩) n c3, Xt, .slice (some ⟨A4, 0, none⟩) n c4, .slice (some ⟨A6, 0, none⟩) n c6, .pointer (some ⟨T22, 0, none⟩), .pointer (some ⟨T23, 0, none⟩), .pointer (some ⟨AB, 0, none⟩), Xz, Ya, Yb, Yc, Yd, Ye, Yf, Yg, Yh, Yi, Yj, Yk, Yl, Ym, Yn, Yo, Yp, Yq, Yr, Ys, Yt, Yu, Yv, Yw, Yx, Yy, Yz, Za, Zb, Zc, Zd, Ze, Zf, Zg, Zh, Zi, Zj, .agg #[.slice (some ⟨RR, 0, none⟩) r cRR, .slice (some ⟨J1, 0, none⟩) r cJ1], .agg #[.slice (some ⟨R1, 0, none⟩) r cR1, .slice (some ⟨I1, 0, none⟩) r cI1], .agg #[.slice (some ⟨RR, 0, none⟩) r cRR, .slice (some ⟨J2, 0, none⟩) r cJ2], Zn, .slice (some ⟨A3, 0, none⟩) n c3, .slice (some ⟨A4, 0, none⟩) n c4, c.v, .slice (some ⟨A6, 0, none⟩) n c6, t.v, Zt, Zu, Zv, Zw, Zx, Zy, Zz, Ua, Ub, Uc, Ud, Ue, Uf, Ug, Uh, Ui, Uj, Uk, Ul, Um, Un, Uo, Up, Uq, Ur, Us, Ut, Uu, Uv, Uw, Ux, Uy, Uz, Da, Db, Dc, Dd, De, Df, Dg, Dh, Di, Dj, Dk, Dl, Dm, Dn, Do, Dp, Dq, Dr, Ds, Dt, Du, Dv, Dw, Dx, Dy, Dz, Ja, Jb, Jc, Jd, Je, Jf, Jg, Jh, Ji, Jj, Jk, Jl, Jm, Jn, Jo, Jp, Jq, Jr, Js, Jt, Ju, Jv, Jw, Jx, Jy, Jz, Ia, Ib, Ic, Id, Ie, If, Ig, Ih, Ii, Ij, Ik, Il, Im, In, Io, Ip, Iq, Ir, Is, It, Iu, Iv, Iw, Ix, Iy, Iz, Ga, Gb, Gc, Gd, Ge, Gf, Gg, Gh, Gi, Gj, Gk, Gl, Gm, Gn, Go, Gp, Gq, Gr, Gs, Gt, Gu, Gv, Gw, Gx, Gy, Gz, Ba, Bb, Bc, Bd, Be, Bf, Bg, Bh, Bi], []⟩ w := by
 unfold E4.v
 refine wpAnyH_ready (rs := [3, 9]) (by kernel_rfl) (by simp) ?_
 refine AllReadyH.cons (o := lw12o_3) rfl (fun K hK => ?_) (AllReadyH.cons (o := lw12o_9) rfl (fun K hK => ?_) AllReadyH.nil)
 ·unfold lw12o_3
  have HH := hidden hH0
  clear hH0
  go_simp
  refine (C3.out _ HH.out).mono ?_
  rintro e wn1 ⟨R2, I2, cR2, cI2, g2, cn2, rfl, hC, hb⟩
  replace K1 := hidden (K1.out.keep hb)
  replace TH := hidden (Li.there_bl TH.out hb)
  replace R0 := hidden (range_bl R0.out hb)
  have K2 := hidden (hC)
  have SN := hidden (bl_trans HH.out hb)
  clear HH hb hC
  go_wp2_with fail
  refine hK.out _ _ SN.out (fun hH1 => ?_)
  clear hK K SN
  exact lw12_s10 hr1 hn1 ca0 ca1 cb0 cb1 ct0 ct1 ct2 ct3 cc0 cc1 cc2 cc3 C1 C3 CG CP HQ _ hH1 K1 K2 TH R0 GEB
 ·unfold lw12o_9
  have HH := hidden hH0
  clear hH0
  refine Li.wp_buildS1 (.tmp 70) rfl t rfl (fun tb wn1 hb hrt => ?_)
  replace K1 := hidden (K1.out.keep hb)
  replace TH := hidden (Li.there_bl TH.out hb)
  replace R0 := hidden (range_bl R0.out hb)
  have RT := hidden (hrt)
  have SN := hidden (bl_trans HH.out hb)
  clear HH hb hrt
  simp only [Act.put, sA, sB, sC]
  refine hK.out _ _ SN.out (fun hH1 => ?_)
  clear hK K SN
  exact lw12_s12 hr1 hn1 ca0 ca1 cb0 cb1 ct0 ct1 ct2 ct3 cc0 cc1 cc2 cc3 C1 C3 CG CP HQ _ hH1 K1 RT TH R0 GEB
def lw12_s1 (w : World) (hH0 : Below W.heap.size W w) (K1 : Hid (Cl w R1 I1 r n g1 cn1 gs im1)) : wpAnyH Tryz.prog .any lw12o (NoPanic Q) (fun x => Below W.heap.size W x) 11 #[true, true, true, false, true, true, true, true, true, false, false, false, false, false, false, false, false, false, false] ⟨#[Xa, Xb, Xc, Xd, Xe, Xf, Xg, Xh, Xi, Xj, Xk, Xl, Xm, Xn, .pointer (some ⟨T14, 0, none⟩), .pointer (some ⟨T15, 0, none⟩), Xq, Xr, .slice (some ⟨A3, 0, none⟩) n c3, Xt, .slice (some ⟨A4, 0, none⟩) n c4, .slice (some ⟨A6, 0, none⟩) n c6, .pointer (some ⟨T22, 0, none⟩), .pointer (some ⟨T23, 0, none⟩), Xy, Xz, Ya, Yb, Yc, Yd, Ye, Yf, Yg, Yh, Yi, Yj, Yk, Yl, Ym, Yn, Yo, Yp, Yq, Yr, Ys, Yt, Yu, Yv, Yw, Yx, Yy, Yz, Za, Zb, Zc, Zd, Ze, Zf, Zg, Zh, Zi, Zj, .agg #[.slice (some ⟨RR, 0, none⟩) r cRR, .slice (some ⟨J1, 0, none⟩) r cJ1], .agg #[.slice (some ⟨R1, 0, none⟩) r cR1, .slice (some ⟨I1, 0, none⟩) r cI1], .agg #[.slice (some ⟨RR, 0, none⟩) r cRR, .slice (some ⟨J2, 0, none⟩) r cJ2], Zn, .slice (some ⟨A3, 0, none⟩) n c3, .slice (some ⟨A4, 0, none⟩) n c4, c.v, .slice (some ⟨A6, 0, none⟩) n c6, t.v, Zt, Zu, Zv, Zw, Zx, Zy, Zz, Ua, Ub, Uc, Ud, Ue, Uf, Ug, Uh, Ui, Uj, Uk, Ul, Um, Un, Uo, Up, Uq, Ur, Us, Ut, Uu, Uv, Uw, Ux, Uy, Uz, Da, Db, Dc, Dd, De, Df, Dg, Dh, Di, Dj, Dk, Dl, Dm, Dn, Do, Dp, Dq, Dr, Ds, Dt, Du, Dv, Dw, Dx, Dy, Dz, Ja, Jb, Jc, Jd, Je, Jf, Jg, Jh, Ji, Jj, Jk, Jl, Jm, Jn, Jo, Jp, Jq, Jr, Js, Jt, Ju, Jv, Jw, Jx, Jy, Jz, Ia, Ib, Ic, Id, Ie, If, Ig, Ih, Ii, Ij, Ik, Il, Im, In, Io, Ip, Iq, Ir, Is, It, Iu, Iv, Iw, Ix, Iy, Iz, Ga, Gb, Gc, Gd, Ge, Gf, Gg, Gh, Gi, Gj, Gk, Gl, Gm, Gn, Go, Gp, Gq, Gr, Gs, Gt, Gu, Gv, Gw, Gx, Gy, Gz, Ba, Bb, Bc, Bd, Be, Bf, Bg, Bh, Bi], []⟩ w := by
 unfold E4.v
 refine wpAnyH_ready (rs := [3, 9, 16]) (by kernel_rfl) (by simp) ?_
 refine AllReadyH.cons (o := lw12o_3) rfl (fun K hK => ?_) (AllReadyH.cons (o := lw12o_9) rfl (fun K hK => ?_) (AllReadyH.cons (o := lw12o_16) rfl (fun K hK => ?_) AllReadyH.nil))
 ·unfold lw12o_3
  have HH := hidden hH0
  clear hH0
  go_simp
  refine (C3.out _ HH.out).mono ?_
  rintro e wn1 ⟨R2, I2, cR2, cI2, g2, cn2, rfl, hC, hb⟩
  replace K1 := hidden (K1.out.keep hb)
  have K2 := hidden (hC)
  have SN := hidden (bl_trans HH.out hb)
  clear HH hb hC
  go_wp2_with fail
  refine hK.out _ _ SN.out (fun hH1 => ?_)
  clear hK K SN
  exact lw12_s2 hr1 hn1 ca0 ca1 cb0 cb1 ct0 ct1 ct2 ct3 cc0 cc1 cc2 cc3 C1 C3 CG CP HQ _ hH1 K1 K2
 ·unfold lw12o_9
  have HH := hidden hH0
  clear hH0
  refine Li.wp_buildS1 (.tmp 70) rfl t rfl (fun tb wn1 hb hrt => ?_)
  replace K1 := hidden (K1.out.keep hb)
  have RT := hidden (hrt)
  have SN := hidden (bl_trans HH.out hb)
  clear HH hb hrt
  simp only [Act.put, sA, sB, sC]
  refine hK.out _ _ SN.out (fun hH1 => ?_)
  clear hK K SN
  exact lw12_s11 hr1 hn1 ca0 ca1 cb0 cb1 ct0 ct1 ct2 ct3 cc0 cc1 cc2 cc3 C1 C3 CG CP HQ _ hH1 K1 RT
 ·unfold lw12o_16
  have HH := hidden hH0
  clear hH0
  refine wp_allocE rfl (fun AB wn1 hA hb hth hrg => ?_)
  replace K1 := hidden (K1.out.keep hb)
  have GEB := hidden ((by have := HH.out.size; omega : W.heap.size ≤ AB))
  have TH := hidden (hth)
  have R0 := hidden (hrg)
  have SN := hidden (bl_trans HH.out hb)
  clear HH hA hb hth hrg
  simp only [Act.put, sA, sB, sC]
  refine hK.out _ _ SN.out (fun hH1 => ?_)
  clear hK K SN
  exact lw12_s13 hr1 hn1 ca0 ca1 cb0 cb1 ct0 ct1 ct2 ct3 cc0 cc1 cc2 cc3 C1 C3 CG CP HQ _ hH1 K1 TH R0 GEB
def lw12_s15 (w : World) (hH0 : Below W.heap.size W w) (RT : Hid (w.rangeAt tb 0 [.int .u64 t.x0, .int .u64 t.x1, .int .u64 t.x2, .int .u64 t.x3])) (TH : Hid (w.there AB 0 10)) (R0 : Hid (w.rangeAt AB 0 [.int .u64 0, .int .u64 0, .int .u64 0, .int .u64 0, .int .u64 0, .int .u64 0, .int .u64 0, .int .u64 0, .slice none 0 0, .slice none 0 0])) (GEB : Hid (W.heap.size ≤ AB)) : wpAnyH Tryz.prog .any lw12o (NoPanic Q) (fun x => Below W.heap.size W x) 10 #[true, false, true, false, true, true, true, true, true, true, false, false, false, false, false, false, true, false, false] ⟨#[Xa, Xb, Xc, Xd, Xe, Xf, Xg, Xh, Xi, Xj, Xk, Xl, Xm, Xn, .pointer (some ⟨T14, 0, none⟩), .pointer (some ⟨T15, 0, none⟩), Xq, Xr, .slice (some ⟨A3, 0, none⟩) n c3, Xt, .slice (some ⟨A4, 0, none⟩) n c4, .slice (some ⟨A6, 0, none⟩) n c6, .pointer (some ⟨T22, 0, none⟩), .pointer (some ⟨T23, 0, none⟩), .pointer (some ⟨AB, 0, none⟩), Xz, Ya, Yb, Yc, Yd, Ye, Yf, Yg, Yh, Yi, Yj, Yk, Yl, Ym, Yn, Yo, Yp, Yq, Yr, Ys, Yt, Yu, Yv, Yw, Yx, Yy, Yz, Za, Zb, Zc, Zd, Ze, Zf, Zg, Zh, Zi, Zj, .agg #[.slice (some ⟨RR, 0, none⟩) r cRR, .slice (some ⟨J1, 0, none⟩) r cJ1], Zl, .agg #[.slice (some ⟨RR, 0, none⟩) r cRR, .slice (some ⟨J2, 0, none⟩) r cJ2], Zn, .slice (some ⟨A3, 0, none⟩) n c3, .slice (some ⟨A4, 0, none⟩) n c4, c.v, .slice (some ⟨A6, 0, none⟩) n c6, t.v, .slice (some ⟨tb, 0, none⟩) 1 1, Zu, Zv, Zw, Zx, Zy, Zz, Ua, Ub, Uc, Ud, Ue, Uf, Ug, Uh, Ui, Uj, Uk, Ul, Um, Un, Uo, Up, Uq, Ur, Us, Ut, Uu, Uv, Uw, Ux, Uy, Uz, Da, Db, Dc, Dd, De, Df, Dg, Dh, Di, Dj, Dk, Dl, Dm, Dn, Do, Dp, Dq, Dr, Ds, Dt, Du, Dv, Dw, Dx, Dy, Dz, Ja, Jb, Jc, Jd, Je, Jf, Jg, Jh, Ji, Jj, Jk, Jl, Jm, Jn, Jo, Jp, Jq, Jr, Js, Jt, Ju, Jv, Jw, Jx, Jy, Jz, Ia, Ib, Ic, Id, Ie, If, Ig, Ih, Ii, Ij, Ik, Il, Im, In, Io, Ip, Iq, Ir, Is, It, Iu, Iv, Iw, Ix, Iy, Iz, Ga, Gb, Gc, Gd, Ge, Gf, Gg, Gh, Gi, Gj, Gk, Gl, Gm, Gn, Go, Gp, Gq, Gr, Gs, Gt, Gu, Gv, Gw, Gx, Gy, Gz, Ba, Bb, Bc, Bd, Be, Bf, Bg, Bh, Bi], []⟩ w := by
 unfold E4.v
 refine wpAnyH_ready (rs := [1]) (by kernel_rfl) (by simp) ?_
 refine AllReadyH.cons (o := lw12o_1) rfl (fun K hK => ?_) AllReadyH.nil
 unfold lw12o_1
 have HH := hidden hH0
 clear hH0
 go_simp
 refine (C1.out _ HH.out).mono ?_
 rintro e wn1 ⟨R1, I1, cR1, cI1, g1, cn1, rfl, hC, hb⟩
 replace RT := hidden (range_bl RT.out hb)
 replace TH := hidden (Li.there_bl TH.out hb)
 replace R0 := hidden (range_bl R0.out hb)
 have K1 := hidden (hC)
 have SN := hidden (bl_trans HH.out hb)
 clear HH hb hC
 go_wp2_with fail
 refine hK.out _ _ SN.out (fun hH1 => ?_)
 clear hK K SN
 exact lw12_s12 hr1 hn1 ca0 ca1 cb0 cb1 ct0 ct1 ct2 ct3 cc0 cc1 cc2 cc3 C1 C3 CG CP HQ _ hH1 K1 RT TH R0 GEB
def lw12_s14 (w : World) (hH0 : Below W.heap.size W w) (RT : Hid (w.rangeAt tb 0 [.int .u64 t.x0, .int .u64 t.x1, .int .u64 t.x2, .int .u64 t.x3])) : wpAnyH Tryz.prog .any lw12o (NoPanic Q) (fun x => Below W.heap.size W x) 11 #[true, false, true, false, true, true, true, true, true, true, false, false, false, false, false, false, false, false, false] ⟨#[Xa, Xb, Xc, Xd, Xe, Xf, Xg, Xh, Xi, Xj, Xk, Xl, Xm, Xn, .pointer (some ⟨T14, 0, none⟩), .pointer (some ⟨T15, 0, none⟩), Xq, Xr, .slice (some ⟨A3, 0, none⟩) n c3, Xt, .slice (some ⟨A4, 0, none⟩) n c4, .slice (some ⟨A6, 0, none⟩) n c6, .pointer (some ⟨T22, 0, none⟩), .pointer (some ⟨T23, 0, none⟩), Xy, Xz, Ya, Yb, Yc, Yd, Ye, Yf, Yg, Yh, Yi, Yj, Yk, Yl, Ym, Yn, Yo, Yp, Yq, Yr, Ys, Yt, Yu, Yv, Yw, Yx, Yy, Yz, Za, Zb, Zc, Zd, Ze, Zf, Zg, Zh, Zi, Zj, .agg #[.slice (some ⟨RR, 0, none⟩) r cRR, .slice (some ⟨J1, 0, none⟩) r cJ1], Zl, .agg #[.slice (some ⟨RR, 0, none⟩) r cRR, .slice (some ⟨J2, 0, none⟩) r cJ2], Zn, .slice (some ⟨A3, 0, none⟩) n c3, .slice (some ⟨A4, 0, none⟩) n c4, c.v, .slice (some ⟨A6, 0, none⟩) n c6, t.v, .slice (some ⟨tb, 0, none⟩) 1 1, Zu, Zv, Zw, Zx, Zy, Zz, Ua, Ub, Uc, Ud, Ue, Uf, Ug, Uh, Ui, Uj, Uk, Ul, Um, Un, Uo, Up, Uq, Ur, Us, Ut, Uu, Uv, Uw, Ux, Uy, Uz, Da, Db, Dc, Dd, De, Df, Dg, Dh, Di, Dj, Dk, Dl, Dm, Dn, Do, Dp, Dq, Dr, Ds, Dt, Du, Dv, Dw, Dx, Dy, Dz, Ja, Jb, Jc, Jd, Je, Jf, Jg, Jh, Ji, Jj, Jk, Jl, Jm, Jn, Jo, Jp, Jq, Jr, Js, Jt, Ju, Jv, Jw, Jx, Jy, Jz, Ia, Ib, Ic, Id, Ie, If, Ig, Ih, Ii, Ij, Ik, Il, Im, In, Io, Ip, Iq, Ir, Is, It, Iu, Iv, Iw, Ix, Iy, Iz, Ga, Gb, Gc, Gd, Ge, Gf, Gg, Gh, Gi, Gj, Gk, Gl, Gm, Gn, Go, Gp, Gq, Gr, Gs, Gt, Gu, Gv, Gw, Gx, Gy, Gz, Ba, Bb, Bc, Bd, Be, Bf, Bg, Bh, Bi], []⟩ w := by
 unfold E4.v
 refine wpAnyH_ready (rs := [1, 16]) (by kernel_rfl) (by simp) ?_
 refine AllReadyH.cons (o := lw12o_1) rfl (fun K hK => ?_) (AllReadyH.cons (o := lw12o_16) rfl (fun K hK => ?_) AllReadyH.nil)
 ·unfold lw12o_1
  have HH := hidden hH0
  clear hH0
  go_simp
  refine (C1.out _ HH.out).mono ?_
  rintro e wn1 ⟨R1, I1, cR1, cI1, g1, cn1, rfl, hC, hb⟩
  replace RT := hidden (range_bl RT.out hb)
  have K1 := hidden (hC)
  have SN := hidden (bl_trans HH.out hb)
  clear HH hb hC
  go_wp2_with fail
  refine hK.out _ _ SN.out (fun hH1 => ?_)
  clear hK K SN
  exact lw12_s11 hr1 hn1 ca0 ca1 cb0 cb1 ct0 ct1 ct2 ct3 cc0 cc1 cc2 cc3 C1 C3 CG CP HQ _ hH1 K1 RT
 ·unfold lw12o_16
  have HH := hidden hH0
  clear hH0
  refine wp_allocE rfl (fun AB wn1 hA hb hth hrg => ?_)
  replace RT := hidden (range_bl RT.out hb)
  have GEB := hidden ((by have := HH.out.size; omega : W.heap.size ≤ AB))
  have TH := hidden (hth)
  have R0 := hidden (hrg)
  have SN := hidden (bl_trans HH.out hb)
  clear HH hA hb hth hrg
  simp only [Act.put, sA, sB, sC]
  refine hK.out _ _ SN.out (fun hH1 => ?_)
  clear hK K SN
  exact lw12_s15 hr1 hn1 ca0 ca1 cb0 cb1 ct0 ct1 ct2 ct3 cc0 cc1 cc2 cc3 C1 C3 CG CP HQ _ hH1 RT TH R0 GEB
def lw12_s16 (w : World) (hH0 : Below W.heap.size W w) (TH : Hid (w.there AB 0 10)) (R0 : Hid (w.rangeAt AB 0 [.int .u64 0, .int .u64 0, .int .u64 0, .int .u64 0, .int .u64 0, .int .u64 0, .int .u64 0, .int .u64 0, .slice none 0 0, .slice none 0 0])) (GEB : Hid (W.heap.size ≤ AB)) : wpAnyH Tryz.prog .any lw12o (NoPanic Q) (fun x => Below W.heap.size W x) 11 #[true, false, true, false, true, true, true, true, true, false, false, false, false, false, false, false, true, false, false] ⟨#[Xa, Xb, Xc, Xd, Xe, Xf, Xg, Xh, Xi, Xj, Xk, Xl, Xm, Xn, .pointer (some ⟨T14, 0, none⟩), .pointer (some ⟨T15, 0, none⟩), Xq, Xr, .slice (some ⟨A3, 0, none⟩) n c3, Xt, .slice (some ⟨A4, 0, none⟩) n c4, .slice (some ⟨A6, 0, none⟩) n c6, .pointer (some ⟨T22, 0, none⟩), .pointer (some ⟨T23, 0, none⟩), .pointer (some ⟨AB, 0, none⟩), Xz, Ya, Yb, Yc, Yd, Ye, Yf, Yg, Yh, Yi, Yj, Yk, Yl, Ym, Yn, Yo, Yp, Yq, Yr, Ys, Yt, Yu, Yv, Yw, Yx, Yy, Yz, Za, Zb, Zc, Zd, Ze, Zf, Zg, Zh, Zi, Zj, .agg #[.slice (some ⟨RR, 0, none⟩) r cRR, .slice (some ⟨J1, 0, none⟩) r cJ1], Zl, .agg #[.slice (some ⟨RR, 0, none⟩) r cRR, .slice (some ⟨J2, 0, none⟩) r cJ2], Zn, .slice (some ⟨A3, 0, none⟩) n c3, .slice (some ⟨A4, 0, none⟩) n c4, c.v, .slice (some ⟨A6, 0, none⟩) n c6, t.v, Zt, Zu, Zv, Zw, Zx, Zy, Zz, Ua, Ub, Uc, Ud, Ue, Uf, Ug, Uh, Ui, Uj, Uk, Ul, Um, Un, Uo, Up, Uq, Ur, Us, Ut, Uu, Uv, Uw, Ux, Uy, Uz, Da, Db, Dc, Dd, De, Df, Dg, Dh, Di, Dj, Dk, Dl, Dm, Dn, Do, Dp, Dq, Dr, Ds, Dt, Du, Dv, Dw, Dx, Dy, Dz, Ja, Jb, Jc, Jd, Je, Jf, Jg, Jh, Ji, Jj, Jk, Jl, Jm, Jn, Jo, Jp, Jq, Jr, Js, Jt, Ju, Jv, Jw, Jx, Jy, Jz, Ia, Ib, Ic, Id, Ie, If, Ig, Ih, Ii, Ij, Ik, Il, Im, In, Io, Ip, Iq, Ir, Is, It, Iu, Iv, Iw, Ix, Iy, Iz, Ga, Gb, Gc, Gd, Ge, Gf, Gg, Gh, Gi, Gj, Gk, Gl, Gm, Gn, Go, Gp, Gq, Gr, Gs, Gt, Gu, Gv, Gw, Gx, Gy, Gz, Ba, Bb, Bc, Bd, Be, Bf, Bg, Bh, Bi], []⟩ w := by
 unfold E4.v
 refine wpAnyH_ready (rs := [1, 9]) (by kernel_rfl) (by simp) ?_
 refine AllReadyH.cons (o := lw12o_1) rfl (fun K hK => ?_) (AllReadyH.cons (o := lw12o_9) rfl (fun K hK => ?_) AllReadyH.nil)
 ·unfold lw12o_1
  have HH := hidden hH0
  clear hH0
  go_simp
  refine (C1.out _ HH.out).mono ?_
  rintro e wn1 ⟨R1, I1, cR1, cI1, g1, cn1, rfl, hC, hb⟩
  replace TH := hidden (Li.there_bl TH.out hb)
  replace R0 := hidden (range_bl R0.out hb)
  have K1 := hidden (hC)
  have SN := hidden (bl_trans HH.out hb)
  clear HH hb hC
  go_wp2_with fail
  refine hK.out _ _ SN.out (fun hH1 => ?_)
  clear hK K SN
  exact lw12_s13 hr1 hn1 ca0 ca1 cb0 cb1 ct0 ct1 ct2 ct3 cc0 cc1 cc2 cc3 C1 C3 CG CP HQ _ hH1 K1 TH R0 GEB
 ·unfold lw12o_9
  have HH := hidden hH0
  clear hH0
  refine Li.wp_buildS1 (.tmp 70) rfl t rfl (fun tb wn1 hb hrt => ?_)
  replace TH := hidden (Li.there_bl TH.out hb)
  replace R0 := hidden (range_bl R0.out hb)
  have RT := hidden (hrt)
  have SN := hidden (bl_trans HH.out hb)
  clear HH hb hrt
  simp only [Act.put, sA, sB, sC]
  refine hK.out _ _ SN.out (fun hH1 => ?_)
  clear hK K SN
  exact lw12_s15 hr1 hn1 ca0 ca1 cb0 cb1 ct0 ct1 ct2 ct3 cc0 cc1 cc2 cc3 C1 C3 CG CP HQ _ hH1 RT TH R0 GEB
def lw12_s0 (w : World) (hH0 : Below W.heap.size W w)  : wpAnyH Tryz.prog .any lw12o (NoPanic Q) (fun x => Below W.heap.size W x) 12 #[true, false, true, false, true, true, true, true, true, false, false, false, false, false, false, false, false, false, false] ⟨#[Xa, Xb, Xc, Xd, Xe, Xf, Xg, Xh, Xi, Xj, Xk, Xl, Xm, Xn, .pointer (some ⟨T14, 0, none⟩), .pointer (some ⟨T15, 0, none⟩), Xq, Xr, .slice (some ⟨A3, 0, none⟩) n c3, Xt, .slice (some ⟨A4, 0, none⟩) n c4, .slice (some ⟨A6, 0, none⟩) n c6, .pointer (some ⟨T22, 0, none⟩), .pointer (some ⟨T23, 0, none⟩), Xy, Xz, Ya, Yb, Yc, Yd, Ye, Yf, Yg, Yh, Yi, Yj, Yk, Yl, Ym, Yn, Yo, Yp, Yq, Yr, Ys, Yt, Yu, Yv, Yw, Yx, Yy, Yz, Za, Zb, Zc, Zd, Ze, Zf, Zg, Zh, Zi, Zj, .agg #[.slice (some ⟨RR, 0, none⟩) r cRR, .slice (some ⟨J1, 0, none⟩) r cJ1], Zl, .agg #[.slice (some ⟨RR, 0, none⟩) r cRR, .slice (some ⟨J2, 0, none⟩) r cJ2], Zn, .slice (some ⟨A3, 0, none⟩) n c3, .slice (some ⟨A4, 0, none⟩) n c4, c.v, .slice (some ⟨A6, 0, none⟩) n c6, t.v, Zt, Zu, Zv, Zw, Zx, Zy, Zz, Ua, Ub, Uc, Ud, Ue, Uf, Ug, Uh, Ui, Uj, Uk, Ul, Um, Un, Uo, Up, Uq, Ur, Us, Ut, Uu, Uv, Uw, Ux, Uy, Uz, Da, Db, Dc, Dd, De, Df, Dg, Dh, Di, Dj, Dk, Dl, Dm, Dn, Do, Dp, Dq, Dr, Ds, Dt, Du, Dv, Dw, Dx, Dy, Dz, Ja, Jb, Jc, Jd, Je, Jf, Jg, Jh, Ji, Jj, Jk, Jl, Jm, Jn, Jo, Jp, Jq, Jr, Js, Jt, Ju, Jv, Jw, Jx, Jy, Jz, Ia, Ib, Ic, Id, Ie, If, Ig, Ih, Ii, Ij, Ik, Il, Im, In, Io, Ip, Iq, Ir, Is, It, Iu, Iv, Iw, Ix, Iy, Iz, Ga, Gb, Gc, Gd, Ge, Gf, Gg, Gh, Gi, Gj, Gk, Gl, Gm, Gn, Go, Gp, Gq, Gr, Gs, Gt, Gu, Gv, Gw, Gx, Gy, Gz, Ba, Bb, Bc, Bd, Be, Bf, Bg, Bh, Bi], []⟩ w := by
 unfold E4.v
 refine wpAnyH_ready (rs := [1, 9, 16]) (by kernel_rfl) (by simp) ?_
 refine AllReadyH.cons (o := lw12o_1) rfl (fun K hK => ?_) (AllReadyH.cons (o := lw12o_9) rfl (fun K hK => ?_) (AllReadyH.cons (o := lw12o_16) rfl (fun K hK => ?_) AllReadyH.nil))
 ·unfold lw12o_1
  have HH := hidden hH0
  clear hH0
  go_simp
  refine (C1.out _ HH.out).mono ?_
  rintro e wn1 ⟨R1, I1, cR1, cI1, g1, cn1, rfl, hC, hb⟩
  have K1 := hidden (hC)
  have SN := hidden (bl_trans HH.out hb)
  clear HH hb hC
  go_wp2_with fail
  refine hK.out _ _ SN.out (fun hH1 => ?_)
  clear hK K SN
  exact lw12_s1 hr1 hn1 ca0 ca1 cb0 cb1 ct0 ct1 ct2 ct3 cc0 cc1 cc2 cc3 C1 C3 CG CP HQ _ hH1 K1
 ·unfold lw12o_9
  have HH := hidden hH0
  clear hH0
  refine Li.wp_buildS1 (.tmp 70) rfl t rfl (fun tb wn1 hb hrt => ?_)
  have RT := hidden (hrt)
  have SN := hidden (bl_trans HH.out hb)
  clear HH hb hrt
  simp only [Act.put, sA, sB, sC]
  refine hK.out _ _ SN.out (fun hH1 => ?_)
  clear hK K SN
  exact lw12_s14 hr1 hn1 ca0 ca1 cb0 cb1 ct0 ct1 ct2 ct3 cc0 cc1 cc2 cc3 C1 C3 CG CP HQ _ hH1 RT
 ·unfold lw12o_16
  have HH := hidden hH0
  clear hH0
  refine wp_allocE rfl (fun AB wn1 hA hb hth hrg => ?_)
  have GEB := hidden ((by have := HH.out.size; omega : W.heap.size ≤ AB))
  have TH := hidden (hth)
  have R0 := hidden (hrg)
  have SN := hidden (bl_trans HH.out hb)
  clear HH hA hb hth hrg
  simp only [Act.put, sA, sB, sC]
  refine hK.out _ _ SN.out (fun hH1 => ?_)
  clear hK K SN
  exact lw12_s16 hr1 hn1 ca0 ca1 cb0 cb1 ct0 ct1 ct2 ct3 cc0 cc1 cc2 cc3 C1 C3 CG CP HQ _ hH1 TH R0 GEB
def lw12 : (Code.region 12 lw12o true).wp Tryz.prog Q ⟨#[Xa, Xb, Xc, Xd, Xe, Xf, Xg, Xh, Xi, Xj, Xk, Xl, Xm, Xn, .pointer (some ⟨T14, 0, none⟩), .pointer (some ⟨T15, 0, none⟩), Xq, Xr, .slice (some ⟨A3, 0, none⟩) n c3, Xt, .slice (some ⟨A4, 0, none⟩) n c4, .slice (some ⟨A6, 0, none⟩) n c6, .pointer (some ⟨T22, 0, none⟩), .pointer (some ⟨T23, 0, none⟩), Xy, Xz, Ya, Yb, Yc, Yd, Ye, Yf, Yg, Yh, Yi, Yj, Yk, Yl, Ym, Yn, Yo, Yp, Yq, Yr, Ys, Yt, Yu, Yv, Yw, Yx, Yy, Yz, Za, Zb, Zc, Zd, Ze, Zf, Zg, Zh, Zi, Zj, Zk, Zl, Zm, Zn, Zo, Zp, Zq, Zr, Zs, Zt, Zu, Zv, Zw, Zx, Zy, Zz, Ua, Ub, Uc, Ud, Ue, Uf, Ug, Uh, Ui, Uj, Uk, Ul, Um, Un, Uo, Up, Uq, Ur, Us, Ut, Uu, Uv, Uw, Ux, Uy, Uz, Da, Db, Dc, Dd, De, Df, Dg, Dh, Di, Dj, Dk, Dl, Dm, Dn, Do, Dp, Dq, Dr, Ds, Dt, Du, Dv, Dw, Dx, Dy, Dz, Ja, Jb, Jc, Jd, Je, Jf, Jg, Jh, Ji, Jj, Jk, Jl, Jm, Jn, Jo, Jp, Jq, Jr, Js, Jt, Ju, Jv, Jw, Jx, Jy, Jz, Ia, Ib, Ic, Id, Ie, If, Ig, Ih, Ii, Ij, Ik, Il, Im, In, Io, Ip, Iq, Ir, Is, It, Iu, Iv, Iw, Ix, Iy, Iz, Ga, Gb, Gc, Gd, Ge, Gf, Gg, Gh, Gi, Gj, Gk, Gl, Gm, Gn, Go, Gp, Gq, Gr, Gs, Gt, Gu, Gv, Gw, Gx, Gy, Gz, Ba, Bb, Bc, Bd, Be, Bf, Bg, Bh, Bi], []⟩ W := by
 refine wp_region_noPanic ?_
 refine wp_region_held_drew (S := fun x => Below W.heap.size W x) (by kernel_rfl) (bl_drew W) (fun hH0 => ?_)
 show wpAnyH Tryz.prog .any lw12o (NoPanic Q) (fun x => Below W.heap.size W x) 19 #[false, false, false, false, false, false, false, false, false, false, false, false, false, false, false, false, false, false, false] ⟨#[Xa, Xb, Xc, Xd, Xe, Xf, Xg, Xh, Xi, Xj, Xk, Xl, Xm, Xn, .pointer (some ⟨T14, 0, none⟩), .pointer (some ⟨T15, 0, none⟩), Xq, Xr, .slice (some ⟨A3, 0, none⟩) n c3, Xt, .slice (some ⟨A4, 0, none⟩) n c4, .slice (some ⟨A6, 0, none⟩) n c6, .pointer (some ⟨T22, 0, none⟩), .pointer (some ⟨T23, 0, none⟩), Xy, Xz, Ya, Yb, Yc, Yd, Ye, Yf, Yg, Yh, Yi, Yj, Yk, Yl, Ym, Yn, Yo, Yp, Yq, Yr, Ys, Yt, Yu, Yv, Yw, Yx, Yy, Yz, Za, Zb, Zc, Zd, Ze, Zf, Zg, Zh, Zi, Zj, Zk, Zl, Zm, Zn, Zo, Zp, Zq, Zr, Zs, Zt, Zu, Zv, Zw, Zx, Zy, Zz, Ua, Ub, Uc, Ud, Ue, Uf, Ug, Uh, Ui, Uj, Uk, Ul, Um, Un, Uo, Up, Uq, Ur, Us, Ut, Uu, Uv, Uw, Ux, Uy, Uz, Da, Db, Dc, Dd, De, Df, Dg, Dh, Di, Dj, Dk, Dl, Dm, Dn, Do, Dp, Dq, Dr, Ds, Dt, Du, Dv, Dw, Dx, Dy, Dz, Ja, Jb, Jc, Jd, Je, Jf, Jg, Jh, Ji, Jj, Jk, Jl, Jm, Jn, Jo, Jp, Jq, Jr, Js, Jt, Ju, Jv, Jw, Jx, Jy, Jz, Ia, Ib, Ic, Id, Ie, If, Ig, Ih, Ii, Ij, Ik, Il, Im, In, Io, Ip, Iq, Ir, Is, It, Iu, Iv, Iw, Ix, Iy, Iz, Ga, Gb, Gc, Gd, Ge, Gf, Gg, Gh, Gi, Gj, Gk, Gl, Gm, Gn, Go, Gp, Gq, Gr, Gs, Gt, Gu, Gv, Gw, Gx, Gy, Gz, Ba, Bb, Bc, Bd, Be, Bf, Bg, Bh, Bi], []⟩ W.drew
 refine tk 0 lw12o_0 (.agg #[.slice (some ⟨RR, 0, none⟩) r cRR, .slice (some ⟨J1, 0, none⟩) r cJ1]) rfl (by kernel_rfl) hH0 rfl (fun w0 hSw => ?_) ?_
 ·(unfold lw12o_0; have hS : Below W.heap.size W w0 := hSw; have a0 := (cell_keep ca0 hS); have a1 := (cell_keep ca1 hS); clear hS hSw; go_simp)
 simp only [lw12o_0, Act.put, sA, sB, sC]
 refine tk 2 lw12o_2 (.agg #[.slice (some ⟨RR, 0, none⟩) r cRR, .slice (some ⟨J2, 0, none⟩) r cJ2]) rfl (by kernel_rfl) hH0 rfl (fun w0 hSw => ?_) ?_
 ·(unfold lw12o_2; have hS : Below W.heap.size W w0 := hSw; have a0 := (cell_keep cb0 hS); have a1 := (cell_keep cb1 hS); clear hS hSw; go_simp)
 simp only [lw12o_2, Act.put, sA, sB, sC]
 refine tk 4 lw12o_4 (.slice (some ⟨A3, 0, none⟩) n c3) rfl (by kernel_rfl) hH0 rfl (fun w0 hSw => ?_) ?_
 ·(unfold lw12o_4; clear hSw; go_simp)
 simp only [lw12o_4, Act.put, sA, sB, sC]
 refine tk 5 lw12o_5 (.slice (some ⟨A4, 0, none⟩) n c4) rfl (by kernel_rfl) hH0 rfl (fun w0 hSw => ?_) ?_
 ·(unfold lw12o_5; clear hSw; go_simp)
 simp only [lw12o_5, Act.put, sA, sB, sC]
 refine tk 6 lw12o_6 (.agg #[.int .u64 c.x0, .int .u64 c.x1, .int .u64 c.x2, .int .u64 c.x3]) rfl (by kernel_rfl) hH0 rfl (fun w0 hSw => ?_) ?_
 ·(unfold lw12o_6; have hS : Below W.heap.size W w0 := hSw; have a0 := (cell_keep cc0 hS); have a1 := (cell_keep cc1 hS); have a2 := (cell_keep cc2 hS); have a3 := (cell_keep cc3 hS); clear hS hSw; go_simp)
 simp only [lw12o_6, Act.put, sA, sB, sC]
 refine tk 7 lw12o_7 (.slice (some ⟨A6, 0, none⟩) n c6) rfl (by kernel_rfl) hH0 rfl (fun w0 hSw => ?_) ?_
 ·(unfold lw12o_7; clear hSw; go_simp)
 simp only [lw12o_7, Act.put, sA, sB, sC]
 refine tk 8 lw12o_8 (.agg #[.int .u64 t.x0, .int .u64 t.x1, .int .u64 t.x2, .int .u64 t.x3]) rfl (by kernel_rfl) hH0 rfl (fun w0 hSw => ?_) ?_
 ·(unfold lw12o_8; have hS : Below W.heap.size W w0 := hSw; have a0 := (cell_keep ct0 hS); have a1 := (cell_keep ct1 hS); have a2 := (cell_keep ct2 hS); have a3 := (cell_keep ct3 hS); clear hS hSw; go_simp)
 simp only [lw12o_8, Act.put, sA, sB, sC]
 exact lw12_s0 hr1 hn1 ca0 ca1 cb0 cb1 ct0 ct1 ct2 ct3 cc0 cc1 cc2 cc3 C1 C3 CG CP HQ _ hH0
end
end Sg
end Go.Proofs.YtbbnjmjeeiglcaaGreatDoor
