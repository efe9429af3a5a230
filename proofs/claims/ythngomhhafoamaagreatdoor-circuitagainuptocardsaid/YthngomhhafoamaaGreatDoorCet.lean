import Derived.Test.YthngomhhafoamaaGreatDoorUz
set_option linter.unusedVariables false
set_option linter.unusedSimpArgs false
set_option maxRecDepth 100000
set_option maxHeartbeats 16000000
namespace Go.Proofs.YthngomhhafoamaaGreatDoor
open Go.RowKit
open Cm (Wr Tm co bf Ls lf ins Eqm)
namespace Ci
def add1 (b : Bool) (x : Nat) : Nat := bif b then x + 1 else x
theorem add1T (x : Nat) : add1 true x = x + 1 := rfl
theorem add1F (x : Nat) : add1 false x = x := rfl
def updb (b : Bool) (f : Nat → Value) (j : Nat) (v : Value) : Nat → Value := bif b then upd f j v else f
theorem updbT (f : Nat → Value) (j : Nat) (v : Value) : updb true f j v = upd f j v := rfl
theorem updbF (f : Nat → Value) (j : Nat) (v : Value) : updb false f j v = f := rfl
def updn (b : Bool) (f : Nat → Nat) (j v : Nat) : Nat → Nat := bif b then upd f j v else f
theorem updnT (f : Nat → Nat) (j v : Nat) : updn true f j v = upd f j v := rfl
theorem updnF (f : Nat → Nat) (j v : Nat) : updn false f j v = f := rfl
theorem wp_appG {P : Program} {w : World} {o : Oper} {a : Act} {K : Act → World → Prop} {Q : Exit → Act → World → Prop} (s x : Operand) (t : TypeId)
  (ho : o.op = .call { callee := .builtin .append, args := #[s, x], argTypes := #[t, t] })
  (base : Nat) (e : TypeId) (i : TypeInfo) (z : Value) (size bytes : Nat) (ht : P.underlying t = some (.slice e)) (hi : P.info? e = some i) (hz : i.zero = some z)
  (hsize : i.size = size) (hby : i.bytes = bytes) (hzs : z.cells.size = size) (hsz : 0 < size)
  (v : Value) (n : Nat) (xs : List Value) (hs : a.eval s = v) (hown : w.ownsRow base e size v n xs)
  (ad : Addr) (m c : Nat) (news : List Value) (hx : a.eval x = .slice (some ad) m c) (hl : news.length = m * size) (hnews : ∀ j u, news[j]? = some u → w.cell? (ad.add j) = some u) (h1 : ∀ u ∈ news, u.oneCell' = true)
  (h63 : n + m ≤ maxLen) (hbytes : (n + m) * bytes ≤ 140737488355328) (hbase : base ≤ w.heap.size)
  (h : ∀ v' w', w'.ownsRow base e size v' (n + m) (xs ++ news) → w.grownBy w' v.ownBlock → (v'.ownBlock = v.ownBlock ∨ v'.ownBlock = some w.heap.size) → K (a.put o.dst v') w') : o.wp P a w K Q := by
 obtain ⟨v', w', hr, h2, h3, h4, h5⟩ := run_append_own_at (P := P) w base t o.type e i z size bytes ht hi hz hsize hby hzs hsz v n xs hown ad m c news hl hnews h1 h63 hbytes hbase
 unfold Oper.wp execOp
 simp only [ho, resolve, invoke, builtin, Sem.run_bind, Sem.run_pure, Result.andThen_ok, List.map_toArray, List.map_cons, List.map_nil, hs, hx, hr]
 exact h v' w' h2 h3 h5
theorem loadS (w : World) (b o : Nat) (p : Option Addr) (n c : Nat) (hc : w.cell? ⟨b, o, none⟩ = some (.slice p n c)) : (loadVar 25 ⟨b, o, none⟩).run Tryz.prog w = .ok (.slice p n c) w := by
 have ha : (isAgg 25).run Tryz.prog w = .ok false w := by kernel_rfl
 unfold loadVar
 simp only [Sem.run_bind, ha, Result.andThen_ok, Bool.false_eq_true, if_false]
 simp [go_sem, hc]
theorem Rw.shape {x : World} {b n : Nat} {v : Value} (h : Rw x b v n) : ∃ p m c, v = .slice p m c := by
 obtain ⟨s, rfl, _⟩ := h.sl
 exact ⟨_, _, _, rfl⟩
theorem i1_S : (Tryz.prog.info? 25).map (·.size) = some 1 := by kernel_rfl
section
variable {w9 w : World} {l : Sl} {k : Nat} {C R : Nat → Value} {n : Nat → Nat} {o : Oper} {a : Act} {K : Act → World → Prop} {Q : Exit → Act → World → Prop}
theorem wp_loadFi (h : Fi w9 l k C R n w) (j : Nat) (hj : j < 4) (x : Operand) (ho : o.op = .load 25 x) (hx : a.eval x = .pointer (some ⟨w9.heap.size + 3, j, none⟩)) (hs : ∃ p m c, C j = .slice p m c) (hk : K (a.put o.dst (C j)) w) : o.wp Tryz.prog a w K Q := by
 obtain ⟨p, m, c, e⟩ := hs
 have hr := loadS w (w9.heap.size + 3) j p m c (by rw [h.tc j hj, e])
 rw [e] at hk
 unfold Oper.wp execOp
 simp only [ho, hx, Instr.loadAt, Instr.sureAddr, Sem.run_bind, Sem.run_pure, Result.andThen_ok, hr]
 exact hk
theorem wp_appFi (h : Fi w9 l k C R n w) (j : Nat) (hj : j < 4) (s x : Operand) (ho : o.op = .call { callee := .builtin .append, args := #[s, x], argTypes := #[25, 25] }) (v : Value) (hs : a.eval s = v) (hv : R j = v) (tb : Nat) (hx : a.eval x = .slice (some ⟨tb, 0, none⟩) 1 1) (r : E4) (hc : w.rangeAt tb 0 [.int .u64 r.x0, .int .u64 r.x1, .int .u64 r.x2, .int .u64 r.x3]) (ok : r.ok) (hn : n j ≤ 100000)
  (hk : ∀ v' w', Fi w9 l k C (upd R j v') (upd n j (n j + 1)) w' → K (a.put o.dst v') w') : o.wp Tryz.prog a w K Q := by
 obtain ⟨g, hown, hg⟩ := h.rw j hj
 have HI : (Tryz.prog.info? 35) = some (Tryz.prog.info? 35).get! := by kernel_rfl
 refine wp_appG s x 25 ho (w9.heap.size + 4) 35 _ (.agg #[.int .u64 0, .int .u64 0, .int .u64 0, .int .u64 0]) 4 32 (by kernel_rfl) HI (by kernel_rfl) (by kernel_rfl) (by kernel_rfl) rfl (by decide) (R j) (n j) (s4s (n j) g) (hs.trans hv.symm) hown ⟨tb, 0, none⟩ 1 1 [.int .u64 r.x0, .int .u64 r.x1, .int .u64 r.x2, .int .u64 r.x3] hx rfl (fun d u hu => by rw [Addr.add_mid]; exact hc d u hu) (by simp [Value.oneCell']) (by unfold maxLen; omega) (by omega) h.sz (fun v' w' h1 h2 h3 => hk v' w' (h.app j hj ⟨fun i => if i = n j then r else g i, ?_, fun i hi => ?_⟩ h2 h3))
 ·rw [s4s_succ, if_pos rfl, s4s_congr (g := g) (fun i hi => if_neg (by omega))]
  exact h1
 ·by_cases e : i = n j
  ·simp only [if_pos e]; exact ok
  ·simp only [if_neg e]; exact hg i (by omega)
theorem wp_storeFi (h : Fi w9 l k C R n w) (j : Nat) (hj : j < 4) (x y : Operand) (ho : o.op = .store 25 x y) (hd : o.dst = none) (v : Value) (hx : a.eval x = .pointer (some ⟨w9.heap.size + 3, j, none⟩)) (hy : a.eval y = v) (hv : R j = v) (hk : ∀ w', Fi w9 l k (upd C j v) R n w' → K a w') : o.wp Tryz.prog a w K Q := by
 obtain ⟨p, m, c, e⟩ := (h.rw j hj).shape
 obtain rfl : v = .slice p m c := hv.symm.trans e
 have ht : w.there (w9.heap.size + 3) j 1 := fun d hd => by
  obtain rfl : d = 0 := by omega
  have := h.tt j hj
  rwa [Nat.zero_add] at this
 refine wp_storeV 25 x y ho (w9.heap.size + 3) j p m c hx hy ht i1_S hd (fun w' hw => hk w' ?_)
 rw [hw]
 exact h.put j hj _
end
def pCet0 : String := "outright.go:58"
def pCet1 : String := "outright.go:64"
def ff70 : Oper := oO 19 (Op.fieldAddr 30 (Operand.tmp 9) 0) 0 pCet0 #[]
def ff71 : Oper := oO 20 (Op.load 25 (Operand.tmp 19)) 25 pCet0 #[DD 0]
def ff72 : Oper := oO 21 (Op.move (Operand.tmp 8)) 60 pCet0 #[]
def ff73 : Oper := oO 22 (Op.call { callee := Callee.value (Operand.tmp 21), args := #[], argTypes := #[] }) 35 pCet0 #[DD 2]
def ff74 : Oper := oO 23 (Op.buildSlice 25 1 #[(0, Operand.tmp 22)]) 25 pCet0 #[DD 3]
def ff75 : Oper := oO 24 (Op.call { callee := Callee.builtin Builtin.append, args := #[Operand.tmp 20, Operand.tmp 23], argTypes := #[25, 25] }) 25 pCet0 #[DD 1, DD 4, CH 3]
def ff76 : Oper := oO 25 (Op.fieldAddr 30 (Operand.tmp 9) 1) 0 pCet0 #[]
def ff77 : Oper := oO 26 (Op.load 25 (Operand.tmp 25)) 25 pCet0 #[DD 6]
def ff78 : Oper := oO 27 (Op.move (Operand.tmp 8)) 60 pCet0 #[]
def ff79 : Oper := oO 28 (Op.call { callee := Callee.value (Operand.tmp 27), args := #[], argTypes := #[] }) 35 pCet0 #[DD 8, CH 5]
def ff710 : Oper := oO 29 (Op.buildSlice 25 1 #[(0, Operand.tmp 28)]) 25 pCet0 #[DD 9]
def ff711 : Oper := oO 30 (Op.call { callee := Callee.builtin Builtin.append, args := #[Operand.tmp 26, Operand.tmp 29], argTypes := #[25, 25] }) 25 pCet0 #[DD 7, DD 10, CH 9]
def ff712 : Oper := oO 31 (Op.fieldAddr 30 (Operand.tmp 9) 2) 0 pCet0 #[]
def ff713 : Oper := oO 32 (Op.load 25 (Operand.tmp 31)) 25 pCet0 #[DD 12]
def ff714 : Oper := oO 33 (Op.move (Operand.tmp 8)) 60 pCet0 #[]
def ff715 : Oper := oO 34 (Op.call { callee := Callee.value (Operand.tmp 33), args := #[], argTypes := #[] }) 35 pCet0 #[DD 14, CH 11]
def ff716 : Oper := oO 35 (Op.buildSlice 25 1 #[(0, Operand.tmp 34)]) 25 pCet0 #[DD 15]
def ff717 : Oper := oO 36 (Op.call { callee := Callee.builtin Builtin.append, args := #[Operand.tmp 32, Operand.tmp 35], argTypes := #[25, 25] }) 25 pCet0 #[DD 13, DD 16, CH 15]
def ff718 : Oper := oO 37 (Op.fieldAddr 30 (Operand.tmp 9) 0) 0 pCet0 #[PH 0, PH 1, PH 2, PH 3, PH 4, PH 5, PH 6, PH 7, { on := 8, ground := Ground.textOnly Departure.lateStores }, { on := 9, ground := Ground.textOnly Departure.lateStoresUnsure }, { on := 10, ground := Ground.textOnly Departure.lateStores }, { on := 11, ground := Ground.textOnly Departure.lateStoresUnsure }, PH 12, PH 13, { on := 14, ground := Ground.textOnly Departure.lateStores }, { on := 15, ground := Ground.textOnly Departure.lateStoresUnsure }, { on := 16, ground := Ground.textOnly Departure.lateStores }, { on := 17, ground := Ground.textOnly Departure.lateStoresUnsure }]
def ff719 : Oper := oN (Op.store 25 (Operand.tmp 37) (Operand.tmp 24)) pCet0 #[DD 18, DD 5, CH 17, PH 0, PH 1, PH 2, PH 3, PH 4, PH 5, PH 6, PH 7, { on := 8, ground := Ground.textOnly Departure.lateStores }, { on := 9, ground := Ground.textOnly Departure.lateStoresUnsure }, { on := 10, ground := Ground.textOnly Departure.lateStores }, { on := 11, ground := Ground.textOnly Departure.lateStoresUnsure }, PH 12, PH 13, { on := 14, ground := Ground.textOnly Departure.lateStores }, { on := 15, ground := Ground.textOnly Departure.lateStoresUnsure }, { on := 16, ground := Ground.textOnly Departure.lateStores }, { on := 17, ground := Ground.textOnly Departure.lateStoresUnsure }]
def ff720 : Oper := oO 38 (Op.fieldAddr 30 (Operand.tmp 9) 1) 0 pCet0 #[PH 0, PH 1, PH 2, PH 3, PH 4, PH 5, PH 6, PH 7, PH 8, PH 9, PH 10, PH 11, PH 12, PH 13, { on := 14, ground := Ground.textOnly Departure.lateStores }, { on := 15, ground := Ground.textOnly Departure.lateStoresUnsure }, { on := 16, ground := Ground.textOnly Departure.lateStores }, { on := 17, ground := Ground.textOnly Departure.lateStoresUnsure }, PH 18, PH 19]
def ff721 : Oper := oN (Op.store 25 (Operand.tmp 38) (Operand.tmp 30)) pCet0 #[DD 20, DD 11, CH 19, PH 0, PH 1, PH 2, PH 3, PH 4, PH 5, PH 6, PH 7, PH 8, PH 9, PH 10, PH 11, PH 12, PH 13, { on := 14, ground := Ground.textOnly Departure.lateStores }, { on := 15, ground := Ground.textOnly Departure.lateStoresUnsure }, { on := 16, ground := Ground.textOnly Departure.lateStores }, { on := 17, ground := Ground.textOnly Departure.lateStoresUnsure }, PH 18, PH 19]
def ff722 : Oper := oO 39 (Op.fieldAddr 30 (Operand.tmp 9) 2) 0 pCet0 #[PH 0, PH 1, PH 2, PH 3, PH 4, PH 5, PH 6, PH 7, PH 8, PH 9, PH 10, PH 11, PH 12, PH 13, PH 14, PH 15, PH 16, PH 17, PH 18, PH 19, PH 20, PH 21]
def ff723 : Oper := oN (Op.store 25 (Operand.tmp 39) (Operand.tmp 36)) pCet0 #[DD 22, DD 17, CH 21, PH 0, PH 1, PH 2, PH 3, PH 4, PH 5, PH 6, PH 7, PH 8, PH 9, PH 10, PH 11, PH 12, PH 13, PH 14, PH 15, PH 16, PH 17, PH 18, PH 19, PH 20, PH 21]
def ff7o : Array Oper := #[ff70, ff71, ff72, ff73, ff74, ff75, ff76, ff77, ff78, ff79, ff710, ff711, ff712, ff713, ff714, ff715, ff716, ff717, ff718, ff719, ff720, ff721, ff722, ff723]
structure ff7h (w9 : World) (l : Sl) (k : Nat) (R : Nat → Value) (n : Nat → Nat) (W : World) : Prop where
 FI0 : Hid (Fi w9 l k R R n W)
 CN : Hid (∀ (k' : Nat) (C R : Nat → Value) (n : Nat → Nat) (x : World), k' ≤ 1000000 → Fi w9 l k' C R n x → Calls Tryz.prog 26 #[.pointer (some ⟨w9.heap.size + 2, 0, none⟩), .pointer (some ⟨w9.heap.size, 0, none⟩)] x fun e y => ∃ r : E4, e = .returned (.agg #[.int .u64 r.x0, .int .u64 r.x1, .int .u64 r.x2, .int .u64 r.x3]) ∧ r.ok ∧ Fi w9 l (k' + 1) C R n y)
 HK : Hid (k + 3 ≤ 1000000)
 NJ0 : Hid (n 0 ≤ 100000)
 NJ1 : Hid (n 1 ≤ 100000)
 NJ2 : Hid (n 2 ≤ 100000)
def ff7S (U : Nat → Value) (w9 : World) (l : Sl) (k : Nat) (R : Nat → Value) (n : Nat → Nat) (r1 : E4) (t1 : Nat) (v1 : Value) (r2 : E4) (t2 : Nat) (v2 : Value) (r3 : E4) (t3 : Nat) (v3 : Value) (F : Nat → Bool) : Array Value := #[(U 0), (U 1), (U 2), (U 3), (U 4), (U 5), (U 6), (U 7), (.func (.func 26) #[] #[.pointer (some ⟨w9.heap.size + 2, 0, none⟩), .pointer (some ⟨w9.heap.size, 0, none⟩)]), (.pointer (some ⟨w9.heap.size + 3, 0, none⟩)), (U 10), (U 11), (U 12), (U 13), (U 14), (U 15), (U 16), (U 17), (U 18), sel (F 0) (.pointer (some ⟨w9.heap.size + 3, 0, none⟩)) (U 19), sel (F 1) ((R 0)) (U 20), sel (F 2) (.func (.func 26) #[] #[.pointer (some ⟨w9.heap.size + 2, 0, none⟩), .pointer (some ⟨w9.heap.size, 0, none⟩)]) (U 21), sel (F 3) (.agg #[.int .u64 r1.x0, .int .u64 r1.x1, .int .u64 r1.x2, .int .u64 r1.x3]) (U 22), sel (F 4) (.slice (some ⟨t1, 0, none⟩) 1 1) (U 23), sel (F 5) (v1) (U 24), sel (F 6) (.pointer (some ⟨w9.heap.size + 3, 1, none⟩)) (U 25), sel (F 7) ((R 1)) (U 26), sel (F 8) (.func (.func 26) #[] #[.pointer (some ⟨w9.heap.size + 2, 0, none⟩), .pointer (some ⟨w9.heap.size, 0, none⟩)]) (U 27), sel (F 9) (.agg #[.int .u64 r2.x0, .int .u64 r2.x1, .int .u64 r2.x2, .int .u64 r2.x3]) (U 28), sel (F 10) (.slice (some ⟨t2, 0, none⟩) 1 1) (U 29), sel (F 11) (v2) (U 30), sel (F 12) (.pointer (some ⟨w9.heap.size + 3, 2, none⟩)) (U 31), sel (F 13) ((R 2)) (U 32), sel (F 14) (.func (.func 26) #[] #[.pointer (some ⟨w9.heap.size + 2, 0, none⟩), .pointer (some ⟨w9.heap.size, 0, none⟩)]) (U 33), sel (F 15) (.agg #[.int .u64 r3.x0, .int .u64 r3.x1, .int .u64 r3.x2, .int .u64 r3.x3]) (U 34), sel (F 16) (.slice (some ⟨t3, 0, none⟩) 1 1) (U 35), sel (F 17) (v3) (U 36), sel (F 18) (.pointer (some ⟨w9.heap.size + 3, 0, none⟩)) (U 37), sel (F 20) (.pointer (some ⟨w9.heap.size + 3, 1, none⟩)) (U 38), sel (F 22) (.pointer (some ⟨w9.heap.size + 3, 2, none⟩)) (U 39), (U 40), (U 41), (U 42), (U 43), (U 44), (U 45), (U 46), (U 47), (U 48), (U 49), (U 50), (U 51), (U 52), (U 53), (U 54), (U 55), (U 56), (U 57), (U 58), (U 59), (U 60), (U 61), (U 62), (U 63), (U 64), (U 65), (U 66), (U 67), (U 68), (U 69)]
def ff7F (w9 : World) (l : Sl) (k : Nat) (R : Nat → Value) (n : Nat → Nat) (r1 : E4) (t1 : Nat) (v1 : Value) (r2 : E4) (t2 : Nat) (v2 : Value) (r3 : E4) (t3 : Nat) (v3 : Value) (W : World) (F : Nat → Bool) (w : World) : Prop := Hid (Below w9.heap.size w9 w) ∧ Hid (F 3 = true → F 5 = false → r1.ok) ∧ Hid (F 4 = true → F 5 = false → w.rangeAt t1 0 [.int .u64 r1.x0, .int .u64 r1.x1, .int .u64 r1.x2, .int .u64 r1.x3]) ∧ Hid (F 9 = true → F 11 = false → r2.ok) ∧ Hid (F 10 = true → F 11 = false → w.rangeAt t2 0 [.int .u64 r2.x0, .int .u64 r2.x1, .int .u64 r2.x2, .int .u64 r2.x3]) ∧ Hid (F 15 = true → F 17 = false → r3.ok) ∧ Hid (F 16 = true → F 17 = false → w.rangeAt t3 0 [.int .u64 r3.x0, .int .u64 r3.x1, .int .u64 r3.x2, .int .u64 r3.x3]) ∧ Hid (Fi w9 l (add1 (F 15) (add1 (F 9) (add1 (F 3) k))) (updb (F 23) (updb (F 21) (updb (F 19) R 0 v1) 1 v2) 2 v3) (updb (F 17) (updb (F 11) (updb (F 5) R 0 v1) 1 v2) 2 v3) (updn (F 17) (updn (F 11) (updn (F 5) n 0 (n 0 + 1)) 1 (n 1 + 1)) 2 (n 2 + 1)) w)
def ff7I (w9 : World) (l : Sl) (k : Nat) (R : Nat → Value) (n : Nat → Nat) (U : Nat → Value) (W : World) (F : Nat → Bool) (a : Act) (w : World) : Prop := ∃ (r1 : E4) (t1 : Nat) (v1 : Value) (r2 : E4) (t2 : Nat) (v2 : Value) (r3 : E4) (t3 : Nat) (v3 : Value), a = ⟨ff7S U w9 l k R n r1 t1 v1 r2 t2 v2 r3 t3 v3 F, []⟩ ∧ ff7F w9 l k R n r1 t1 v1 r2 t2 v2 r3 t3 v3 W F w
def ff7f (Q : Exit → Act → World → Prop) (w9 : World) (l : Sl) (k : Nat) (R : Nat → Value) (n : Nat → Nat) (U : Nat → Value) (W : World) : Prop := ∀ (wz : World) (r1 r2 r3 : E4) (t1 t2 t3 : Nat) (v1 v2 v3 : Value), Fi w9 l (((k + 1) + 1) + 1) (upd (upd (upd R 0 v1) 1 v2) 2 v3) (upd (upd (upd R 0 v1) 1 v2) 2 v3) (upd (upd (upd n 0 (n 0 + 1)) 1 (n 1 + 1)) 2 (n 2 + 1)) wz → Q .normal ⟨ff7S U w9 l k R n r1 t1 v1 r2 t2 v2 r3 t3 v3 (fun _ => true), []⟩ wz
def ff7T (Q : Exit → Act → World → Prop) (w9 : World) (l : Sl) (k : Nat) (R : Nat → Value) (n : Nat → Nat) (U : Nat → Value) (W : World) (i : Nat) : Prop := ff7h w9 l k R n W → ∀ (F : Nat → Bool) (a : Act) (w : World), F i = false → (∀ k, (dp .any ff7o i).contains k = true → F k = true) → clo .any ff7o F → ff7I w9 l k R n U W F a w → wpOp Tryz.prog ff7o (NoPanic Q) i (fun a w => ff7I w9 l k R n U W (up F i) a w) a w
section
variable {Q : Exit → Act → World → Prop} {w9 : World} {l : Sl} {k : Nat} {R : Nat → Value} {n : Nat → Nat} {U : Nat → Value} {W : World}
theorem ff7_0 : ff7T Q w9 l k R n U W 0 := by
 intro H F a w hz hd cl I
 obtain ⟨FI0, CN, HK, NJ0, NJ1, NJ2⟩ := H
 obtain ⟨r1, t1, v1, r2, t2, v2, r3, t3, v3, rfl, I⟩ := I
 refine wpOp_val ff70 (.pointer (some ⟨w9.heap.size + 3, 0, none⟩)) rfl rfl ?_ ⟨r1, t1, v1, r2, t2, v2, r3, t3, v3, ?_, I⟩
 ·(clear I; unfold ff70 oO; simp only [ff7S, selT]; go_simp)
 ·(unfold ff70 oO; simp only [ff7S, Act.put, sA, sB, sC]; rfl)
theorem ff7_1 : ff7T Q w9 l k R n U W 1 := by
 intro H F a w hz hd cl I
 obtain ⟨FI0, CN, HK, NJ0, NJ1, NJ2⟩ := H
 obtain ⟨r1, t1, v1, r2, t2, v2, r3, t3, v3, rfl, HH_, OK1_, CK1_, OK2_, CK2_, OK3_, CK3_, FI_⟩ := I
 have d0 := hd 0 rfl
 have n5 := nT hz cl 5
 have n9 := nT hz cl 9
 have n10 := nT hz cl 10
 have n11 := nT hz cl 11
 have n15 := nT hz cl 15
 have n16 := nT hz cl 16
 have n17 := nT hz cl 17
 have n19 := nT hz cl 19
 have n21 := nT hz cl 21
 have n23 := nT hz cl 23
 refine wpOp_step (o := ff71) rfl (fun K hK => ?_)
 replace hK := Hn hK
 simp only [ff7S, selT, selF, d0, n5, n9, n10, n11, n15, n16, n17, n19, n21, n23]
 clear cl hd
 have HH := HH_
 have FI := Hn (by have h := FI_.out; simp only [n9, n15, n5, n11, n17, n19, n21, n23, add1T, add1F, updbT, updbF, updnT, updnF] at h; exact h)
 refine wp_loadFi FI.out 0 (by omega) _ rfl rfl (Rw.shape (FI0.out.rw 0 (by omega))) ?_
 unfold ff71 oO
 refine hK.out _ _ ⟨r1, t1, v1, r2, t2, v2, r3, t3, v3, ?_, HH_, OK1_, CK1_, Hn (fun h9 h11 => tf h9 n9), Hn (fun h10 h11 => tf h10 n10), Hn (fun h15 h17 => tf h15 n15), Hn (fun h16 h17 => tf h16 n16), FI_⟩
 simp only [ff7S, Act.put, sA, sB, sC, selT, selF, uT d0, uN 1 n5, uN 1 n9, uN 1 n10, uN 1 n11, uN 1 n15, uN 1 n16, uN 1 n17, uN 1 n19, uN 1 n21, uN 1 n23]
 rfl
theorem ff7_2 : ff7T Q w9 l k R n U W 2 := by
 intro H F a w hz hd cl I
 obtain ⟨FI0, CN, HK, NJ0, NJ1, NJ2⟩ := H
 obtain ⟨r1, t1, v1, r2, t2, v2, r3, t3, v3, rfl, I⟩ := I
 refine wpOp_val ff72 (.func (.func 26) #[] #[.pointer (some ⟨w9.heap.size + 2, 0, none⟩), .pointer (some ⟨w9.heap.size, 0, none⟩)]) rfl rfl ?_ ⟨r1, t1, v1, r2, t2, v2, r3, t3, v3, ?_, I⟩
 ·(clear I; unfold ff72 oO; simp only [ff7S, selT]; go_simp)
 ·(unfold ff72 oO; simp only [ff7S, Act.put, sA, sB, sC]; rfl)
theorem ff7_3 : ff7T Q w9 l k R n U W 3 := by
 intro H F a w hz hd cl I
 obtain ⟨FI0, CN, HK, NJ0, NJ1, NJ2⟩ := H
 obtain ⟨r1, t1, v1, r2, t2, v2, r3, t3, v3, rfl, HH_, OK1_, CK1_, OK2_, CK2_, OK3_, CK3_, FI_⟩ := I
 have d2 := hd 2 rfl
 have n4 := nT hz cl 4
 have n5 := nT hz cl 5
 have n9 := nT hz cl 9
 have n10 := nT hz cl 10
 have n11 := nT hz cl 11
 have n15 := nT hz cl 15
 have n16 := nT hz cl 16
 have n17 := nT hz cl 17
 have n19 := nT hz cl 19
 have n21 := nT hz cl 21
 have n23 := nT hz cl 23
 refine wpOp_step (o := ff73) rfl (fun K hK => ?_)
 replace hK := Hn hK
 simp only [ff7S, selT, selF, d2, n4, n5, n9, n10, n11, n15, n16, n17, n19, n21, n23]
 clear cl hd
 have HH := HH_
 have FI := Hn (by have h := FI_.out; simp only [hz, n9, n15, n5, n11, n17, n19, n21, n23, add1T, add1F, updbT, updbF, updnT, updnF] at h; exact h)
 unfold ff73 oO
 go_simp
 refine (CN.out _ _ _ _ _ (by have := HK.out; omega) FI.out).mono ?_
 rintro e w2 ⟨r1, rfl, okr, hf⟩
 have SN := Hn (hf.bel : Below w9.heap.size w9 w2)
 go_wp2_with fail
 refine hK.out _ _ ⟨r1, t1, v1, r2, t2, v2, r3, t3, v3, ?_, SN, Hn (fun h3 h5 => by exact okr), Hn (fun h4 h5 => tf h4 n4), Hn (fun h9 h11 => tf h9 n9), Hn (fun h10 h11 => tf h10 n10), Hn (fun h15 h17 => tf h15 n15), Hn (fun h16 h17 => tf h16 n16), Hn (by simp only [uS F 3, uN 3 n9, uN 3 n15, uN 3 n5, uN 3 n11, uN 3 n17, uN 3 n19, uN 3 n21, uN 3 n23, add1T, add1F, updbT, updbF, updnT, updnF]; exact hf)⟩
 simp only [ff7S, Act.put, sA, sB, sC, selT, selF, uT d2, uN 3 n4, uN 3 n5, uN 3 n9, uN 3 n10, uN 3 n11, uN 3 n15, uN 3 n16, uN 3 n17, uN 3 n19, uN 3 n21, uN 3 n23]
 rfl
theorem ff7_4 : ff7T Q w9 l k R n U W 4 := by
 intro H F a w hz hd cl I
 obtain ⟨FI0, CN, HK, NJ0, NJ1, NJ2⟩ := H
 obtain ⟨r1, t1, v1, r2, t2, v2, r3, t3, v3, rfl, HH_, OK1_, CK1_, OK2_, CK2_, OK3_, CK3_, FI_⟩ := I
 have d3 := hd 3 rfl
 have n9 := nT hz cl 9
 have n10 := nT hz cl 10
 have n15 := nT hz cl 15
 have n16 := nT hz cl 16
 refine wpOp_step (o := ff74) rfl (fun K hK => ?_)
 replace hK := Hn hK
 simp only [ff7S, selT, selF, d3, n9, n10, n15, n16]
 clear cl hd
 have HH := HH_
 refine wp_build1P _ rfl r1 rfl (fun t1 w2 htb hwq => ?_)
 have hbb : Below w.heap.size w w2 := (by rw [hwq]; exact bl_alloc _ _)
 have SN := Hn (by rw [hwq]; exact bl_trans HH.out (bl_alloc _ _) : Below w9.heap.size w9 w2)
 unfold ff74 oO
 refine hK.out _ _ ⟨r1, t1, v1, r2, t2, v2, r3, t3, v3, ?_, SN, OK1_, Hn (fun h4 h5 => by rw [htb, hwq]; exact range_newM _ _ _), Hn (fun h9 h11 => tf h9 n9), Hn (fun h10 h11 => tf h10 n10), Hn (fun h15 h17 => tf h15 n15), Hn (fun h16 h17 => tf h16 n16), Hn (by have FI := FI_; exact FI.out.keep hbb)⟩
 simp only [ff7S, Act.put, sA, sB, sC, selT, selF, uT d3, uN 4 n9, uN 4 n10, uN 4 n15, uN 4 n16]
 rfl
theorem ff7_5 : ff7T Q w9 l k R n U W 5 := by
 intro H F a w hz hd cl I
 obtain ⟨FI0, CN, HK, NJ0, NJ1, NJ2⟩ := H
 obtain ⟨r1, t1, v1, r2, t2, v2, r3, t3, v3, rfl, HH_, OK1_, CK1_, OK2_, CK2_, OK3_, CK3_, FI_⟩ := I
 have d4 := hd 4 rfl
 have d3 := hd 3 rfl
 have d1 := hd 1 rfl
 have n9 := nT hz cl 9
 have n10 := nT hz cl 10
 have n11 := nT hz cl 11
 have n15 := nT hz cl 15
 have n16 := nT hz cl 16
 have n17 := nT hz cl 17
 have n19 := nT hz cl 19
 have n21 := nT hz cl 21
 have n23 := nT hz cl 23
 refine wpOp_step (o := ff75) rfl (fun K hK => ?_)
 replace hK := Hn hK
 simp only [ff7S, selT, selF, d1, d3, d4, n9, n10, n11, n15, n16, n17, n19, n21, n23]
 clear cl hd
 have HH := HH_
 have OK1 := Hn (OK1_.out d3 hz); have CK1 := Hn (CK1_.out d4 hz); have FI := Hn (by have h := FI_.out; simp only [d3, n9, n15, hz, n11, n17, n19, n21, n23, add1T, add1F, updbT, updbF, updnT, updnF] at h; exact h)
 refine wp_appFi FI.out 0 (by omega) _ _ rfl _ rfl rfl t1 rfl r1 CK1.out OK1.out NJ0.out (fun v1 w2 hf => ?_)
 have SN := Hn (hf.bel : Below w9.heap.size w9 w2)
 unfold ff75 oO
 refine hK.out _ _ ⟨r1, t1, v1, r2, t2, v2, r3, t3, v3, ?_, SN, Hn (fun h3 h5 => tr h5), Hn (fun h4 h5 => tr h5), Hn (fun h9 h11 => tf h9 n9), Hn (fun h10 h11 => tf h10 n10), Hn (fun h15 h17 => tf h15 n15), Hn (fun h16 h17 => tf h16 n16), Hn (by simp only [uT d3, uN 5 n9, uN 5 n15, uS F 5, uN 5 n11, uN 5 n17, uN 5 n19, uN 5 n21, uN 5 n23, add1T, add1F, updbT, updbF, updnT, updnF]; exact hf)⟩
 simp only [ff7S, Act.put, sA, sB, sC, selT, selF, uT d1, uT d3, uT d4, uN 5 n9, uN 5 n10, uN 5 n11, uN 5 n15, uN 5 n16, uN 5 n17, uN 5 n19, uN 5 n21, uN 5 n23]
 rfl
theorem ff7_6 : ff7T Q w9 l k R n U W 6 := by
 intro H F a w hz hd cl I
 obtain ⟨FI0, CN, HK, NJ0, NJ1, NJ2⟩ := H
 obtain ⟨r1, t1, v1, r2, t2, v2, r3, t3, v3, rfl, I⟩ := I
 refine wpOp_val ff76 (.pointer (some ⟨w9.heap.size + 3, 1, none⟩)) rfl rfl ?_ ⟨r1, t1, v1, r2, t2, v2, r3, t3, v3, ?_, I⟩
 ·(clear I; unfold ff76 oO; simp only [ff7S, selT]; go_simp)
 ·(unfold ff76 oO; simp only [ff7S, Act.put, sA, sB, sC]; rfl)
theorem ff7_7 : ff7T Q w9 l k R n U W 7 := by
 intro H F a w hz hd cl I
 obtain ⟨FI0, CN, HK, NJ0, NJ1, NJ2⟩ := H
 obtain ⟨r1, t1, v1, r2, t2, v2, r3, t3, v3, rfl, HH_, OK1_, CK1_, OK2_, CK2_, OK3_, CK3_, FI_⟩ := I
 have d6 := hd 6 rfl
 have n11 := nT hz cl 11
 have n15 := nT hz cl 15
 have n16 := nT hz cl 16
 have n17 := nT hz cl 17
 have n19 := nT hz cl 19
 have n21 := nT hz cl 21
 have n23 := nT hz cl 23
 refine wpOp_step (o := ff77) rfl (fun K hK => ?_)
 replace hK := Hn hK
 simp only [ff7S, selT, selF, d6, n11, n15, n16, n17, n19, n21, n23]
 clear cl hd
 have HH := HH_
 have FI := Hn (by have h := FI_.out; simp only [n15, n11, n17, n19, n21, n23, add1T, add1F, updbT, updbF, updnT, updnF] at h; exact h)
 refine wp_loadFi FI.out 1 (by omega) _ rfl rfl (Rw.shape (FI0.out.rw 1 (by omega))) ?_
 unfold ff77 oO
 refine hK.out _ _ ⟨r1, t1, v1, r2, t2, v2, r3, t3, v3, ?_, HH_, OK1_, CK1_, OK2_, CK2_, Hn (fun h15 h17 => tf h15 n15), Hn (fun h16 h17 => tf h16 n16), FI_⟩
 simp only [ff7S, Act.put, sA, sB, sC, selT, selF, uT d6, uN 7 n11, uN 7 n15, uN 7 n16, uN 7 n17, uN 7 n19, uN 7 n21, uN 7 n23]
 rfl
theorem ff7_8 : ff7T Q w9 l k R n U W 8 := by
 intro H F a w hz hd cl I
 obtain ⟨FI0, CN, HK, NJ0, NJ1, NJ2⟩ := H
 obtain ⟨r1, t1, v1, r2, t2, v2, r3, t3, v3, rfl, I⟩ := I
 refine wpOp_val ff78 (.func (.func 26) #[] #[.pointer (some ⟨w9.heap.size + 2, 0, none⟩), .pointer (some ⟨w9.heap.size, 0, none⟩)]) rfl rfl ?_ ⟨r1, t1, v1, r2, t2, v2, r3, t3, v3, ?_, I⟩
 ·(clear I; unfold ff78 oO; simp only [ff7S, selT]; go_simp)
 ·(unfold ff78 oO; simp only [ff7S, Act.put, sA, sB, sC]; rfl)
theorem ff7_9 : ff7T Q w9 l k R n U W 9 := by
 intro H F a w hz hd cl I
 obtain ⟨FI0, CN, HK, NJ0, NJ1, NJ2⟩ := H
 obtain ⟨r1, t1, v1, r2, t2, v2, r3, t3, v3, rfl, HH_, OK1_, CK1_, OK2_, CK2_, OK3_, CK3_, FI_⟩ := I
 have d8 := hd 8 rfl
 have d5 := hd 5 rfl
 have d3 := dT hd cl 3
 have n10 := nT hz cl 10
 have n11 := nT hz cl 11
 have n15 := nT hz cl 15
 have n16 := nT hz cl 16
 have n17 := nT hz cl 17
 have n19 := nT hz cl 19
 have n21 := nT hz cl 21
 have n23 := nT hz cl 23
 refine wpOp_step (o := ff79) rfl (fun K hK => ?_)
 replace hK := Hn hK
 simp only [ff7S, selT, selF, d3, d5, d8, n10, n11, n15, n16, n17, n19, n21, n23]
 clear cl hd
 have HH := HH_
 have FI := Hn (by have h := FI_.out; simp only [d3, hz, n15, d5, n11, n17, n19, n21, n23, add1T, add1F, updbT, updbF, updnT, updnF] at h; exact h)
 unfold ff79 oO
 go_simp
 refine (CN.out _ _ _ _ _ (by have := HK.out; omega) FI.out).mono ?_
 rintro e w2 ⟨r2, rfl, okr, hf⟩
 have SN := Hn (hf.bel : Below w9.heap.size w9 w2)
 go_wp2_with fail
 refine hK.out _ _ ⟨r1, t1, v1, r2, t2, v2, r3, t3, v3, ?_, SN, Hn (fun h3 h5 => tf d5 h5), Hn (fun h4 h5 => tf d5 h5), Hn (fun h9 h11 => by exact okr), Hn (fun h10 h11 => tf h10 n10), Hn (fun h15 h17 => tf h15 n15), Hn (fun h16 h17 => tf h16 n16), Hn (by simp only [uT d3, uS F 9, uN 9 n15, uT d5, uN 9 n11, uN 9 n17, uN 9 n19, uN 9 n21, uN 9 n23, add1T, add1F, updbT, updbF, updnT, updnF]; exact hf)⟩
 simp only [ff7S, Act.put, sA, sB, sC, selT, selF, uT d3, uT d5, uT d8, uN 9 n10, uN 9 n11, uN 9 n15, uN 9 n16, uN 9 n17, uN 9 n19, uN 9 n21, uN 9 n23]
 rfl
theorem ff7_10 : ff7T Q w9 l k R n U W 10 := by
 intro H F a w hz hd cl I
 obtain ⟨FI0, CN, HK, NJ0, NJ1, NJ2⟩ := H
 obtain ⟨r1, t1, v1, r2, t2, v2, r3, t3, v3, rfl, HH_, OK1_, CK1_, OK2_, CK2_, OK3_, CK3_, FI_⟩ := I
 have d9 := hd 9 rfl
 have d5 := dT hd cl 5
 have n15 := nT hz cl 15
 have n16 := nT hz cl 16
 refine wpOp_step (o := ff710) rfl (fun K hK => ?_)
 replace hK := Hn hK
 simp only [ff7S, selT, selF, d5, d9, n15, n16]
 clear cl hd
 have HH := HH_
 refine wp_build1P _ rfl r2 rfl (fun t2 w2 htb hwq => ?_)
 have hbb : Below w.heap.size w w2 := (by rw [hwq]; exact bl_alloc _ _)
 have SN := Hn (by rw [hwq]; exact bl_trans HH.out (bl_alloc _ _) : Below w9.heap.size w9 w2)
 unfold ff710 oO
 refine hK.out _ _ ⟨r1, t1, v1, r2, t2, v2, r3, t3, v3, ?_, SN, Hn (fun h3 h5 => tf d5 h5), Hn (fun h4 h5 => tf d5 h5), OK2_, Hn (fun h10 h11 => by rw [htb, hwq]; exact range_newM _ _ _), Hn (fun h15 h17 => tf h15 n15), Hn (fun h16 h17 => tf h16 n16), Hn (by have FI := FI_; exact FI.out.keep hbb)⟩
 simp only [ff7S, Act.put, sA, sB, sC, selT, selF, uT d5, uT d9, uN 10 n15, uN 10 n16]
 rfl
theorem ff7_11 : ff7T Q w9 l k R n U W 11 := by
 intro H F a w hz hd cl I
 obtain ⟨FI0, CN, HK, NJ0, NJ1, NJ2⟩ := H
 obtain ⟨r1, t1, v1, r2, t2, v2, r3, t3, v3, rfl, HH_, OK1_, CK1_, OK2_, CK2_, OK3_, CK3_, FI_⟩ := I
 have d10 := hd 10 rfl
 have d9 := hd 9 rfl
 have d7 := hd 7 rfl
 have d5 := dT hd cl 5
 have d3 := dT hd cl 3
 have n15 := nT hz cl 15
 have n16 := nT hz cl 16
 have n17 := nT hz cl 17
 have n19 := nT hz cl 19
 have n21 := nT hz cl 21
 have n23 := nT hz cl 23
 refine wpOp_step (o := ff711) rfl (fun K hK => ?_)
 replace hK := Hn hK
 simp only [ff7S, selT, selF, d3, d5, d7, d9, d10, n15, n16, n17, n19, n21, n23]
 clear cl hd
 have HH := HH_
 have OK2 := Hn (OK2_.out d9 hz); have CK2 := Hn (CK2_.out d10 hz); have FI := Hn (by have h := FI_.out; simp only [d3, d9, n15, d5, hz, n17, n19, n21, n23, add1T, add1F, updbT, updbF, updnT, updnF] at h; exact h)
 refine wp_appFi FI.out 1 (by omega) _ _ rfl _ rfl rfl t2 rfl r2 CK2.out OK2.out NJ1.out (fun v2 w2 hf => ?_)
 have SN := Hn (hf.bel : Below w9.heap.size w9 w2)
 unfold ff711 oO
 refine hK.out _ _ ⟨r1, t1, v1, r2, t2, v2, r3, t3, v3, ?_, SN, Hn (fun h3 h5 => tf d5 h5), Hn (fun h4 h5 => tf d5 h5), Hn (fun h9 h11 => tr h11), Hn (fun h10 h11 => tr h11), Hn (fun h15 h17 => tf h15 n15), Hn (fun h16 h17 => tf h16 n16), Hn (by simp only [uT d3, uT d9, uN 11 n15, uT d5, uS F 11, uN 11 n17, uN 11 n19, uN 11 n21, uN 11 n23, add1T, add1F, updbT, updbF, updnT, updnF]; exact hf)⟩
 simp only [ff7S, Act.put, sA, sB, sC, selT, selF, uT d3, uT d5, uT d7, uT d9, uT d10, uN 11 n15, uN 11 n16, uN 11 n17, uN 11 n19, uN 11 n21, uN 11 n23]
 rfl
theorem ff7_12 : ff7T Q w9 l k R n U W 12 := by
 intro H F a w hz hd cl I
 obtain ⟨FI0, CN, HK, NJ0, NJ1, NJ2⟩ := H
 obtain ⟨r1, t1, v1, r2, t2, v2, r3, t3, v3, rfl, I⟩ := I
 refine wpOp_val ff712 (.pointer (some ⟨w9.heap.size + 3, 2, none⟩)) rfl rfl ?_ ⟨r1, t1, v1, r2, t2, v2, r3, t3, v3, ?_, I⟩
 ·(clear I; unfold ff712 oO; simp only [ff7S, selT]; go_simp)
 ·(unfold ff712 oO; simp only [ff7S, Act.put, sA, sB, sC]; rfl)
theorem ff7_13 : ff7T Q w9 l k R n U W 13 := by
 intro H F a w hz hd cl I
 obtain ⟨FI0, CN, HK, NJ0, NJ1, NJ2⟩ := H
 obtain ⟨r1, t1, v1, r2, t2, v2, r3, t3, v3, rfl, HH_, OK1_, CK1_, OK2_, CK2_, OK3_, CK3_, FI_⟩ := I
 have d12 := hd 12 rfl
 have n17 := nT hz cl 17
 have n19 := nT hz cl 19
 have n21 := nT hz cl 21
 have n23 := nT hz cl 23
 refine wpOp_step (o := ff713) rfl (fun K hK => ?_)
 replace hK := Hn hK
 simp only [ff7S, selT, selF, d12, n17, n19, n21, n23]
 clear cl hd
 have HH := HH_
 have FI := Hn (by have h := FI_.out; simp only [n17, n19, n21, n23, add1T, add1F, updbT, updbF, updnT, updnF] at h; exact h)
 refine wp_loadFi FI.out 2 (by omega) _ rfl rfl (Rw.shape (FI0.out.rw 2 (by omega))) ?_
 unfold ff713 oO
 refine hK.out _ _ ⟨r1, t1, v1, r2, t2, v2, r3, t3, v3, ?_, HH_, OK1_, CK1_, OK2_, CK2_, OK3_, CK3_, FI_⟩
 simp only [ff7S, Act.put, sA, sB, sC, selT, selF, uT d12, uN 13 n17, uN 13 n19, uN 13 n21, uN 13 n23]
 rfl
theorem ff7_14 : ff7T Q w9 l k R n U W 14 := by
 intro H F a w hz hd cl I
 obtain ⟨FI0, CN, HK, NJ0, NJ1, NJ2⟩ := H
 obtain ⟨r1, t1, v1, r2, t2, v2, r3, t3, v3, rfl, I⟩ := I
 refine wpOp_val ff714 (.func (.func 26) #[] #[.pointer (some ⟨w9.heap.size + 2, 0, none⟩), .pointer (some ⟨w9.heap.size, 0, none⟩)]) rfl rfl ?_ ⟨r1, t1, v1, r2, t2, v2, r3, t3, v3, ?_, I⟩
 ·(clear I; unfold ff714 oO; simp only [ff7S, selT]; go_simp)
 ·(unfold ff714 oO; simp only [ff7S, Act.put, sA, sB, sC]; rfl)
theorem ff7_15 : ff7T Q w9 l k R n U W 15 := by
 intro H F a w hz hd cl I
 obtain ⟨FI0, CN, HK, NJ0, NJ1, NJ2⟩ := H
 obtain ⟨r1, t1, v1, r2, t2, v2, r3, t3, v3, rfl, HH_, OK1_, CK1_, OK2_, CK2_, OK3_, CK3_, FI_⟩ := I
 have d14 := hd 14 rfl
 have d11 := hd 11 rfl
 have d9 := dT hd cl 9
 have d5 := dT hd cl 5
 have d3 := dT hd cl 3
 have n16 := nT hz cl 16
 have n17 := nT hz cl 17
 have n19 := nT hz cl 19
 have n21 := nT hz cl 21
 have n23 := nT hz cl 23
 refine wpOp_step (o := ff715) rfl (fun K hK => ?_)
 replace hK := Hn hK
 simp only [ff7S, selT, selF, d3, d5, d9, d11, d14, n16, n17, n19, n21, n23]
 clear cl hd
 have HH := HH_
 have FI := Hn (by have h := FI_.out; simp only [d3, d9, hz, d5, d11, n17, n19, n21, n23, add1T, add1F, updbT, updbF, updnT, updnF] at h; exact h)
 unfold ff715 oO
 go_simp
 refine (CN.out _ _ _ _ _ (by have := HK.out; omega) FI.out).mono ?_
 rintro e w2 ⟨r3, rfl, okr, hf⟩
 have SN := Hn (hf.bel : Below w9.heap.size w9 w2)
 go_wp2_with fail
 refine hK.out _ _ ⟨r1, t1, v1, r2, t2, v2, r3, t3, v3, ?_, SN, Hn (fun h3 h5 => tf d5 h5), Hn (fun h4 h5 => tf d5 h5), Hn (fun h9 h11 => tf d11 h11), Hn (fun h10 h11 => tf d11 h11), Hn (fun h15 h17 => by exact okr), Hn (fun h16 h17 => tf h16 n16), Hn (by simp only [uT d3, uT d9, uS F 15, uT d5, uT d11, uN 15 n17, uN 15 n19, uN 15 n21, uN 15 n23, add1T, add1F, updbT, updbF, updnT, updnF]; exact hf)⟩
 simp only [ff7S, Act.put, sA, sB, sC, selT, selF, uT d3, uT d5, uT d9, uT d11, uT d14, uN 15 n16, uN 15 n17, uN 15 n19, uN 15 n21, uN 15 n23]
 rfl
theorem ff7_16 : ff7T Q w9 l k R n U W 16 := by
 intro H F a w hz hd cl I
 obtain ⟨FI0, CN, HK, NJ0, NJ1, NJ2⟩ := H
 obtain ⟨r1, t1, v1, r2, t2, v2, r3, t3, v3, rfl, HH_, OK1_, CK1_, OK2_, CK2_, OK3_, CK3_, FI_⟩ := I
 have d15 := hd 15 rfl
 have d11 := dT hd cl 11
 have d5 := dT hd cl 5
 refine wpOp_step (o := ff716) rfl (fun K hK => ?_)
 replace hK := Hn hK
 simp only [ff7S, selT, selF, d5, d11, d15]
 clear cl hd
 have HH := HH_
 refine wp_build1P _ rfl r3 rfl (fun t3 w2 htb hwq => ?_)
 have hbb : Below w.heap.size w w2 := (by rw [hwq]; exact bl_alloc _ _)
 have SN := Hn (by rw [hwq]; exact bl_trans HH.out (bl_alloc _ _) : Below w9.heap.size w9 w2)
 unfold ff716 oO
 refine hK.out _ _ ⟨r1, t1, v1, r2, t2, v2, r3, t3, v3, ?_, SN, Hn (fun h3 h5 => tf d5 h5), Hn (fun h4 h5 => tf d5 h5), Hn (fun h9 h11 => tf d11 h11), Hn (fun h10 h11 => tf d11 h11), OK3_, Hn (fun h16 h17 => by rw [htb, hwq]; exact range_newM _ _ _), Hn (by have FI := FI_; exact FI.out.keep hbb)⟩
 simp only [ff7S, Act.put, sA, sB, sC, selT, selF, uT d5, uT d11, uT d15]
 rfl
theorem ff7_17 : ff7T Q w9 l k R n U W 17 := by
 intro H F a w hz hd cl I
 obtain ⟨FI0, CN, HK, NJ0, NJ1, NJ2⟩ := H
 obtain ⟨r1, t1, v1, r2, t2, v2, r3, t3, v3, rfl, HH_, OK1_, CK1_, OK2_, CK2_, OK3_, CK3_, FI_⟩ := I
 have d16 := hd 16 rfl
 have d15 := hd 15 rfl
 have d13 := hd 13 rfl
 have d11 := dT hd cl 11
 have d9 := dT hd cl 9
 have d5 := dT hd cl 5
 have d3 := dT hd cl 3
 have n19 := nT hz cl 19
 have n21 := nT hz cl 21
 have n23 := nT hz cl 23
 refine wpOp_step (o := ff717) rfl (fun K hK => ?_)
 replace hK := Hn hK
 simp only [ff7S, selT, selF, d3, d5, d9, d11, d13, d15, d16, n19, n21, n23]
 clear cl hd
 have HH := HH_
 have OK3 := Hn (OK3_.out d15 hz); have CK3 := Hn (CK3_.out d16 hz); have FI := Hn (by have h := FI_.out; simp only [d3, d9, d15, d5, d11, hz, n19, n21, n23, add1T, add1F, updbT, updbF, updnT, updnF] at h; exact h)
 refine wp_appFi FI.out 2 (by omega) _ _ rfl _ rfl rfl t3 rfl r3 CK3.out OK3.out NJ2.out (fun v3 w2 hf => ?_)
 have SN := Hn (hf.bel : Below w9.heap.size w9 w2)
 unfold ff717 oO
 refine hK.out _ _ ⟨r1, t1, v1, r2, t2, v2, r3, t3, v3, ?_, SN, Hn (fun h3 h5 => tf d5 h5), Hn (fun h4 h5 => tf d5 h5), Hn (fun h9 h11 => tf d11 h11), Hn (fun h10 h11 => tf d11 h11), Hn (fun h15 h17 => tr h17), Hn (fun h16 h17 => tr h17), Hn (by simp only [uT d3, uT d9, uT d15, uT d5, uT d11, uS F 17, uN 17 n19, uN 17 n21, uN 17 n23, add1T, add1F, updbT, updbF, updnT, updnF]; exact hf)⟩
 simp only [ff7S, Act.put, sA, sB, sC, selT, selF, uT d3, uT d5, uT d9, uT d11, uT d13, uT d15, uT d16, uN 17 n19, uN 17 n21, uN 17 n23]
 rfl
theorem ff7_18 : ff7T Q w9 l k R n U W 18 := by
 intro H F a w hz hd cl I
 obtain ⟨FI0, CN, HK, NJ0, NJ1, NJ2⟩ := H
 obtain ⟨r1, t1, v1, r2, t2, v2, r3, t3, v3, rfl, I⟩ := I
 refine wpOp_val ff718 (.pointer (some ⟨w9.heap.size + 3, 0, none⟩)) rfl rfl ?_ ⟨r1, t1, v1, r2, t2, v2, r3, t3, v3, ?_, I⟩
 ·(clear I; unfold ff718 oO; simp only [ff7S, selT]; go_simp)
 ·(unfold ff718 oO; simp only [ff7S, Act.put, sA, sB, sC]; rfl)
theorem ff7_19 : ff7T Q w9 l k R n U W 19 := by
 intro H F a w hz hd cl I
 obtain ⟨FI0, CN, HK, NJ0, NJ1, NJ2⟩ := H
 obtain ⟨r1, t1, v1, r2, t2, v2, r3, t3, v3, rfl, HH_, OK1_, CK1_, OK2_, CK2_, OK3_, CK3_, FI_⟩ := I
 have d18 := hd 18 rfl
 have d17 := hd 17 rfl
 have d5 := hd 5 rfl
 have d3 := hd 3 rfl
 have d15 := dT hd cl 15
 have d11 := dT hd cl 11
 have d9 := dT hd cl 9
 have n21 := nT hz cl 21
 have n23 := nT hz cl 23
 refine wpOp_step (o := ff719) rfl (fun K hK => ?_)
 replace hK := Hn hK
 simp only [ff7S, selT, selF, d3, d5, d9, d11, d15, d17, d18, n21, n23]
 clear cl hd
 have HH := HH_
 have FI := Hn (by have h := FI_.out; simp only [d3, d9, d15, d5, d11, d17, hz, n21, n23, add1T, add1F, updbT, updbF, updnT, updnF] at h; exact h)
 refine wp_storeFi FI.out 0 (by omega) _ _ rfl rfl _ rfl rfl rfl (fun w2 hf => ?_)
 have SN := Hn (hf.bel : Below w9.heap.size w9 w2)
 refine hK.out _ _ ⟨r1, t1, v1, r2, t2, v2, r3, t3, v3, ?_, SN, Hn (fun h3 h5 => tf d5 h5), Hn (fun h4 h5 => tf d5 h5), Hn (fun h9 h11 => tf d11 h11), Hn (fun h10 h11 => tf d11 h11), Hn (fun h15 h17 => tf d17 h17), Hn (fun h16 h17 => tf d17 h17), Hn (by simp only [uT d3, uT d9, uT d15, uT d5, uT d11, uT d17, uS F 19, uN 19 n21, uN 19 n23, add1T, add1F, updbT, updbF, updnT, updnF]; exact hf)⟩
 simp only [ff7S, Act.put, sA, sB, sC, selT, selF, uT d3, uT d5, uT d9, uT d11, uT d15, uT d17, uT d18, uN 19 n21, uN 19 n23]
 rfl
theorem ff7_20 : ff7T Q w9 l k R n U W 20 := by
 intro H F a w hz hd cl I
 obtain ⟨FI0, CN, HK, NJ0, NJ1, NJ2⟩ := H
 obtain ⟨r1, t1, v1, r2, t2, v2, r3, t3, v3, rfl, I⟩ := I
 refine wpOp_val ff720 (.pointer (some ⟨w9.heap.size + 3, 1, none⟩)) rfl rfl ?_ ⟨r1, t1, v1, r2, t2, v2, r3, t3, v3, ?_, I⟩
 ·(clear I; unfold ff720 oO; simp only [ff7S, selT]; go_simp)
 ·(unfold ff720 oO; simp only [ff7S, Act.put, sA, sB, sC]; rfl)
theorem ff7_21 : ff7T Q w9 l k R n U W 21 := by
 intro H F a w hz hd cl I
 obtain ⟨FI0, CN, HK, NJ0, NJ1, NJ2⟩ := H
 obtain ⟨r1, t1, v1, r2, t2, v2, r3, t3, v3, rfl, HH_, OK1_, CK1_, OK2_, CK2_, OK3_, CK3_, FI_⟩ := I
 have d20 := hd 20 rfl
 have d19 := hd 19 rfl
 have d11 := hd 11 rfl
 have d9 := hd 9 rfl
 have d5 := hd 5 rfl
 have d3 := hd 3 rfl
 have d17 := dT hd cl 17
 have d15 := dT hd cl 15
 have n23 := nT hz cl 23
 refine wpOp_step (o := ff721) rfl (fun K hK => ?_)
 replace hK := Hn hK
 simp only [ff7S, selT, selF, d3, d5, d9, d11, d15, d17, d19, d20, n23]
 clear cl hd
 have HH := HH_
 have FI := Hn (by have h := FI_.out; simp only [d3, d9, d15, d5, d11, d17, d19, hz, n23, add1T, add1F, updbT, updbF, updnT, updnF] at h; exact h)
 refine wp_storeFi FI.out 1 (by omega) _ _ rfl rfl _ rfl rfl rfl (fun w2 hf => ?_)
 have SN := Hn (hf.bel : Below w9.heap.size w9 w2)
 refine hK.out _ _ ⟨r1, t1, v1, r2, t2, v2, r3, t3, v3, ?_, SN, Hn (fun h3 h5 => tf d5 h5), Hn (fun h4 h5 => tf d5 h5), Hn (fun h9 h11 => tf d11 h11), Hn (fun h10 h11 => tf d11 h11), Hn (fun h15 h17 => tf d17 h17), Hn (fun h16 h17 => tf d17 h17), Hn (by simp only [uT d3, uT d9, uT d15, uT d5, uT d11, uT d17, uT d19, uS F 21, uN 21 n23, add1T, add1F, updbT, updbF, updnT, updnF]; exact hf)⟩
 simp only [ff7S, Act.put, sA, sB, sC, selT, selF, uT d3, uT d5, uT d9, uT d11, uT d15, uT d17, uT d19, uT d20, uN 21 n23]
 rfl
theorem ff7_22 : ff7T Q w9 l k R n U W 22 := by
 intro H F a w hz hd cl I
 obtain ⟨FI0, CN, HK, NJ0, NJ1, NJ2⟩ := H
 obtain ⟨r1, t1, v1, r2, t2, v2, r3, t3, v3, rfl, I⟩ := I
 refine wpOp_val ff722 (.pointer (some ⟨w9.heap.size + 3, 2, none⟩)) rfl rfl ?_ ⟨r1, t1, v1, r2, t2, v2, r3, t3, v3, ?_, I⟩
 ·(clear I; unfold ff722 oO; simp only [ff7S, selT]; go_simp)
 ·(unfold ff722 oO; simp only [ff7S, Act.put, sA, sB, sC]; rfl)
theorem ff7_23 : ff7T Q w9 l k R n U W 23 := by
 intro H F a w hz hd cl I
 obtain ⟨FI0, CN, HK, NJ0, NJ1, NJ2⟩ := H
 obtain ⟨r1, t1, v1, r2, t2, v2, r3, t3, v3, rfl, HH_, OK1_, CK1_, OK2_, CK2_, OK3_, CK3_, FI_⟩ := I
 have d22 := hd 22 rfl
 have d21 := hd 21 rfl
 have d19 := hd 19 rfl
 have d17 := hd 17 rfl
 have d15 := hd 15 rfl
 have d11 := hd 11 rfl
 have d9 := hd 9 rfl
 have d5 := hd 5 rfl
 have d3 := hd 3 rfl
 refine wpOp_step (o := ff723) rfl (fun K hK => ?_)
 replace hK := Hn hK
 simp only [ff7S, selT, selF, d3, d5, d9, d11, d15, d17, d19, d21, d22]
 clear cl hd
 have HH := HH_
 have FI := Hn (by have h := FI_.out; simp only [d3, d9, d15, d5, d11, d17, d19, d21, hz, add1T, add1F, updbT, updbF, updnT, updnF] at h; exact h)
 refine wp_storeFi FI.out 2 (by omega) _ _ rfl rfl _ rfl rfl rfl (fun w2 hf => ?_)
 have SN := Hn (hf.bel : Below w9.heap.size w9 w2)
 refine hK.out _ _ ⟨r1, t1, v1, r2, t2, v2, r3, t3, v3, ?_, SN, Hn (fun h3 h5 => tf d5 h5), Hn (fun h4 h5 => tf d5 h5), Hn (fun h9 h11 => tf d11 h11), Hn (fun h10 h11 => tf d11 h11), Hn (fun h15 h17 => tf d17 h17), Hn (fun h16 h17 => tf d17 h17), Hn (by simp only [uT d3, uT d9, uT d15, uT d5, uT d11, uT d17, uT d19, uT d21, uS F 23, add1T, add1F, updbT, updbF, updnT, updnF]; exact hf)⟩
 simp only [ff7S, Act.put, sA, sB, sC, selT, selF, uT d3, uT d5, uT d9, uT d11, uT d15, uT d17, uT d19, uT d21, uT d22]
 rfl
end
theorem ff7 (Q : Exit → Act → World → Prop) (w9 : World) (l : Sl) (k : Nat) (R : Nat → Value) (n : Nat → Nat) (u0 u1 u2 u3 u4 u5 u6 u7 aa ab ae af ag ah ai aj ak al am an ao ap aq au av aw ax ay az aA aB aC aD aE aF aG aH aI aJ aK aL aM aN aO aP aQ aR aS aT aU aV aW aX aY aZ a0 a1 a2 a3 a4 a5 a6 a7 a8 a9 ba bb bc : Value) (W : World) (H : ff7h w9 l k R n W)
  (HQ : Hid (∀ (wz : World) (r1 r2 r3 : E4) (t1 t2 t3 : Nat) (v1 v2 v3 : Value), Fi w9 l (((k + 1) + 1) + 1) (upd (upd (upd R 0 v1) 1 v2) 2 v3) (upd (upd (upd R 0 v1) 1 v2) 2 v3) (upd (upd (upd n 0 (n 0 + 1)) 1 (n 1 + 1)) 2 (n 2 + 1)) wz → Q .normal ⟨#[u0, u1, u2, u3, u4, u5, u6, u7, .func (.func 26) #[] #[.pointer (some ⟨w9.heap.size + 2, 0, none⟩), .pointer (some ⟨w9.heap.size, 0, none⟩)], .pointer (some ⟨w9.heap.size + 3, 0, none⟩), aa, ab, ae, af, ag, ah, ai, aj, ak, .pointer (some ⟨w9.heap.size + 3, 0, none⟩), (R 0), .func (.func 26) #[] #[.pointer (some ⟨w9.heap.size + 2, 0, none⟩), .pointer (some ⟨w9.heap.size, 0, none⟩)], .agg #[.int .u64 r1.x0, .int .u64 r1.x1, .int .u64 r1.x2, .int .u64 r1.x3], .slice (some ⟨t1, 0, none⟩) 1 1, v1, .pointer (some ⟨w9.heap.size + 3, 1, none⟩), (R 1), .func (.func 26) #[] #[.pointer (some ⟨w9.heap.size + 2, 0, none⟩), .pointer (some ⟨w9.heap.size, 0, none⟩)], .agg #[.int .u64 r2.x0, .int .u64 r2.x1, .int .u64 r2.x2, .int .u64 r2.x3], .slice (some ⟨t2, 0, none⟩) 1 1, v2, .pointer (some ⟨w9.heap.size + 3, 2, none⟩), (R 2), .func (.func 26) #[] #[.pointer (some ⟨w9.heap.size + 2, 0, none⟩), .pointer (some ⟨w9.heap.size, 0, none⟩)], .agg #[.int .u64 r3.x0, .int .u64 r3.x1, .int .u64 r3.x2, .int .u64 r3.x3], .slice (some ⟨t3, 0, none⟩) 1 1, v3, .pointer (some ⟨w9.heap.size + 3, 0, none⟩), .pointer (some ⟨w9.heap.size + 3, 1, none⟩), .pointer (some ⟨w9.heap.size + 3, 2, none⟩), aJ, aK, aL, aM, aN, aO, aP, aQ, aR, aS, aT, aU, aV, aW, aX, aY, aZ, a0, a1, a2, a3, a4, a5, a6, a7, a8, a9, ba, bb, bc], []⟩ wz)) : (Code.region 7 ff7o true).wp Tryz.prog Q ⟨#[u0, u1, u2, u3, u4, u5, u6, u7, .func (.func 26) #[] #[.pointer (some ⟨w9.heap.size + 2, 0, none⟩), .pointer (some ⟨w9.heap.size, 0, none⟩)], .pointer (some ⟨w9.heap.size + 3, 0, none⟩), aa, ab, ae, af, ag, ah, ai, aj, ak, al, am, an, ao, ap, aq, au, av, aw, ax, ay, az, aA, aB, aC, aD, aE, aF, aG, aH, aI, aJ, aK, aL, aM, aN, aO, aP, aQ, aR, aS, aT, aU, aV, aW, aX, aY, aZ, a0, a1, a2, a3, a4, a5, a6, a7, a8, a9, ba, bb, bc], []⟩ W := by
 replace HQ : Hid (ff7f Q w9 l k R n (nth [u0, u1, u2, u3, u4, u5, u6, u7, undef, undef, aa, ab, ae, af, ag, ah, ai, aj, ak, al, am, an, ao, ap, aq, au, av, aw, ax, ay, az, aA, aB, aC, aD, aE, aF, aG, aH, aI, aJ, aK, aL, aM, aN, aO, aP, aQ, aR, aS, aT, aU, aV, aW, aX, aY, aZ, a0, a1, a2, a3, a4, a5, a6, a7, a8, a9, ba, bb, bc]) W) := HQ
 refine wp_region_noPanic ?_
 refine wp_region_held_drew (S := fun _ => True) (by kernel_rfl) trivial (fun _ => ?_)
 refine sym (by kernel_rfl) (ff7I w9 l k R n (nth [u0, u1, u2, u3, u4, u5, u6, u7, undef, undef, aa, ab, ae, af, ag, ah, ai, aj, ak, al, am, an, ao, ap, aq, au, av, aw, ax, ay, az, aA, aB, aC, aD, aE, aF, aG, aH, aI, aJ, aK, aL, aM, aN, aO, aP, aQ, aR, aS, aT, aU, aV, aW, aX, aY, aZ, a0, a1, a2, a3, a4, a5, a6, a7, a8, a9, ba, bb, bc]) W) (fun F i a w hi h0 hd cl I => ?_) (fun F a w hF I => ?_) _ _ _ _ (by simp) (of_decide_eq_true (by kernel_rfl)) clo0 ?_
 ·match i, hi with
  | 0, _ => exact ff7_0 H _ _ _ h0 hd cl I
  | 1, _ => exact ff7_1 H _ _ _ h0 hd cl I
  | 2, _ => exact ff7_2 H _ _ _ h0 hd cl I
  | 3, _ => exact ff7_3 H _ _ _ h0 hd cl I
  | 4, _ => exact ff7_4 H _ _ _ h0 hd cl I
  | 5, _ => exact ff7_5 H _ _ _ h0 hd cl I
  | 6, _ => exact ff7_6 H _ _ _ h0 hd cl I
  | 7, _ => exact ff7_7 H _ _ _ h0 hd cl I
  | 8, _ => exact ff7_8 H _ _ _ h0 hd cl I
  | 9, _ => exact ff7_9 H _ _ _ h0 hd cl I
  | 10, _ => exact ff7_10 H _ _ _ h0 hd cl I
  | 11, _ => exact ff7_11 H _ _ _ h0 hd cl I
  | 12, _ => exact ff7_12 H _ _ _ h0 hd cl I
  | 13, _ => exact ff7_13 H _ _ _ h0 hd cl I
  | 14, _ => exact ff7_14 H _ _ _ h0 hd cl I
  | 15, _ => exact ff7_15 H _ _ _ h0 hd cl I
  | 16, _ => exact ff7_16 H _ _ _ h0 hd cl I
  | 17, _ => exact ff7_17 H _ _ _ h0 hd cl I
  | 18, _ => exact ff7_18 H _ _ _ h0 hd cl I
  | 19, _ => exact ff7_19 H _ _ _ h0 hd cl I
  | 20, _ => exact ff7_20 H _ _ _ h0 hd cl I
  | 21, _ => exact ff7_21 H _ _ _ h0 hd cl I
  | 22, _ => exact ff7_22 H _ _ _ h0 hd cl I
  | 23, _ => exact ff7_23 H _ _ _ h0 hd cl I
  | k + 24, h => exact absurd h (Nat.not_lt.2 (Nat.le_add_left 24 k))
 ·obtain ⟨r1, t1, v1, r2, t2, v2, r3, t3, v3, rfl, HH, OK1_, CK1_, OK2_, CK2_, OK3_, CK3_, FI_⟩ := I
  have FI := Hn (by have h := FI_.out; simp only [hF 3 (by decide), hF 9 (by decide), hF 15 (by decide), hF 5 (by decide), hF 11 (by decide), hF 17 (by decide), hF 19 (by decide), hF 21 (by decide), hF 23 (by decide), add1T, add1F, updbT, updbF, updnT, updnF] at h; exact h)
  refine NoPanic.normal ?_
  have e : ff7S (nth [u0, u1, u2, u3, u4, u5, u6, u7, undef, undef, aa, ab, ae, af, ag, ah, ai, aj, ak, al, am, an, ao, ap, aq, au, av, aw, ax, ay, az, aA, aB, aC, aD, aE, aF, aG, aH, aI, aJ, aK, aL, aM, aN, aO, aP, aQ, aR, aS, aT, aU, aV, aW, aX, aY, aZ, a0, a1, a2, a3, a4, a5, a6, a7, a8, a9, ba, bb, bc]) w9 l k R n r1 t1 v1 r2 t2 v2 r3 t3 v3 F = ff7S (nth [u0, u1, u2, u3, u4, u5, u6, u7, undef, undef, aa, ab, ae, af, ag, ah, ai, aj, ak, al, am, an, ao, ap, aq, au, av, aw, ax, ay, az, aA, aB, aC, aD, aE, aF, aG, aH, aI, aJ, aK, aL, aM, aN, aO, aP, aQ, aR, aS, aT, aU, aV, aW, aX, aY, aZ, a0, a1, a2, a3, a4, a5, a6, a7, a8, a9, ba, bb, bc]) w9 l k R n r1 t1 v1 r2 t2 v2 r3 t3 v3 (fun _ => true) := by simp only [ff7S, hF 0 (by decide), hF 1 (by decide), hF 2 (by decide), hF 3 (by decide), hF 4 (by decide), hF 5 (by decide), hF 6 (by decide), hF 7 (by decide), hF 8 (by decide), hF 9 (by decide), hF 10 (by decide), hF 11 (by decide), hF 12 (by decide), hF 13 (by decide), hF 14 (by decide), hF 15 (by decide), hF 16 (by decide), hF 17 (by decide), hF 18 (by decide), hF 19 (by decide), hF 20 (by decide), hF 21 (by decide), hF 22 (by decide), hF 23 (by decide)]
  rw [e]
  exact HQ.out _ r1 r2 r3 t1 t2 t3 v1 v2 v3 FI.out
 ·obtain ⟨FI0, CN, HK, NJ0, NJ1, NJ2⟩ := H
  have e0 : (fun k => (Array.replicate ff7o.size false).getD k false) = fun _ => false := funext rep0
  rw [e0]
  exact ⟨⟨0, 0, 0, 0⟩, 0, undef, ⟨0, 0, 0, 0⟩, 0, undef, ⟨0, 0, 0, 0⟩, 0, undef, rfl, Hn (bl_trans FI0.out.bel (bl_drew W)), Hn (fun h _ => tr2 h), Hn (fun h _ => tr2 h), Hn (fun h _ => tr2 h), Hn (fun h _ => tr2 h), Hn (fun h _ => tr2 h), Hn (fun h _ => tr2 h), Hn (FI0.out.keep (bl_drew W))⟩
def ff130 : Oper := oO 62 (Op.fieldAddr 30 (Operand.tmp 9) 3) 0 pCet1 #[]
def ff131 : Oper := oO 63 (Op.load 25 (Operand.tmp 62)) 25 pCet1 #[DD 0]
def ff132 : Oper := oO 64 (Op.move (Operand.tmp 8)) 60 pCet1 #[]
def ff133 : Oper := oO 65 (Op.call { callee := Callee.value (Operand.tmp 64), args := #[], argTypes := #[] }) 35 pCet1 #[DD 2]
def ff134 : Oper := oO 66 (Op.buildSlice 25 1 #[(0, Operand.tmp 65)]) 25 pCet1 #[DD 3]
def ff135 : Oper := oO 67 (Op.call { callee := Callee.builtin Builtin.append, args := #[Operand.tmp 63, Operand.tmp 66], argTypes := #[25, 25] }) 25 pCet1 #[DD 1, DD 4, CH 3]
def ff136 : Oper := oO 68 (Op.fieldAddr 30 (Operand.tmp 9) 3) 0 pCet1 #[PH 0, PH 1, PH 2, PH 3, PH 4, PH 5]
def ff137 : Oper := oN (Op.store 25 (Operand.tmp 68) (Operand.tmp 67)) pCet1 #[DD 6, DD 5, CH 5, PH 0, PH 1, PH 2, PH 3, PH 4, PH 5]
def ff13o : Array Oper := #[ff130, ff131, ff132, ff133, ff134, ff135, ff136, ff137]
structure ff13h (w9 : World) (l : Sl) (k : Nat) (R : Nat → Value) (n : Nat → Nat) (W : World) : Prop where
 FI0 : Hid (Fi w9 l k R R n W)
 CN : Hid (∀ (k' : Nat) (C R : Nat → Value) (n : Nat → Nat) (x : World), k' ≤ 1000000 → Fi w9 l k' C R n x → Calls Tryz.prog 26 #[.pointer (some ⟨w9.heap.size + 2, 0, none⟩), .pointer (some ⟨w9.heap.size, 0, none⟩)] x fun e y => ∃ r : E4, e = .returned (.agg #[.int .u64 r.x0, .int .u64 r.x1, .int .u64 r.x2, .int .u64 r.x3]) ∧ r.ok ∧ Fi w9 l (k' + 1) C R n y)
 HK : Hid (k + 3 ≤ 1000000)
 NJ3 : Hid (n 3 ≤ 100000)
def ff13S (U : Nat → Value) (w9 : World) (l : Sl) (k : Nat) (R : Nat → Value) (n : Nat → Nat) (r1 : E4) (t1 : Nat) (v1 : Value) (F : Nat → Bool) : Array Value := #[(U 0), (U 1), (U 2), (U 3), (U 4), (U 5), (U 6), (U 7), (.func (.func 26) #[] #[.pointer (some ⟨w9.heap.size + 2, 0, none⟩), .pointer (some ⟨w9.heap.size, 0, none⟩)]), (.pointer (some ⟨w9.heap.size + 3, 0, none⟩)), (U 10), (U 11), (U 12), (U 13), (U 14), (U 15), (U 16), (U 17), (U 18), (U 19), (U 20), (U 21), (U 22), (U 23), (U 24), (U 25), (U 26), (U 27), (U 28), (U 29), (U 30), (U 31), (U 32), (U 33), (U 34), (U 35), (U 36), (U 37), (U 38), (U 39), (U 40), (U 41), (U 42), (U 43), (U 44), (U 45), (U 46), (U 47), (U 48), (U 49), (U 50), (U 51), (U 52), (U 53), (U 54), (U 55), (U 56), (U 57), (U 58), (U 59), (U 60), (U 61), sel (F 0) (.pointer (some ⟨w9.heap.size + 3, 3, none⟩)) (U 62), sel (F 1) ((R 3)) (U 63), sel (F 2) (.func (.func 26) #[] #[.pointer (some ⟨w9.heap.size + 2, 0, none⟩), .pointer (some ⟨w9.heap.size, 0, none⟩)]) (U 64), sel (F 3) (.agg #[.int .u64 r1.x0, .int .u64 r1.x1, .int .u64 r1.x2, .int .u64 r1.x3]) (U 65), sel (F 4) (.slice (some ⟨t1, 0, none⟩) 1 1) (U 66), sel (F 5) (v1) (U 67), sel (F 6) (.pointer (some ⟨w9.heap.size + 3, 3, none⟩)) (U 68), (U 69)]
def ff13F (w9 : World) (l : Sl) (k : Nat) (R : Nat → Value) (n : Nat → Nat) (r1 : E4) (t1 : Nat) (v1 : Value) (W : World) (F : Nat → Bool) (w : World) : Prop := Hid (Below w9.heap.size w9 w) ∧ Hid (F 3 = true → F 5 = false → r1.ok) ∧ Hid (F 4 = true → F 5 = false → w.rangeAt t1 0 [.int .u64 r1.x0, .int .u64 r1.x1, .int .u64 r1.x2, .int .u64 r1.x3]) ∧ Hid (Fi w9 l (add1 (F 3) k) (updb (F 7) R 3 v1) (updb (F 5) R 3 v1) (updn (F 5) n 3 (n 3 + 1)) w)
def ff13I (w9 : World) (l : Sl) (k : Nat) (R : Nat → Value) (n : Nat → Nat) (U : Nat → Value) (W : World) (F : Nat → Bool) (a : Act) (w : World) : Prop := ∃ (r1 : E4) (t1 : Nat) (v1 : Value), a = ⟨ff13S U w9 l k R n r1 t1 v1 F, []⟩ ∧ ff13F w9 l k R n r1 t1 v1 W F w
def ff13f (Q : Exit → Act → World → Prop) (w9 : World) (l : Sl) (k : Nat) (R : Nat → Value) (n : Nat → Nat) (U : Nat → Value) (W : World) : Prop := ∀ (wz : World) (r1 : E4) (t1 : Nat) (v1 : Value), Fi w9 l (k + 1) (upd R 3 v1) (upd R 3 v1) (upd n 3 (n 3 + 1)) wz → Q .normal ⟨ff13S U w9 l k R n r1 t1 v1 (fun _ => true), []⟩ wz
def ff13T (Q : Exit → Act → World → Prop) (w9 : World) (l : Sl) (k : Nat) (R : Nat → Value) (n : Nat → Nat) (U : Nat → Value) (W : World) (i : Nat) : Prop := ff13h w9 l k R n W → ∀ (F : Nat → Bool) (a : Act) (w : World), F i = false → (∀ k, (dp .any ff13o i).contains k = true → F k = true) → clo .any ff13o F → ff13I w9 l k R n U W F a w → wpOp Tryz.prog ff13o (NoPanic Q) i (fun a w => ff13I w9 l k R n U W (up F i) a w) a w
section
variable {Q : Exit → Act → World → Prop} {w9 : World} {l : Sl} {k : Nat} {R : Nat → Value} {n : Nat → Nat} {U : Nat → Value} {W : World}
theorem ff13_0 : ff13T Q w9 l k R n U W 0 := by
 intro H F a w hz hd cl I
 obtain ⟨FI0, CN, HK, NJ3⟩ := H
 obtain ⟨r1, t1, v1, rfl, I⟩ := I
 refine wpOp_val ff130 (.pointer (some ⟨w9.heap.size + 3, 3, none⟩)) rfl rfl ?_ ⟨r1, t1, v1, ?_, I⟩
 ·(clear I; unfold ff130 oO; simp only [ff13S, selT]; go_simp)
 ·(unfold ff130 oO; simp only [ff13S, Act.put, sA, sB, sC]; rfl)
theorem ff13_1 : ff13T Q w9 l k R n U W 1 := by
 intro H F a w hz hd cl I
 obtain ⟨FI0, CN, HK, NJ3⟩ := H
 obtain ⟨r1, t1, v1, rfl, HH_, OK1_, CK1_, FI_⟩ := I
 have d0 := hd 0 rfl
 have n5 := nT hz cl 5
 have n7 := nT hz cl 7
 refine wpOp_step (o := ff131) rfl (fun K hK => ?_)
 replace hK := Hn hK
 simp only [ff13S, selT, selF, d0, n5, n7]
 clear cl hd
 have HH := HH_
 have FI := Hn (by have h := FI_.out; simp only [n5, n7, add1T, add1F, updbT, updbF, updnT, updnF] at h; exact h)
 refine wp_loadFi FI.out 3 (by omega) _ rfl rfl (Rw.shape (FI0.out.rw 3 (by omega))) ?_
 unfold ff131 oO
 refine hK.out _ _ ⟨r1, t1, v1, ?_, HH_, OK1_, CK1_, FI_⟩
 simp only [ff13S, Act.put, sA, sB, sC, selT, selF, uT d0, uN 1 n5, uN 1 n7]
 rfl
theorem ff13_2 : ff13T Q w9 l k R n U W 2 := by
 intro H F a w hz hd cl I
 obtain ⟨FI0, CN, HK, NJ3⟩ := H
 obtain ⟨r1, t1, v1, rfl, I⟩ := I
 refine wpOp_val ff132 (.func (.func 26) #[] #[.pointer (some ⟨w9.heap.size + 2, 0, none⟩), .pointer (some ⟨w9.heap.size, 0, none⟩)]) rfl rfl ?_ ⟨r1, t1, v1, ?_, I⟩
 ·(clear I; unfold ff132 oO; simp only [ff13S, selT]; go_simp)
 ·(unfold ff132 oO; simp only [ff13S, Act.put, sA, sB, sC]; rfl)
theorem ff13_3 : ff13T Q w9 l k R n U W 3 := by
 intro H F a w hz hd cl I
 obtain ⟨FI0, CN, HK, NJ3⟩ := H
 obtain ⟨r1, t1, v1, rfl, HH_, OK1_, CK1_, FI_⟩ := I
 have d2 := hd 2 rfl
 have n4 := nT hz cl 4
 have n5 := nT hz cl 5
 have n7 := nT hz cl 7
 refine wpOp_step (o := ff133) rfl (fun K hK => ?_)
 replace hK := Hn hK
 simp only [ff13S, selT, selF, d2, n4, n5, n7]
 clear cl hd
 have HH := HH_
 have FI := Hn (by have h := FI_.out; simp only [hz, n5, n7, add1T, add1F, updbT, updbF, updnT, updnF] at h; exact h)
 unfold ff133 oO
 go_simp
 refine (CN.out _ _ _ _ _ (by have := HK.out; omega) FI.out).mono ?_
 rintro e w2 ⟨r1, rfl, okr, hf⟩
 have SN := Hn (hf.bel : Below w9.heap.size w9 w2)
 go_wp2_with fail
 refine hK.out _ _ ⟨r1, t1, v1, ?_, SN, Hn (fun h3 h5 => by exact okr), Hn (fun h4 h5 => tf h4 n4), Hn (by simp only [uS F 3, uN 3 n5, uN 3 n7, add1T, add1F, updbT, updbF, updnT, updnF]; exact hf)⟩
 simp only [ff13S, Act.put, sA, sB, sC, selT, selF, uT d2, uN 3 n4, uN 3 n5, uN 3 n7]
 rfl
theorem ff13_4 : ff13T Q w9 l k R n U W 4 := by
 intro H F a w hz hd cl I
 obtain ⟨FI0, CN, HK, NJ3⟩ := H
 obtain ⟨r1, t1, v1, rfl, HH_, OK1_, CK1_, FI_⟩ := I
 have d3 := hd 3 rfl
 refine wpOp_step (o := ff134) rfl (fun K hK => ?_)
 replace hK := Hn hK
 simp only [ff13S, selT, selF, d3]
 clear cl hd
 have HH := HH_
 refine wp_build1P _ rfl r1 rfl (fun t1 w2 htb hwq => ?_)
 have hbb : Below w.heap.size w w2 := (by rw [hwq]; exact bl_alloc _ _)
 have SN := Hn (by rw [hwq]; exact bl_trans HH.out (bl_alloc _ _) : Below w9.heap.size w9 w2)
 unfold ff134 oO
 refine hK.out _ _ ⟨r1, t1, v1, ?_, SN, OK1_, Hn (fun h4 h5 => by rw [htb, hwq]; exact range_newM _ _ _), Hn (by have FI := FI_; exact FI.out.keep hbb)⟩
 simp only [ff13S, Act.put, sA, sB, sC, selT, selF, uT d3]
 rfl
theorem ff13_5 : ff13T Q w9 l k R n U W 5 := by
 intro H F a w hz hd cl I
 obtain ⟨FI0, CN, HK, NJ3⟩ := H
 obtain ⟨r1, t1, v1, rfl, HH_, OK1_, CK1_, FI_⟩ := I
 have d4 := hd 4 rfl
 have d3 := hd 3 rfl
 have d1 := hd 1 rfl
 have n7 := nT hz cl 7
 refine wpOp_step (o := ff135) rfl (fun K hK => ?_)
 replace hK := Hn hK
 simp only [ff13S, selT, selF, d1, d3, d4, n7]
 clear cl hd
 have HH := HH_
 have OK1 := Hn (OK1_.out d3 hz); have CK1 := Hn (CK1_.out d4 hz); have FI := Hn (by have h := FI_.out; simp only [d3, hz, n7, add1T, add1F, updbT, updbF, updnT, updnF] at h; exact h)
 refine wp_appFi FI.out 3 (by omega) _ _ rfl _ rfl rfl t1 rfl r1 CK1.out OK1.out NJ3.out (fun v1 w2 hf => ?_)
 have SN := Hn (hf.bel : Below w9.heap.size w9 w2)
 unfold ff135 oO
 refine hK.out _ _ ⟨r1, t1, v1, ?_, SN, Hn (fun h3 h5 => tr h5), Hn (fun h4 h5 => tr h5), Hn (by simp only [uT d3, uS F 5, uN 5 n7, add1T, add1F, updbT, updbF, updnT, updnF]; exact hf)⟩
 simp only [ff13S, Act.put, sA, sB, sC, selT, selF, uT d1, uT d3, uT d4, uN 5 n7]
 rfl
theorem ff13_6 : ff13T Q w9 l k R n U W 6 := by
 intro H F a w hz hd cl I
 obtain ⟨FI0, CN, HK, NJ3⟩ := H
 obtain ⟨r1, t1, v1, rfl, I⟩ := I
 refine wpOp_val ff136 (.pointer (some ⟨w9.heap.size + 3, 3, none⟩)) rfl rfl ?_ ⟨r1, t1, v1, ?_, I⟩
 ·(clear I; unfold ff136 oO; simp only [ff13S, selT]; go_simp)
 ·(unfold ff136 oO; simp only [ff13S, Act.put, sA, sB, sC]; rfl)
theorem ff13_7 : ff13T Q w9 l k R n U W 7 := by
 intro H F a w hz hd cl I
 obtain ⟨FI0, CN, HK, NJ3⟩ := H
 obtain ⟨r1, t1, v1, rfl, HH_, OK1_, CK1_, FI_⟩ := I
 have d6 := hd 6 rfl
 have d5 := hd 5 rfl
 have d3 := hd 3 rfl
 refine wpOp_step (o := ff137) rfl (fun K hK => ?_)
 replace hK := Hn hK
 simp only [ff13S, selT, selF, d3, d5, d6]
 clear cl hd
 have HH := HH_
 have FI := Hn (by have h := FI_.out; simp only [d3, d5, hz, add1T, add1F, updbT, updbF, updnT, updnF] at h; exact h)
 refine wp_storeFi FI.out 3 (by omega) _ _ rfl rfl _ rfl rfl rfl (fun w2 hf => ?_)
 have SN := Hn (hf.bel : Below w9.heap.size w9 w2)
 refine hK.out _ _ ⟨r1, t1, v1, ?_, SN, Hn (fun h3 h5 => tf d5 h5), Hn (fun h4 h5 => tf d5 h5), Hn (by simp only [uT d3, uT d5, uS F 7, add1T, add1F, updbT, updbF, updnT, updnF]; exact hf)⟩
 simp only [ff13S, Act.put, sA, sB, sC, selT, selF, uT d3, uT d5, uT d6]
 rfl
end
theorem ff13 (Q : Exit → Act → World → Prop) (w9 : World) (l : Sl) (k : Nat) (R : Nat → Value) (n : Nat → Nat) (u0 u1 u2 u3 u4 u5 u6 u7 aa ab ae af ag ah ai aj ak al am an ao ap aq au av aw ax ay az aA aB aC aD aE aF aG aH aI aJ aK aL aM aN aO aP aQ aR aS aT aU aV aW aX aY aZ a0 a1 a2 a3 a4 a5 a6 a7 a8 a9 ba bb bc : Value) (W : World) (H : ff13h w9 l k R n W)
  (HQ : Hid (∀ (wz : World) (r1 : E4) (t1 : Nat) (v1 : Value), Fi w9 l (k + 1) (upd R 3 v1) (upd R 3 v1) (upd n 3 (n 3 + 1)) wz → Q .normal ⟨#[u0, u1, u2, u3, u4, u5, u6, u7, .func (.func 26) #[] #[.pointer (some ⟨w9.heap.size + 2, 0, none⟩), .pointer (some ⟨w9.heap.size, 0, none⟩)], .pointer (some ⟨w9.heap.size + 3, 0, none⟩), aa, ab, ae, af, ag, ah, ai, aj, ak, al, am, an, ao, ap, aq, au, av, aw, ax, ay, az, aA, aB, aC, aD, aE, aF, aG, aH, aI, aJ, aK, aL, aM, aN, aO, aP, aQ, aR, aS, aT, aU, aV, aW, aX, aY, aZ, a0, a1, a2, a3, a4, .pointer (some ⟨w9.heap.size + 3, 3, none⟩), (R 3), .func (.func 26) #[] #[.pointer (some ⟨w9.heap.size + 2, 0, none⟩), .pointer (some ⟨w9.heap.size, 0, none⟩)], .agg #[.int .u64 r1.x0, .int .u64 r1.x1, .int .u64 r1.x2, .int .u64 r1.x3], .slice (some ⟨t1, 0, none⟩) 1 1, v1, .pointer (some ⟨w9.heap.size + 3, 3, none⟩), bc], []⟩ wz)) : (Code.region 13 ff13o true).wp Tryz.prog Q ⟨#[u0, u1, u2, u3, u4, u5, u6, u7, .func (.func 26) #[] #[.pointer (some ⟨w9.heap.size + 2, 0, none⟩), .pointer (some ⟨w9.heap.size, 0, none⟩)], .pointer (some ⟨w9.heap.size + 3, 0, none⟩), aa, ab, ae, af, ag, ah, ai, aj, ak, al, am, an, ao, ap, aq, au, av, aw, ax, ay, az, aA, aB, aC, aD, aE, aF, aG, aH, aI, aJ, aK, aL, aM, aN, aO, aP, aQ, aR, aS, aT, aU, aV, aW, aX, aY, aZ, a0, a1, a2, a3, a4, a5, a6, a7, a8, a9, ba, bb, bc], []⟩ W := by
 replace HQ : Hid (ff13f Q w9 l k R n (nth [u0, u1, u2, u3, u4, u5, u6, u7, undef, undef, aa, ab, ae, af, ag, ah, ai, aj, ak, al, am, an, ao, ap, aq, au, av, aw, ax, ay, az, aA, aB, aC, aD, aE, aF, aG, aH, aI, aJ, aK, aL, aM, aN, aO, aP, aQ, aR, aS, aT, aU, aV, aW, aX, aY, aZ, a0, a1, a2, a3, a4, a5, a6, a7, a8, a9, ba, bb, bc]) W) := HQ
 refine wp_region_noPanic ?_
 refine wp_region_held_drew (S := fun _ => True) (by kernel_rfl) trivial (fun _ => ?_)
 refine sym (by kernel_rfl) (ff13I w9 l k R n (nth [u0, u1, u2, u3, u4, u5, u6, u7, undef, undef, aa, ab, ae, af, ag, ah, ai, aj, ak, al, am, an, ao, ap, aq, au, av, aw, ax, ay, az, aA, aB, aC, aD, aE, aF, aG, aH, aI, aJ, aK, aL, aM, aN, aO, aP, aQ, aR, aS, aT, aU, aV, aW, aX, aY, aZ, a0, a1, a2, a3, a4, a5, a6, a7, a8, a9, ba, bb, bc]) W) (fun F i a w hi h0 hd cl I => ?_) (fun F a w hF I => ?_) _ _ _ _ (by simp) (of_decide_eq_true (by kernel_rfl)) clo0 ?_
 ·match i, hi with
  | 0, _ => exact ff13_0 H _ _ _ h0 hd cl I
  | 1, _ => exact ff13_1 H _ _ _ h0 hd cl I
  | 2, _ => exact ff13_2 H _ _ _ h0 hd cl I
  | 3, _ => exact ff13_3 H _ _ _ h0 hd cl I
  | 4, _ => exact ff13_4 H _ _ _ h0 hd cl I
  | 5, _ => exact ff13_5 H _ _ _ h0 hd cl I
  | 6, _ => exact ff13_6 H _ _ _ h0 hd cl I
  | 7, _ => exact ff13_7 H _ _ _ h0 hd cl I
  | k + 8, h => exact absurd h (Nat.not_lt.2 (Nat.le_add_left 8 k))
 ·obtain ⟨r1, t1, v1, rfl, HH, OK1_, CK1_, FI_⟩ := I
  have FI := Hn (by have h := FI_.out; simp only [hF 3 (by decide), hF 5 (by decide), hF 7 (by decide), add1T, add1F, updbT, updbF, updnT, updnF] at h; exact h)
  refine NoPanic.normal ?_
  have e : ff13S (nth [u0, u1, u2, u3, u4, u5, u6, u7, undef, undef, aa, ab, ae, af, ag, ah, ai, aj, ak, al, am, an, ao, ap, aq, au, av, aw, ax, ay, az, aA, aB, aC, aD, aE, aF, aG, aH, aI, aJ, aK, aL, aM, aN, aO, aP, aQ, aR, aS, aT, aU, aV, aW, aX, aY, aZ, a0, a1, a2, a3, a4, a5, a6, a7, a8, a9, ba, bb, bc]) w9 l k R n r1 t1 v1 F = ff13S (nth [u0, u1, u2, u3, u4, u5, u6, u7, undef, undef, aa, ab, ae, af, ag, ah, ai, aj, ak, al, am, an, ao, ap, aq, au, av, aw, ax, ay, az, aA, aB, aC, aD, aE, aF, aG, aH, aI, aJ, aK, aL, aM, aN, aO, aP, aQ, aR, aS, aT, aU, aV, aW, aX, aY, aZ, a0, a1, a2, a3, a4, a5, a6, a7, a8, a9, ba, bb, bc]) w9 l k R n r1 t1 v1 (fun _ => true) := by simp only [ff13S, hF 0 (by decide), hF 1 (by decide), hF 2 (by decide), hF 3 (by decide), hF 4 (by decide), hF 5 (by decide), hF 6 (by decide), hF 7 (by decide)]
  rw [e]
  exact HQ.out _ r1 t1 v1 FI.out
 ·obtain ⟨FI0, CN, HK, NJ3⟩ := H
  have e0 : (fun k => (Array.replicate ff13o.size false).getD k false) = fun _ => false := funext rep0
  rw [e0]
  exact ⟨⟨0, 0, 0, 0⟩, 0, undef, rfl, Hn (bl_trans FI0.out.bel (bl_drew W)), Hn (fun h _ => tr2 h), Hn (fun h _ => tr2 h), Hn (FI0.out.keep (bl_drew W))⟩
end Ci
end Go.Proofs.YthngomhhafoamaaGreatDoor
