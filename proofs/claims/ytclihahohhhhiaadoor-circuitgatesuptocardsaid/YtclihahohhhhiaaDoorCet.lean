import Derived.Test.YtclihahohhhhiaaDoorTk
import Derived.Test.YtclihahohhhhiaaDoorCes
namespace Go.Proofs.YtclihahohhhhiaaDoor
open Go.RowKit
set_option linter.unusedVariables false
set_option linter.unusedSimpArgs false
open Cm (Wr Tm co bf Ls lf ins Eqm)
namespace Ci
set_option maxRecDepth 100000
set_option maxHeartbeats 16000000
theorem wp_appG {P : Program} {w : World} {o : Oper} {a : Act} {K : Act → World → Prop} {Q : Exit → Act → World → Prop} (s x : Operand) (t : TypeId)
  (ho : o.op = .call { callee := .builtin .append, args := #[s, x], argTypes := #[t, t] })
  (base : Nat) (e : TypeId) (i : TypeInfo) (z : Value) (size bytes : Nat) (ht : P.underlying t = some (.slice e)) (hi : P.info? e = some i) (hz : i.zero = some z)
  (hsize : i.size = size) (hby : i.bytes = bytes) (hzs : z.cells.size = size) (hsz : 0 < size)
  (v : Value) (n : Nat) (xs : List Value) (hs : a.eval s = v) (hown : w.ownsRow base e size v n xs)
  (ad : Addr) (m c : Nat) (news : List Value) (hx : a.eval x = .slice (some ad) m c) (hl : news.length = m * size) (hnews : ∀ j u, news[j]? = some u → w.cell? (ad.add j) = some u) (h1 : ∀ u ∈ news, u.oneCell' = true)
  (h63 : n + m ≤ maxLen) (hbytes : (n + m) * bytes ≤ 140737488355328) (hbase : base ≤ w.heap.size)
  (h : ∀ v' w', w'.ownsRow base e size v' (n + m) (xs ++ news) → w.grownBy w' v.ownBlock → (v'.ownBlock = v.ownBlock ∨ v'.ownBlock = some w.heap.size) → K (a.put o.dst v') w') : o.wp P a w K Q := by
 obtain ⟨v', w', hr, h2, h3, h4, h5⟩ := run_append_own_at (P := P) w base t o.type e i z size bytes ht hi hz hsize hby hzs hsz v n xs hown ad m c news hl hnews h1 h63 hbytes hbase
 unfold Oper.wp execOp
 simp only [ho, resolve, invoke, builtin, Sem.run_bind, Sem.run_pure, Result.andThen_ok, List.map_toArray, List.map_cons, List.map_nil, hs, hx, hr]
 exact h v' w' h2 h3 h5
theorem loadS (w : World) (b o : Nat) (p : Option Addr) (n c : Nat) (hc : w.cell? ⟨b, o, none⟩ = some (.slice p n c)) : (loadVar 25 ⟨b, o, none⟩).run Tryd.prog w = .ok (.slice p n c) w := by
 have ha : (isAgg 25).run Tryd.prog w = .ok false w := by kernel_rfl
 unfold loadVar
 simp only [Sem.run_bind, ha, Result.andThen_ok, Bool.false_eq_true, if_false]
 simp [go_sem, hc]
theorem Rw.shape {x : World} {b n : Nat} {v : Value} (h : Rw x b v n) : ∃ p m c, v = .slice p m c := by
 obtain ⟨s, rfl, _⟩ := h.sl
 exact ⟨_, _, _, rfl⟩
theorem i1_S : (Tryd.prog.info? 25).map (·.size) = some 1 := by kernel_rfl
section
variable {w9 w : World} {l : Sl} {k : Nat} {C R : Nat → Value} {n : Nat → Nat} {o : Oper} {a : Act} {K : Act → World → Prop} {Q : Exit → Act → World → Prop}
theorem wp_loadFi (h : Fi w9 l k C R n w) (j : Nat) (hj : j < 4) (x : Operand) (ho : o.op = .load 25 x) (hx : a.eval x = .pointer (some ⟨w9.heap.size + 3, j, none⟩)) (hs : ∃ p m c, C j = .slice p m c) (hk : K (a.put o.dst (C j)) w) : o.wp Tryd.prog a w K Q := by
 obtain ⟨p, m, c, e⟩ := hs
 have hr := loadS w (w9.heap.size + 3) j p m c (by rw [h.tc j hj, e])
 rw [e] at hk
 unfold Oper.wp execOp
 simp only [ho, hx, Instr.loadAt, Instr.sureAddr, Sem.run_bind, Sem.run_pure, Result.andThen_ok, hr]
 exact hk
theorem wp_appFi (h : Fi w9 l k C R n w) (j : Nat) (hj : j < 4) (s x : Operand) (ho : o.op = .call { callee := .builtin .append, args := #[s, x], argTypes := #[25, 25] }) (v : Value) (hs : a.eval s = v) (hv : R j = v) (tb : Nat) (hx : a.eval x = .slice (some ⟨tb, 0, none⟩) 1 1) (r : E4) (hc : w.rangeAt tb 0 [.int .u64 r.x0, .int .u64 r.x1, .int .u64 r.x2, .int .u64 r.x3]) (ok : r.ok) (hn : n j ≤ 100000)
  (hk : ∀ v' w', Fi w9 l k C (upd R j v') (upd n j (n j + 1)) w' → K (a.put o.dst v') w') : o.wp Tryd.prog a w K Q := by
 obtain ⟨g, hown, hg⟩ := h.rw j hj
 have HI : (Tryd.prog.info? 41) = some (Tryd.prog.info? 41).get! := by kernel_rfl
 refine wp_appG s x 25 ho (w9.heap.size + 4) 41 _ (.agg #[.int .u64 0, .int .u64 0, .int .u64 0, .int .u64 0]) 4 32 (by kernel_rfl) HI (by kernel_rfl) (by kernel_rfl) (by kernel_rfl) rfl (by decide) (R j) (n j) (s4s (n j) g) (hs.trans hv.symm) hown ⟨tb, 0, none⟩ 1 1 [.int .u64 r.x0, .int .u64 r.x1, .int .u64 r.x2, .int .u64 r.x3] hx rfl (fun d u hu => by rw [Addr.add_mid]; exact hc d u hu) (by simp [Value.oneCell']) (by unfold maxLen; omega) (by omega) h.sz (fun v' w' h1 h2 h3 => hk v' w' (h.app j hj ⟨fun i => if i = n j then r else g i, ?_, fun i hi => ?_⟩ h2 h3))
 ·rw [s4s_succ, if_pos rfl, s4s_congr (g := g) (fun i hi => if_neg (by omega))]
  exact h1
 ·by_cases e : i = n j
  ·simp only [if_pos e]; exact ok
  ·simp only [if_neg e]; exact hg i (by omega)
theorem wp_storeFi (h : Fi w9 l k C R n w) (j : Nat) (hj : j < 4) (x y : Operand) (ho : o.op = .store 25 x y) (hd : o.dst = none) (v : Value) (hx : a.eval x = .pointer (some ⟨w9.heap.size + 3, j, none⟩)) (hy : a.eval y = v) (hv : R j = v) (hk : ∀ w', Fi w9 l k (upd C j v) R n w' → K a w') : o.wp Tryd.prog a w K Q := by
 obtain ⟨p, m, c, e⟩ := (h.rw j hj).shape
 obtain rfl : v = .slice p m c := hv.symm.trans e
 have ht : w.there (w9.heap.size + 3) j 1 := fun d hd => by
  obtain rfl : d = 0 := by omega
  have := h.tt j hj
  rwa [Nat.zero_add] at this
 refine wp_storeV 25 x y ho (w9.heap.size + 3) j p m c hx hy ht i1_S hd (fun w' hw => hk w' ?_)
 rw [hw]
 exact h.put j hj _
end
def ff70 : Oper := { dst := some 19, op := Op.fieldAddr 37 (Operand.tmp 9) 0, type := 0, pos := "outright.go:58", after := #[], guard := none }
def ff71 : Oper := { dst := some 20, op := Op.load 25 (Operand.tmp 19), type := 25, pos := "outright.go:58", after := #[{ on := 0, ground := Ground.data }], guard := none }
def ff72 : Oper := { dst := some 21, op := Op.move (Operand.tmp 8), type := 77, pos := "outright.go:58", after := #[], guard := none }
def ff73 : Oper := { dst := some 22, op := Op.call { callee := Callee.value (Operand.tmp 21), args := #[], argTypes := #[] }, type := 41, pos := "outright.go:58", after := #[{ on := 2, ground := Ground.data }], guard := none }
def ff74 : Oper := { dst := some 23, op := Op.buildSlice 25 1 #[(0, Operand.tmp 22)], type := 25, pos := "outright.go:58", after := #[{ on := 3, ground := Ground.data }], guard := none }
def ff75 : Oper := { dst := some 24, op := Op.call { callee := Callee.builtin Builtin.append, args := #[Operand.tmp 20, Operand.tmp 23], argTypes := #[25, 25] }, type := 25, pos := "outright.go:58", after := #[{ on := 1, ground := Ground.data }, { on := 4, ground := Ground.data }, { on := 3, ground := Ground.chain }], guard := none }
def ff76 : Oper := { dst := some 25, op := Op.fieldAddr 37 (Operand.tmp 9) 1, type := 0, pos := "outright.go:58", after := #[], guard := none }
def ff77 : Oper := { dst := some 26, op := Op.load 25 (Operand.tmp 25), type := 25, pos := "outright.go:58", after := #[{ on := 6, ground := Ground.data }], guard := none }
def ff78 : Oper := { dst := some 27, op := Op.move (Operand.tmp 8), type := 77, pos := "outright.go:58", after := #[], guard := none }
def ff79 : Oper := { dst := some 28, op := Op.call { callee := Callee.value (Operand.tmp 27), args := #[], argTypes := #[] }, type := 41, pos := "outright.go:58", after := #[{ on := 8, ground := Ground.data }, { on := 5, ground := Ground.chain }], guard := none }
def ff710 : Oper := { dst := some 29, op := Op.buildSlice 25 1 #[(0, Operand.tmp 28)], type := 25, pos := "outright.go:58", after := #[{ on := 9, ground := Ground.data }], guard := none }
def ff711 : Oper := { dst := some 30, op := Op.call { callee := Callee.builtin Builtin.append, args := #[Operand.tmp 26, Operand.tmp 29], argTypes := #[25, 25] }, type := 25, pos := "outright.go:58", after := #[{ on := 7, ground := Ground.data }, { on := 10, ground := Ground.data }, { on := 9, ground := Ground.chain }], guard := none }
def ff712 : Oper := { dst := some 31, op := Op.fieldAddr 37 (Operand.tmp 9) 2, type := 0, pos := "outright.go:58", after := #[], guard := none }
def ff713 : Oper := { dst := some 32, op := Op.load 25 (Operand.tmp 31), type := 25, pos := "outright.go:58", after := #[{ on := 12, ground := Ground.data }], guard := none }
def ff714 : Oper := { dst := some 33, op := Op.move (Operand.tmp 8), type := 77, pos := "outright.go:58", after := #[], guard := none }
def ff715 : Oper := { dst := some 34, op := Op.call { callee := Callee.value (Operand.tmp 33), args := #[], argTypes := #[] }, type := 41, pos := "outright.go:58", after := #[{ on := 14, ground := Ground.data }, { on := 11, ground := Ground.chain }], guard := none }
def ff716 : Oper := { dst := some 35, op := Op.buildSlice 25 1 #[(0, Operand.tmp 34)], type := 25, pos := "outright.go:58", after := #[{ on := 15, ground := Ground.data }], guard := none }
def ff717 : Oper := { dst := some 36, op := Op.call { callee := Callee.builtin Builtin.append, args := #[Operand.tmp 32, Operand.tmp 35], argTypes := #[25, 25] }, type := 25, pos := "outright.go:58", after := #[{ on := 13, ground := Ground.data }, { on := 16, ground := Ground.data }, { on := 15, ground := Ground.chain }], guard := none }
def ff718 : Oper := { dst := some 37, op := Op.fieldAddr 37 (Operand.tmp 9) 0, type := 0, pos := "outright.go:58", after := #[{ on := 0, ground := Ground.phase }, { on := 1, ground := Ground.phase }, { on := 2, ground := Ground.phase }, { on := 3, ground := Ground.phase }, { on := 4, ground := Ground.phase }, { on := 5, ground := Ground.phase }, { on := 6, ground := Ground.phase }, { on := 7, ground := Ground.phase }, { on := 8, ground := Ground.textOnly Departure.lateStores }, { on := 9, ground := Ground.textOnly Departure.lateStoresUnsure }, { on := 10, ground := Ground.textOnly Departure.lateStores }, { on := 11, ground := Ground.textOnly Departure.lateStoresUnsure }, { on := 12, ground := Ground.phase }, { on := 13, ground := Ground.phase }, { on := 14, ground := Ground.textOnly Departure.lateStores }, { on := 15, ground := Ground.textOnly Departure.lateStoresUnsure }, { on := 16, ground := Ground.textOnly Departure.lateStores }, { on := 17, ground := Ground.textOnly Departure.lateStoresUnsure }], guard := none }
def ff719 : Oper := { dst := none, op := Op.store 25 (Operand.tmp 37) (Operand.tmp 24), type := 0, pos := "outright.go:58", after := #[{ on := 18, ground := Ground.data }, { on := 5, ground := Ground.data }, { on := 17, ground := Ground.chain }, { on := 0, ground := Ground.phase }, { on := 1, ground := Ground.phase }, { on := 2, ground := Ground.phase }, { on := 3, ground := Ground.phase }, { on := 4, ground := Ground.phase }, { on := 5, ground := Ground.phase }, { on := 6, ground := Ground.phase }, { on := 7, ground := Ground.phase }, { on := 8, ground := Ground.textOnly Departure.lateStores }, { on := 9, ground := Ground.textOnly Departure.lateStoresUnsure }, { on := 10, ground := Ground.textOnly Departure.lateStores }, { on := 11, ground := Ground.textOnly Departure.lateStoresUnsure }, { on := 12, ground := Ground.phase }, { on := 13, ground := Ground.phase }, { on := 14, ground := Ground.textOnly Departure.lateStores }, { on := 15, ground := Ground.textOnly Departure.lateStoresUnsure }, { on := 16, ground := Ground.textOnly Departure.lateStores }, { on := 17, ground := Ground.textOnly Departure.lateStoresUnsure }], guard := none }
def ff720 : Oper := { dst := some 38, op := Op.fieldAddr 37 (Operand.tmp 9) 1, type := 0, pos := "outright.go:58", after := #[{ on := 0, ground := Ground.phase }, { on := 1, ground := Ground.phase }, { on := 2, ground := Ground.phase }, { on := 3, ground := Ground.phase }, { on := 4, ground := Ground.phase }, { on := 5, ground := Ground.phase }, { on := 6, ground := Ground.phase }, { on := 7, ground := Ground.phase }, { on := 8, ground := Ground.phase }, { on := 9, ground := Ground.phase }, { on := 10, ground := Ground.phase }, { on := 11, ground := Ground.phase }, { on := 12, ground := Ground.phase }, { on := 13, ground := Ground.phase }, { on := 14, ground := Ground.textOnly Departure.lateStores }, { on := 15, ground := Ground.textOnly Departure.lateStoresUnsure }, { on := 16, ground := Ground.textOnly Departure.lateStores }, { on := 17, ground := Ground.textOnly Departure.lateStoresUnsure }, { on := 18, ground := Ground.phase }, { on := 19, ground := Ground.phase }], guard := none }
def ff721 : Oper := { dst := none, op := Op.store 25 (Operand.tmp 38) (Operand.tmp 30), type := 0, pos := "outright.go:58", after := #[{ on := 20, ground := Ground.data }, { on := 11, ground := Ground.data }, { on := 19, ground := Ground.chain }, { on := 0, ground := Ground.phase }, { on := 1, ground := Ground.phase }, { on := 2, ground := Ground.phase }, { on := 3, ground := Ground.phase }, { on := 4, ground := Ground.phase }, { on := 5, ground := Ground.phase }, { on := 6, ground := Ground.phase }, { on := 7, ground := Ground.phase }, { on := 8, ground := Ground.phase }, { on := 9, ground := Ground.phase }, { on := 10, ground := Ground.phase }, { on := 11, ground := Ground.phase }, { on := 12, ground := Ground.phase }, { on := 13, ground := Ground.phase }, { on := 14, ground := Ground.textOnly Departure.lateStores }, { on := 15, ground := Ground.textOnly Departure.lateStoresUnsure }, { on := 16, ground := Ground.textOnly Departure.lateStores }, { on := 17, ground := Ground.textOnly Departure.lateStoresUnsure }, { on := 18, ground := Ground.phase }, { on := 19, ground := Ground.phase }], guard := none }
def ff722 : Oper := { dst := some 39, op := Op.fieldAddr 37 (Operand.tmp 9) 2, type := 0, pos := "outright.go:58", after := #[{ on := 0, ground := Ground.phase }, { on := 1, ground := Ground.phase }, { on := 2, ground := Ground.phase }, { on := 3, ground := Ground.phase }, { on := 4, ground := Ground.phase }, { on := 5, ground := Ground.phase }, { on := 6, ground := Ground.phase }, { on := 7, ground := Ground.phase }, { on := 8, ground := Ground.phase }, { on := 9, ground := Ground.phase }, { on := 10, ground := Ground.phase }, { on := 11, ground := Ground.phase }, { on := 12, ground := Ground.phase }, { on := 13, ground := Ground.phase }, { on := 14, ground := Ground.phase }, { on := 15, ground := Ground.phase }, { on := 16, ground := Ground.phase }, { on := 17, ground := Ground.phase }, { on := 18, ground := Ground.phase }, { on := 19, ground := Ground.phase }, { on := 20, ground := Ground.phase }, { on := 21, ground := Ground.phase }], guard := none }
def ff723 : Oper := { dst := none, op := Op.store 25 (Operand.tmp 39) (Operand.tmp 36), type := 0, pos := "outright.go:58", after := #[{ on := 22, ground := Ground.data }, { on := 17, ground := Ground.data }, { on := 21, ground := Ground.chain }, { on := 0, ground := Ground.phase }, { on := 1, ground := Ground.phase }, { on := 2, ground := Ground.phase }, { on := 3, ground := Ground.phase }, { on := 4, ground := Ground.phase }, { on := 5, ground := Ground.phase }, { on := 6, ground := Ground.phase }, { on := 7, ground := Ground.phase }, { on := 8, ground := Ground.phase }, { on := 9, ground := Ground.phase }, { on := 10, ground := Ground.phase }, { on := 11, ground := Ground.phase }, { on := 12, ground := Ground.phase }, { on := 13, ground := Ground.phase }, { on := 14, ground := Ground.phase }, { on := 15, ground := Ground.phase }, { on := 16, ground := Ground.phase }, { on := 17, ground := Ground.phase }, { on := 18, ground := Ground.phase }, { on := 19, ground := Ground.phase }, { on := 20, ground := Ground.phase }, { on := 21, ground := Ground.phase }], guard := none }
def ff7o : Array Oper := #[ff70, ff71, ff72, ff73, ff74, ff75, ff76, ff77, ff78, ff79, ff710, ff711, ff712, ff713, ff714, ff715, ff716, ff717, ff718, ff719, ff720, ff721, ff722, ff723]
structure ff7h (w9 : World) (l : Sl) (k : Nat) (R : Nat → Value) (n : Nat → Nat) (W : World) : Prop where
 FI0 : Hid (Fi w9 l k R R n W)
 CN : Hid (∀ (k' : Nat) (C R : Nat → Value) (n : Nat → Nat) (x : World), k' ≤ 1000000 → Fi w9 l k' C R n x → Calls Tryd.prog 35 #[.pointer (some ⟨w9.heap.size + 2, 0, none⟩), .pointer (some ⟨w9.heap.size, 0, none⟩)] x fun e y => ∃ r : E4, e = .returned (.agg #[.int .u64 r.x0, .int .u64 r.x1, .int .u64 r.x2, .int .u64 r.x3]) ∧ r.ok ∧ Fi w9 l (k' + 1) C R n y)
 HK : Hid (k + 3 ≤ 1000000)
 NJ0 : Hid (n 0 ≤ 100000)
 NJ1 : Hid (n 1 ≤ 100000)
 NJ2 : Hid (n 2 ≤ 100000)
def ff7S (U : Nat → Value) (w9 : World) (l : Sl) (k : Nat) (R : Nat → Value) (n : Nat → Nat) (r1 : E4) (t1 : Nat) (v1 : Value) (r2 : E4) (t2 : Nat) (v2 : Value) (r3 : E4) (t3 : Nat) (v3 : Value) (f1 f3 f4 f5 f7 f9 f10 f11 f13 f15 f16 f17 f18 f20 f22 : Bool) : Array Value := #[U 0, U 1, U 2, U 3, U 4, U 5, U 6, U 7, .func (.func 35) #[] #[.pointer (some ⟨w9.heap.size + 2, 0, none⟩), .pointer (some ⟨w9.heap.size, 0, none⟩)], .pointer (some ⟨w9.heap.size + 3, 0, none⟩), U 10, U 11, U 12, U 13, U 14, U 15, U 16, U 17, U 18, .pointer (some ⟨w9.heap.size + 3, 0, none⟩), bif f1 then (R 0) else U 20, .func (.func 35) #[] #[.pointer (some ⟨w9.heap.size + 2, 0, none⟩), .pointer (some ⟨w9.heap.size, 0, none⟩)], bif f3 then .agg #[.int .u64 r1.x0, .int .u64 r1.x1, .int .u64 r1.x2, .int .u64 r1.x3] else U 22, bif f4 then .slice (some ⟨t1, 0, none⟩) 1 1 else U 23, bif f5 then v1 else U 24, .pointer (some ⟨w9.heap.size + 3, 1, none⟩), bif f7 then (R 1) else U 26, .func (.func 35) #[] #[.pointer (some ⟨w9.heap.size + 2, 0, none⟩), .pointer (some ⟨w9.heap.size, 0, none⟩)], bif f9 then .agg #[.int .u64 r2.x0, .int .u64 r2.x1, .int .u64 r2.x2, .int .u64 r2.x3] else U 28, bif f10 then .slice (some ⟨t2, 0, none⟩) 1 1 else U 29, bif f11 then v2 else U 30, .pointer (some ⟨w9.heap.size + 3, 2, none⟩), bif f13 then (R 2) else U 32, .func (.func 35) #[] #[.pointer (some ⟨w9.heap.size + 2, 0, none⟩), .pointer (some ⟨w9.heap.size, 0, none⟩)], bif f15 then .agg #[.int .u64 r3.x0, .int .u64 r3.x1, .int .u64 r3.x2, .int .u64 r3.x3] else U 34, bif f16 then .slice (some ⟨t3, 0, none⟩) 1 1 else U 35, bif f17 then v3 else U 36, bif f18 then .pointer (some ⟨w9.heap.size + 3, 0, none⟩) else U 37, bif f20 then .pointer (some ⟨w9.heap.size + 3, 1, none⟩) else U 38, bif f22 then .pointer (some ⟨w9.heap.size + 3, 2, none⟩) else U 39, U 40, U 41, U 42, U 43, U 44, U 45, U 46, U 47, U 48, U 49, U 50, U 51, U 52, U 53, U 54, U 55, U 56, U 57, U 58, U 59, U 60, U 61, U 62, U 63, U 64, U 65, U 66, U 67, U 68, U 69]
def ff7G (Q : Exit → Act → World → Prop) (w9 : World) (l : Sl) (k : Nat) (R : Nat → Value) (n : Nat → Nat) (W : World) (fuel : Nat) (listed : Array Bool) (a : Array Value) (w : World) : Prop := wpAnyH Tryd.prog Region.Mode.any ff7o (NoPanic Q) (fun x => Below w9.heap.size w9 x) fuel listed ⟨a, []⟩ w
def ff7f (Q : Exit → Act → World → Prop) (w9 : World) (l : Sl) (k : Nat) (R : Nat → Value) (n : Nat → Nat) (U : Nat → Value) (W : World) : Prop := ∀ (wz : World) (r1 r2 r3 : E4) (t1 t2 t3 : Nat) (v1 v2 v3 : Value), Fi w9 l (((k + 1) + 1) + 1) (upd (upd (upd R 0 v1) 1 v2) 2 v3) (upd (upd (upd R 0 v1) 1 v2) 2 v3) (upd (upd (upd n 0 (n 0 + 1)) 1 (n 1 + 1)) 2 (n 2 + 1)) wz → Q .normal ⟨ff7S U w9 l k R n r1 t1 v1 r2 t2 v2 r3 t3 v3 true true true true true true true true true true true true true true true, []⟩ wz
section
variable {Q : Exit → Act → World → Prop} {w9 : World} {l : Sl} {k : Nat} {R : Nat → Value} {n : Nat → Nat} {U : Nat → Value} {W : World}
theorem ff7_ffffff (H : ff7h w9 l k R n W) (r1 : E4) (t1 : Nat) (v1 : Value) (r2 : E4) (t2 : Nat) (v2 : Value) (r3 : E4) (t3 : Nat) (v3 : Value) (w : World) (listed : Array Bool) (hl : listed = #[true, true, true, true, true, true, true, true, true, true, true, true, true, true, true, true, true, true, true, true, true, true, true, true]) (FI : Hid (Fi w9 l (((k + 1) + 1) + 1) (upd (upd (upd R 0 v1) 1 v2) 2 v3) (upd (upd (upd R 0 v1) 1 v2) 2 v3) (upd (upd (upd n 0 (n 0 + 1)) 1 (n 1 + 1)) 2 (n 2 + 1)) w)) (HH : Hid (Below w9.heap.size w9 w)) (HQ : Hid (ff7f Q w9 l k R n U W)) : ff7G Q w9 l k R n W 0 listed (ff7S U w9 l k R n r1 t1 v1 r2 t2 v2 r3 t3 v3 true true true true true true true true true true true true true true true) w := by
 subst hl
 have H0 := H
 obtain ⟨FI0, CN, HK, NJ0, NJ1, NJ2⟩ := H
 simp only [ff7G, ff7S, cond_true, cond_false]
 refine wpAnyH_done (by kernel_rfl) ?_ _
 refine NoPanic.normal ?_
 exact HQ.out _ r1 r2 r3 t1 t2 t3 v1 v2 v3 FI.out
theorem ff7_7fffff (H : ff7h w9 l k R n W) (r1 : E4) (t1 : Nat) (v1 : Value) (r2 : E4) (t2 : Nat) (v2 : Value) (r3 : E4) (t3 : Nat) (v3 : Value) (w : World) (listed : Array Bool) (hl : listed = #[true, true, true, true, true, true, true, true, true, true, true, true, true, true, true, true, true, true, true, true, true, true, true, false]) (FI : Hid (Fi w9 l (((k + 1) + 1) + 1) (upd (upd R 0 v1) 1 v2) (upd (upd (upd R 0 v1) 1 v2) 2 v3) (upd (upd (upd n 0 (n 0 + 1)) 1 (n 1 + 1)) 2 (n 2 + 1)) w)) (HH : Hid (Below w9.heap.size w9 w)) (HQ : Hid (ff7f Q w9 l k R n U W)) : ff7G Q w9 l k R n W 1 listed (ff7S U w9 l k R n r1 t1 v1 r2 t2 v2 r3 t3 v3 true true true true true true true true true true true true true true true) w := by
 subst hl
 have H0 := H
 obtain ⟨FI0, CN, HK, NJ0, NJ1, NJ2⟩ := H
 simp only [ff7G, ff7S, cond_true, cond_false]
 refine wpAnyH_ready (rs := [23]) (by kernel_rfl) (by simp) ?_
 refine AllReadyH.cons (o := ff723) rfl (fun K hK => ?_) AllReadyH.nil
 refine wp_storeFi FI.out 2 (by omega) _ _ rfl rfl _ rfl rfl rfl (fun w2 hf => ?_)
 have SN := hidden (hf.bel : Below w9.heap.size w9 w2)
 replace FI := hidden (hf : Fi w9 l (((k + 1) + 1) + 1) (upd (upd (upd R 0 v1) 1 v2) 2 v3) (upd (upd (upd R 0 v1) 1 v2) 2 v3) (upd (upd (upd n 0 (n 0 + 1)) 1 (n 1 + 1)) 2 (n 2 + 1)) w2)
 replace HH := SN
 clear SN  hf
 refine hK.out _ _ HH.out (fun hH => ?_); clear hK K
 exact ff7_ffffff H0 r1 t1 v1 r2 t2 v2 r3 t3 v3 w2 _ (by kernel_rfl) FI HH HQ
theorem ff7_1fffff (H : ff7h w9 l k R n W) (r1 : E4) (t1 : Nat) (v1 : Value) (r2 : E4) (t2 : Nat) (v2 : Value) (r3 : E4) (t3 : Nat) (v3 : Value) (w : World) (listed : Array Bool) (hl : listed = #[true, true, true, true, true, true, true, true, true, true, true, true, true, true, true, true, true, true, true, true, true, false, false, false]) (FI : Hid (Fi w9 l (((k + 1) + 1) + 1) (upd R 0 v1) (upd (upd (upd R 0 v1) 1 v2) 2 v3) (upd (upd (upd n 0 (n 0 + 1)) 1 (n 1 + 1)) 2 (n 2 + 1)) w)) (HH : Hid (Below w9.heap.size w9 w)) (HQ : Hid (ff7f Q w9 l k R n U W)) : ff7G Q w9 l k R n W 3 listed (ff7S U w9 l k R n r1 t1 v1 r2 t2 v2 r3 t3 v3 true true true true true true true true true true true true true true false) w := by
 subst hl
 have H0 := H
 obtain ⟨FI0, CN, HK, NJ0, NJ1, NJ2⟩ := H
 simp only [ff7G, ff7S, cond_true, cond_false]
 refine wpAnyH_ready (rs := [21]) (by kernel_rfl) (by simp) ?_
 refine AllReadyH.cons (o := ff721) rfl (fun K hK => ?_) AllReadyH.nil
 refine wp_storeFi FI.out 1 (by omega) _ _ rfl rfl _ rfl rfl rfl (fun w2 hf => ?_)
 have SN := hidden (hf.bel : Below w9.heap.size w9 w2)
 replace FI := hidden (hf : Fi w9 l (((k + 1) + 1) + 1) (upd (upd R 0 v1) 1 v2) (upd (upd (upd R 0 v1) 1 v2) 2 v3) (upd (upd (upd n 0 (n 0 + 1)) 1 (n 1 + 1)) 2 (n 2 + 1)) w2)
 replace HH := SN
 clear SN  hf
 refine hK.out _ _ HH.out (fun hH => ?_); clear hK K
 refine tk 22 ff722 (.pointer (some ⟨w9.heap.size + 3, 2, none⟩)) rfl (by kernel_rfl) hH rfl (fun w0 hSw => ?_) ?_
 ·(unfold ff722; clear hSw; go_simp)
 unfold ff722
 simp only [Act.put, sA, sB, sC]
 exact ff7_7fffff H0 r1 t1 v1 r2 t2 v2 r3 t3 v3 w2 _ (by kernel_rfl) FI HH HQ
theorem ff7_7ffff (H : ff7h w9 l k R n W) (r1 : E4) (t1 : Nat) (v1 : Value) (r2 : E4) (t2 : Nat) (v2 : Value) (r3 : E4) (t3 : Nat) (v3 : Value) (w : World) (listed : Array Bool) (hl : listed = #[true, true, true, true, true, true, true, true, true, true, true, true, true, true, true, true, true, true, true, false, false, false, false, false]) (FI : Hid (Fi w9 l (((k + 1) + 1) + 1) R (upd (upd (upd R 0 v1) 1 v2) 2 v3) (upd (upd (upd n 0 (n 0 + 1)) 1 (n 1 + 1)) 2 (n 2 + 1)) w)) (HH : Hid (Below w9.heap.size w9 w)) (HQ : Hid (ff7f Q w9 l k R n U W)) : ff7G Q w9 l k R n W 5 listed (ff7S U w9 l k R n r1 t1 v1 r2 t2 v2 r3 t3 v3 true true true true true true true true true true true true true false false) w := by
 subst hl
 have H0 := H
 obtain ⟨FI0, CN, HK, NJ0, NJ1, NJ2⟩ := H
 simp only [ff7G, ff7S, cond_true, cond_false]
 refine wpAnyH_ready (rs := [19]) (by kernel_rfl) (by simp) ?_
 refine AllReadyH.cons (o := ff719) rfl (fun K hK => ?_) AllReadyH.nil
 refine wp_storeFi FI.out 0 (by omega) _ _ rfl rfl _ rfl rfl rfl (fun w2 hf => ?_)
 have SN := hidden (hf.bel : Below w9.heap.size w9 w2)
 replace FI := hidden (hf : Fi w9 l (((k + 1) + 1) + 1) (upd R 0 v1) (upd (upd (upd R 0 v1) 1 v2) 2 v3) (upd (upd (upd n 0 (n 0 + 1)) 1 (n 1 + 1)) 2 (n 2 + 1)) w2)
 replace HH := SN
 clear SN  hf
 refine hK.out _ _ HH.out (fun hH => ?_); clear hK K
 refine tk 20 ff720 (.pointer (some ⟨w9.heap.size + 3, 1, none⟩)) rfl (by kernel_rfl) hH rfl (fun w0 hSw => ?_) ?_
 ·(unfold ff720; clear hSw; go_simp)
 unfold ff720
 simp only [Act.put, sA, sB, sC]
 exact ff7_1fffff H0 r1 t1 v1 r2 t2 v2 r3 t3 v3 w2 _ (by kernel_rfl) FI HH HQ
theorem ff7_5ffff (H : ff7h w9 l k R n W) (r1 : E4) (t1 : Nat) (v1 : Value) (r2 : E4) (t2 : Nat) (v2 : Value) (r3 : E4) (t3 : Nat) (w : World) (listed : Array Bool) (hl : listed = #[true, true, true, true, true, true, true, true, true, true, true, true, true, true, true, true, true, false, true, false, false, false, false, false]) (OK3 : Hid (r3.ok)) (CK3 : Hid (w.rangeAt t3 0 [.int .u64 r3.x0, .int .u64 r3.x1, .int .u64 r3.x2, .int .u64 r3.x3])) (FI : Hid (Fi w9 l (((k + 1) + 1) + 1) R (upd (upd R 0 v1) 1 v2) (upd (upd n 0 (n 0 + 1)) 1 (n 1 + 1)) w)) (HH : Hid (Below w9.heap.size w9 w)) (HQ : Hid (ff7f Q w9 l k R n U W)) : ff7G Q w9 l k R n W 6 listed (ff7S U w9 l k R n r1 t1 v1 r2 t2 v2 r3 t3 undef true true true true true true true true true true true false true false false) w := by
 subst hl
 have H0 := H
 obtain ⟨FI0, CN, HK, NJ0, NJ1, NJ2⟩ := H
 simp only [ff7G, ff7S, cond_true, cond_false]
 refine wpAnyH_ready (rs := [17]) (by kernel_rfl) (by simp) ?_
 refine AllReadyH.cons (o := ff717) rfl (fun K hK => ?_) AllReadyH.nil
 refine wp_appFi FI.out 2 (by omega) _ _ rfl _ rfl rfl t3 rfl r3 CK3.out OK3.out NJ2.out (fun v3 w2 hf => ?_)
 have SN := hidden (hf.bel : Below w9.heap.size w9 w2)
 replace FI := hidden (hf : Fi w9 l (((k + 1) + 1) + 1) R (upd (upd (upd R 0 v1) 1 v2) 2 v3) (upd (upd (upd n 0 (n 0 + 1)) 1 (n 1 + 1)) 2 (n 2 + 1)) w2)
 replace HH := SN
 clear SN OK3 CK3 hf
 unfold ff717
 simp only [Act.put, sA, sB, sC]
 refine hK.out _ _ HH.out (fun hH => ?_); clear hK K
 exact ff7_7ffff H0 r1 t1 v1 r2 t2 v2 r3 t3 v3 w2 _ (by kernel_rfl) FI HH HQ
theorem ff7_4ffff (H : ff7h w9 l k R n W) (r1 : E4) (t1 : Nat) (v1 : Value) (r2 : E4) (t2 : Nat) (v2 : Value) (r3 : E4) (w : World) (listed : Array Bool) (hl : listed = #[true, true, true, true, true, true, true, true, true, true, true, true, true, true, true, true, false, false, true, false, false, false, false, false]) (OK3 : Hid (r3.ok)) (FI : Hid (Fi w9 l (((k + 1) + 1) + 1) R (upd (upd R 0 v1) 1 v2) (upd (upd n 0 (n 0 + 1)) 1 (n 1 + 1)) w)) (HH : Hid (Below w9.heap.size w9 w)) (HQ : Hid (ff7f Q w9 l k R n U W)) : ff7G Q w9 l k R n W 7 listed (ff7S U w9 l k R n r1 t1 v1 r2 t2 v2 r3 0 undef true true true true true true true true true true false false true false false) w := by
 subst hl
 have H0 := H
 obtain ⟨FI0, CN, HK, NJ0, NJ1, NJ2⟩ := H
 simp only [ff7G, ff7S, cond_true, cond_false]
 refine wpAnyH_ready (rs := [16]) (by kernel_rfl) (by simp) ?_
 refine AllReadyH.cons (o := ff716) rfl (fun K hK => ?_) AllReadyH.nil
 refine wp_build1P _ rfl r3 rfl (fun t3 w2 htb hwq => ?_)
 have hbb : Below w.heap.size w w2 := (by rw [hwq]; exact bl_alloc _ _)
 have SN := hidden (by rw [hwq]; exact bl_trans HH.out (bl_alloc _ _) : Below w9.heap.size w9 w2)
 have CK3 := hidden (by rw [htb, hwq]; exact range_newM _ _ _ : w2.rangeAt t3 0 [.int .u64 r3.x0, .int .u64 r3.x1, .int .u64 r3.x2, .int .u64 r3.x3])
 replace FI := hidden (FI.out.keep hbb : Fi w9 l (((k + 1) + 1) + 1) R (upd (upd R 0 v1) 1 v2) (upd (upd n 0 (n 0 + 1)) 1 (n 1 + 1)) w2)
 replace HH := SN
 clear SN hbb  htb hwq
 unfold ff716
 simp only [Act.put, sA, sB, sC]
 refine hK.out _ _ HH.out (fun hH => ?_); clear hK K
 exact ff7_5ffff H0 r1 t1 v1 r2 t2 v2 r3 t3 w2 _ (by kernel_rfl) OK3 CK3 FI HH HQ
theorem ff7_47fff (H : ff7h w9 l k R n W) (r1 : E4) (t1 : Nat) (v1 : Value) (r2 : E4) (t2 : Nat) (v2 : Value) (w : World) (listed : Array Bool) (hl : listed = #[true, true, true, true, true, true, true, true, true, true, true, true, true, true, true, false, false, false, true, false, false, false, false, false]) (FI : Hid (Fi w9 l ((k + 1) + 1) R (upd (upd R 0 v1) 1 v2) (upd (upd n 0 (n 0 + 1)) 1 (n 1 + 1)) w)) (HH : Hid (Below w9.heap.size w9 w)) (HQ : Hid (ff7f Q w9 l k R n U W)) : ff7G Q w9 l k R n W 8 listed (ff7S U w9 l k R n r1 t1 v1 r2 t2 v2 ⟨0, 0, 0, 0⟩ 0 undef true true true true true true true true true false false false true false false) w := by
 subst hl
 have H0 := H
 obtain ⟨FI0, CN, HK, NJ0, NJ1, NJ2⟩ := H
 simp only [ff7G, ff7S, cond_true, cond_false]
 refine wpAnyH_ready (rs := [15]) (by kernel_rfl) (by simp) ?_
 refine AllReadyH.cons (o := ff715) rfl (fun K hK => ?_) AllReadyH.nil
 unfold ff715
 go_simp
 refine (CN.out _ _ _ _ _ (by have := HK.out; omega) FI.out).mono ?_
 rintro e w2 ⟨r3, rfl, okr, hf⟩
 have SN := hidden (hf.bel : Below w9.heap.size w9 w2)
 have OK3 := hidden (okr : r3.ok)
 replace FI := hidden (hf : Fi w9 l (((k + 1) + 1) + 1) R (upd (upd R 0 v1) 1 v2) (upd (upd n 0 (n 0 + 1)) 1 (n 1 + 1)) w2)
 replace HH := SN
 clear SN  okr hf
 go_wp2_with fail
 refine hK.out _ _ HH.out (fun hH => ?_); clear hK K
 exact ff7_4ffff H0 r1 t1 v1 r2 t2 v2 r3 w2 _ (by kernel_rfl) OK3 FI HH HQ
theorem ff7_1dfff (H : ff7h w9 l k R n W) (r1 : E4) (t1 : Nat) (v1 : Value) (r2 : E4) (t2 : Nat) (v2 : Value) (r3 : E4) (t3 : Nat) (w : World) (listed : Array Bool) (hl : listed = #[true, true, true, true, true, true, true, true, true, true, true, true, true, false, true, true, true, false, false, false, false, false, false, false]) (OK3 : Hid (r3.ok)) (CK3 : Hid (w.rangeAt t3 0 [.int .u64 r3.x0, .int .u64 r3.x1, .int .u64 r3.x2, .int .u64 r3.x3])) (FI : Hid (Fi w9 l (((k + 1) + 1) + 1) R (upd (upd R 0 v1) 1 v2) (upd (upd n 0 (n 0 + 1)) 1 (n 1 + 1)) w)) (HH : Hid (Below w9.heap.size w9 w)) (HQ : Hid (ff7f Q w9 l k R n U W)) : ff7G Q w9 l k R n W 8 listed (ff7S U w9 l k R n r1 t1 v1 r2 t2 v2 r3 t3 undef true true true true true true true true false true true false false false false) w := by
 subst hl
 have H0 := H
 obtain ⟨FI0, CN, HK, NJ0, NJ1, NJ2⟩ := H
 simp only [ff7G, ff7S, cond_true, cond_false]
 refine wpAnyH_ready (rs := [13]) (by kernel_rfl) (by simp) ?_
 refine AllReadyH.cons (o := ff713) rfl (fun K hK => ?_) AllReadyH.nil
 refine wp_loadFi FI.out 2 (by omega) _ rfl rfl (Rw.shape (FI.out.rw 2 (by omega))) ?_
 unfold ff713
 simp only [Act.put, sA, sB, sC]
 refine hK.out _ _ HH.out (fun hH => ?_); clear hK K
 refine tk 18 ff718 (.pointer (some ⟨w9.heap.size + 3, 0, none⟩)) rfl (by kernel_rfl) hH rfl (fun w0 hSw => ?_) ?_
 ·(unfold ff718; clear hSw; go_simp)
 unfold ff718
 simp only [Act.put, sA, sB, sC]
 exact ff7_5ffff H0 r1 t1 v1 r2 t2 v2 r3 t3 w _ (by kernel_rfl) OK3 CK3 FI HH HQ
theorem ff7_477ff (H : ff7h w9 l k R n W) (r1 : E4) (t1 : Nat) (v1 : Value) (r2 : E4) (t2 : Nat) (w : World) (listed : Array Bool) (hl : listed = #[true, true, true, true, true, true, true, true, true, true, true, false, true, true, true, false, false, false, true, false, false, false, false, false]) (OK2 : Hid (r2.ok)) (CK2 : Hid (w.rangeAt t2 0 [.int .u64 r2.x0, .int .u64 r2.x1, .int .u64 r2.x2, .int .u64 r2.x3])) (FI : Hid (Fi w9 l ((k + 1) + 1) R (upd R 0 v1) (upd n 0 (n 0 + 1)) w)) (HH : Hid (Below w9.heap.size w9 w)) (HQ : Hid (ff7f Q w9 l k R n U W)) : ff7G Q w9 l k R n W 9 listed (ff7S U w9 l k R n r1 t1 v1 r2 t2 undef ⟨0, 0, 0, 0⟩ 0 undef true true true true true true true false true false false false true false false) w := by
 subst hl
 have H0 := H
 obtain ⟨FI0, CN, HK, NJ0, NJ1, NJ2⟩ := H
 simp only [ff7G, ff7S, cond_true, cond_false]
 refine wpAnyH_ready (rs := [11]) (by kernel_rfl) (by simp) ?_
 refine AllReadyH.cons (o := ff711) rfl (fun K hK => ?_) AllReadyH.nil
 refine wp_appFi FI.out 1 (by omega) _ _ rfl _ rfl rfl t2 rfl r2 CK2.out OK2.out NJ1.out (fun v2 w2 hf => ?_)
 have SN := hidden (hf.bel : Below w9.heap.size w9 w2)
 replace FI := hidden (hf : Fi w9 l ((k + 1) + 1) R (upd (upd R 0 v1) 1 v2) (upd (upd n 0 (n 0 + 1)) 1 (n 1 + 1)) w2)
 replace HH := SN
 clear SN OK2 CK2 hf
 unfold ff711
 simp only [Act.put, sA, sB, sC]
 refine hK.out _ _ HH.out (fun hH => ?_); clear hK K
 exact ff7_47fff H0 r1 t1 v1 r2 t2 v2 w2 _ (by kernel_rfl) FI HH HQ
theorem ff7_dfff (H : ff7h w9 l k R n W) (r1 : E4) (t1 : Nat) (v1 : Value) (r2 : E4) (t2 : Nat) (v2 : Value) (r3 : E4) (w : World) (listed : Array Bool) (hl : listed = #[true, true, true, true, true, true, true, true, true, true, true, true, true, false, true, true, false, false, false, false, false, false, false, false]) (OK3 : Hid (r3.ok)) (FI : Hid (Fi w9 l (((k + 1) + 1) + 1) R (upd (upd R 0 v1) 1 v2) (upd (upd n 0 (n 0 + 1)) 1 (n 1 + 1)) w)) (HH : Hid (Below w9.heap.size w9 w)) (HQ : Hid (ff7f Q w9 l k R n U W)) : ff7G Q w9 l k R n W 9 listed (ff7S U w9 l k R n r1 t1 v1 r2 t2 v2 r3 0 undef true true true true true true true true false true false false false false false) w := by
 subst hl
 have H0 := H
 obtain ⟨FI0, CN, HK, NJ0, NJ1, NJ2⟩ := H
 simp only [ff7G, ff7S, cond_true, cond_false]
 refine wpAnyH_ready (rs := [13, 16]) (by kernel_rfl) (by simp) ?_
 refine AllReadyH.cons (o := ff713) rfl (fun K hK => ?_) (AllReadyH.cons (o := ff716) rfl (fun K hK => ?_) AllReadyH.nil)
 ·refine wp_loadFi FI.out 2 (by omega) _ rfl rfl (Rw.shape (FI.out.rw 2 (by omega))) ?_
  unfold ff713
  simp only [Act.put, sA, sB, sC]
  refine hK.out _ _ HH.out (fun hH => ?_); clear hK K
  refine tk 18 ff718 (.pointer (some ⟨w9.heap.size + 3, 0, none⟩)) rfl (by kernel_rfl) hH rfl (fun w0 hSw => ?_) ?_
  ·(unfold ff718; clear hSw; go_simp)
  unfold ff718
  simp only [Act.put, sA, sB, sC]
  exact ff7_4ffff H0 r1 t1 v1 r2 t2 v2 r3 w _ (by kernel_rfl) OK3 FI HH HQ
 ·refine wp_build1P _ rfl r3 rfl (fun t3 w2 htb hwq => ?_)
  have hbb : Below w.heap.size w w2 := (by rw [hwq]; exact bl_alloc _ _)
  have SN := hidden (by rw [hwq]; exact bl_trans HH.out (bl_alloc _ _) : Below w9.heap.size w9 w2)
  have CK3 := hidden (by rw [htb, hwq]; exact range_newM _ _ _ : w2.rangeAt t3 0 [.int .u64 r3.x0, .int .u64 r3.x1, .int .u64 r3.x2, .int .u64 r3.x3])
  replace FI := hidden (FI.out.keep hbb : Fi w9 l (((k + 1) + 1) + 1) R (upd (upd R 0 v1) 1 v2) (upd (upd n 0 (n 0 + 1)) 1 (n 1 + 1)) w2)
  replace HH := SN
  clear SN hbb  htb hwq
  unfold ff716
  simp only [Act.put, sA, sB, sC]
  refine hK.out _ _ HH.out (fun hH => ?_); clear hK K
  exact ff7_1dfff H0 r1 t1 v1 r2 t2 v2 r3 t3 w2 _ (by kernel_rfl) OK3 CK3 FI HH HQ
theorem ff7_473ff (H : ff7h w9 l k R n W) (r1 : E4) (t1 : Nat) (v1 : Value) (r2 : E4) (w : World) (listed : Array Bool) (hl : listed = #[true, true, true, true, true, true, true, true, true, true, false, false, true, true, true, false, false, false, true, false, false, false, false, false]) (OK2 : Hid (r2.ok)) (FI : Hid (Fi w9 l ((k + 1) + 1) R (upd R 0 v1) (upd n 0 (n 0 + 1)) w)) (HH : Hid (Below w9.heap.size w9 w)) (HQ : Hid (ff7f Q w9 l k R n U W)) : ff7G Q w9 l k R n W 10 listed (ff7S U w9 l k R n r1 t1 v1 r2 0 undef ⟨0, 0, 0, 0⟩ 0 undef true true true true true true false false true false false false true false false) w := by
 subst hl
 have H0 := H
 obtain ⟨FI0, CN, HK, NJ0, NJ1, NJ2⟩ := H
 simp only [ff7G, ff7S, cond_true, cond_false]
 refine wpAnyH_ready (rs := [10]) (by kernel_rfl) (by simp) ?_
 refine AllReadyH.cons (o := ff710) rfl (fun K hK => ?_) AllReadyH.nil
 refine wp_build1P _ rfl r2 rfl (fun t2 w2 htb hwq => ?_)
 have hbb : Below w.heap.size w w2 := (by rw [hwq]; exact bl_alloc _ _)
 have SN := hidden (by rw [hwq]; exact bl_trans HH.out (bl_alloc _ _) : Below w9.heap.size w9 w2)
 have CK2 := hidden (by rw [htb, hwq]; exact range_newM _ _ _ : w2.rangeAt t2 0 [.int .u64 r2.x0, .int .u64 r2.x1, .int .u64 r2.x2, .int .u64 r2.x3])
 replace FI := hidden (FI.out.keep hbb : Fi w9 l ((k + 1) + 1) R (upd R 0 v1) (upd n 0 (n 0 + 1)) w2)
 replace HH := SN
 clear SN hbb  htb hwq
 unfold ff710
 simp only [Act.put, sA, sB, sC]
 refine hK.out _ _ HH.out (fun hH => ?_); clear hK K
 exact ff7_477ff H0 r1 t1 v1 r2 t2 w2 _ (by kernel_rfl) OK2 CK2 FI HH HQ
theorem ff7_5fff (H : ff7h w9 l k R n W) (r1 : E4) (t1 : Nat) (v1 : Value) (r2 : E4) (t2 : Nat) (v2 : Value) (w : World) (listed : Array Bool) (hl : listed = #[true, true, true, true, true, true, true, true, true, true, true, true, true, false, true, false, false, false, false, false, false, false, false, false]) (FI : Hid (Fi w9 l ((k + 1) + 1) R (upd (upd R 0 v1) 1 v2) (upd (upd n 0 (n 0 + 1)) 1 (n 1 + 1)) w)) (HH : Hid (Below w9.heap.size w9 w)) (HQ : Hid (ff7f Q w9 l k R n U W)) : ff7G Q w9 l k R n W 10 listed (ff7S U w9 l k R n r1 t1 v1 r2 t2 v2 ⟨0, 0, 0, 0⟩ 0 undef true true true true true true true true false false false false false false false) w := by
 subst hl
 have H0 := H
 obtain ⟨FI0, CN, HK, NJ0, NJ1, NJ2⟩ := H
 simp only [ff7G, ff7S, cond_true, cond_false]
 refine wpAnyH_ready (rs := [13, 15]) (by kernel_rfl) (by simp) ?_
 refine AllReadyH.cons (o := ff713) rfl (fun K hK => ?_) (AllReadyH.cons (o := ff715) rfl (fun K hK => ?_) AllReadyH.nil)
 ·refine wp_loadFi FI.out 2 (by omega) _ rfl rfl (Rw.shape (FI.out.rw 2 (by omega))) ?_
  unfold ff713
  simp only [Act.put, sA, sB, sC]
  refine hK.out _ _ HH.out (fun hH => ?_); clear hK K
  refine tk 18 ff718 (.pointer (some ⟨w9.heap.size + 3, 0, none⟩)) rfl (by kernel_rfl) hH rfl (fun w0 hSw => ?_) ?_
  ·(unfold ff718; clear hSw; go_simp)
  unfold ff718
  simp only [Act.put, sA, sB, sC]
  exact ff7_47fff H0 r1 t1 v1 r2 t2 v2 w _ (by kernel_rfl) FI HH HQ
 ·unfold ff715
  go_simp
  refine (CN.out _ _ _ _ _ (by have := HK.out; omega) FI.out).mono ?_
  rintro e w2 ⟨r3, rfl, okr, hf⟩
  have SN := hidden (hf.bel : Below w9.heap.size w9 w2)
  have OK3 := hidden (okr : r3.ok)
  replace FI := hidden (hf : Fi w9 l (((k + 1) + 1) + 1) R (upd (upd R 0 v1) 1 v2) (upd (upd n 0 (n 0 + 1)) 1 (n 1 + 1)) w2)
  replace HH := SN
  clear SN  okr hf
  go_wp2_with fail
  refine hK.out _ _ HH.out (fun hH => ?_); clear hK K
  exact ff7_dfff H0 r1 t1 v1 r2 t2 v2 r3 w2 _ (by kernel_rfl) OK3 FI HH HQ
theorem ff7_471ff (H : ff7h w9 l k R n W) (r1 : E4) (t1 : Nat) (v1 : Value) (w : World) (listed : Array Bool) (hl : listed = #[true, true, true, true, true, true, true, true, true, false, false, false, true, true, true, false, false, false, true, false, false, false, false, false]) (FI : Hid (Fi w9 l (k + 1) R (upd R 0 v1) (upd n 0 (n 0 + 1)) w)) (HH : Hid (Below w9.heap.size w9 w)) (HQ : Hid (ff7f Q w9 l k R n U W)) : ff7G Q w9 l k R n W 11 listed (ff7S U w9 l k R n r1 t1 v1 ⟨0, 0, 0, 0⟩ 0 undef ⟨0, 0, 0, 0⟩ 0 undef true true true true true false false false true false false false true false false) w := by
 subst hl
 have H0 := H
 obtain ⟨FI0, CN, HK, NJ0, NJ1, NJ2⟩ := H
 simp only [ff7G, ff7S, cond_true, cond_false]
 refine wpAnyH_ready (rs := [9]) (by kernel_rfl) (by simp) ?_
 refine AllReadyH.cons (o := ff79) rfl (fun K hK => ?_) AllReadyH.nil
 unfold ff79
 go_simp
 refine (CN.out _ _ _ _ _ (by have := HK.out; omega) FI.out).mono ?_
 rintro e w2 ⟨r2, rfl, okr, hf⟩
 have SN := hidden (hf.bel : Below w9.heap.size w9 w2)
 have OK2 := hidden (okr : r2.ok)
 replace FI := hidden (hf : Fi w9 l ((k + 1) + 1) R (upd R 0 v1) (upd n 0 (n 0 + 1)) w2)
 replace HH := SN
 clear SN  okr hf
 go_wp2_with fail
 refine hK.out _ _ HH.out (fun hH => ?_); clear hK K
 exact ff7_473ff H0 r1 t1 v1 r2 w2 _ (by kernel_rfl) OK2 FI HH HQ
theorem ff7_777f (H : ff7h w9 l k R n W) (r1 : E4) (t1 : Nat) (v1 : Value) (r2 : E4) (t2 : Nat) (w : World) (listed : Array Bool) (hl : listed = #[true, true, true, true, true, true, true, false, true, true, true, false, true, true, true, false, false, false, false, false, false, false, false, false]) (OK2 : Hid (r2.ok)) (CK2 : Hid (w.rangeAt t2 0 [.int .u64 r2.x0, .int .u64 r2.x1, .int .u64 r2.x2, .int .u64 r2.x3])) (FI : Hid (Fi w9 l ((k + 1) + 1) R (upd R 0 v1) (upd n 0 (n 0 + 1)) w)) (HH : Hid (Below w9.heap.size w9 w)) (HQ : Hid (ff7f Q w9 l k R n U W)) : ff7G Q w9 l k R n W 11 listed (ff7S U w9 l k R n r1 t1 v1 r2 t2 undef ⟨0, 0, 0, 0⟩ 0 undef true true true true false true true false true false false false false false false) w := by
 subst hl
 have H0 := H
 obtain ⟨FI0, CN, HK, NJ0, NJ1, NJ2⟩ := H
 simp only [ff7G, ff7S, cond_true, cond_false]
 refine wpAnyH_ready (rs := [7]) (by kernel_rfl) (by simp) ?_
 refine AllReadyH.cons (o := ff77) rfl (fun K hK => ?_) AllReadyH.nil
 refine wp_loadFi FI.out 1 (by omega) _ rfl rfl (Rw.shape (FI.out.rw 1 (by omega))) ?_
 unfold ff77
 simp only [Act.put, sA, sB, sC]
 refine hK.out _ _ HH.out (fun hH => ?_); clear hK K
 refine tk 18 ff718 (.pointer (some ⟨w9.heap.size + 3, 0, none⟩)) rfl (by kernel_rfl) hH rfl (fun w0 hSw => ?_) ?_
 ·(unfold ff718; clear hSw; go_simp)
 unfold ff718
 simp only [Act.put, sA, sB, sC]
 exact ff7_477ff H0 r1 t1 v1 r2 t2 w _ (by kernel_rfl) OK2 CK2 FI HH HQ
theorem ff7_57ff (H : ff7h w9 l k R n W) (r1 : E4) (t1 : Nat) (v1 : Value) (r2 : E4) (t2 : Nat) (w : World) (listed : Array Bool) (hl : listed = #[true, true, true, true, true, true, true, true, true, true, true, false, true, false, true, false, false, false, false, false, false, false, false, false]) (OK2 : Hid (r2.ok)) (CK2 : Hid (w.rangeAt t2 0 [.int .u64 r2.x0, .int .u64 r2.x1, .int .u64 r2.x2, .int .u64 r2.x3])) (FI : Hid (Fi w9 l ((k + 1) + 1) R (upd R 0 v1) (upd n 0 (n 0 + 1)) w)) (HH : Hid (Below w9.heap.size w9 w)) (HQ : Hid (ff7f Q w9 l k R n U W)) : ff7G Q w9 l k R n W 11 listed (ff7S U w9 l k R n r1 t1 v1 r2 t2 undef ⟨0, 0, 0, 0⟩ 0 undef true true true true true true true false false false false false false false false) w := by
 subst hl
 have H0 := H
 obtain ⟨FI0, CN, HK, NJ0, NJ1, NJ2⟩ := H
 simp only [ff7G, ff7S, cond_true, cond_false]
 refine wpAnyH_ready (rs := [11, 13]) (by kernel_rfl) (by simp) ?_
 refine AllReadyH.cons (o := ff711) rfl (fun K hK => ?_) (AllReadyH.cons (o := ff713) rfl (fun K hK => ?_) AllReadyH.nil)
 ·refine wp_appFi FI.out 1 (by omega) _ _ rfl _ rfl rfl t2 rfl r2 CK2.out OK2.out NJ1.out (fun v2 w2 hf => ?_)
  have SN := hidden (hf.bel : Below w9.heap.size w9 w2)
  replace FI := hidden (hf : Fi w9 l ((k + 1) + 1) R (upd (upd R 0 v1) 1 v2) (upd (upd n 0 (n 0 + 1)) 1 (n 1 + 1)) w2)
  replace HH := SN
  clear SN OK2 CK2 hf
  unfold ff711
  simp only [Act.put, sA, sB, sC]
  refine hK.out _ _ HH.out (fun hH => ?_); clear hK K
  exact ff7_5fff H0 r1 t1 v1 r2 t2 v2 w2 _ (by kernel_rfl) FI HH HQ
 ·refine wp_loadFi FI.out 2 (by omega) _ rfl rfl (Rw.shape (FI.out.rw 2 (by omega))) ?_
  unfold ff713
  simp only [Act.put, sA, sB, sC]
  refine hK.out _ _ HH.out (fun hH => ?_); clear hK K
  refine tk 18 ff718 (.pointer (some ⟨w9.heap.size + 3, 0, none⟩)) rfl (by kernel_rfl) hH rfl (fun w0 hSw => ?_) ?_
  ·(unfold ff718; clear hSw; go_simp)
  unfold ff718
  simp only [Act.put, sA, sB, sC]
  exact ff7_477ff H0 r1 t1 v1 r2 t2 w _ (by kernel_rfl) OK2 CK2 FI HH HQ
theorem ff7_737f (H : ff7h w9 l k R n W) (r1 : E4) (t1 : Nat) (v1 : Value) (r2 : E4) (w : World) (listed : Array Bool) (hl : listed = #[true, true, true, true, true, true, true, false, true, true, false, false, true, true, true, false, false, false, false, false, false, false, false, false]) (OK2 : Hid (r2.ok)) (FI : Hid (Fi w9 l ((k + 1) + 1) R (upd R 0 v1) (upd n 0 (n 0 + 1)) w)) (HH : Hid (Below w9.heap.size w9 w)) (HQ : Hid (ff7f Q w9 l k R n U W)) : ff7G Q w9 l k R n W 12 listed (ff7S U w9 l k R n r1 t1 v1 r2 0 undef ⟨0, 0, 0, 0⟩ 0 undef true true true true false true false false true false false false false false false) w := by
 subst hl
 have H0 := H
 obtain ⟨FI0, CN, HK, NJ0, NJ1, NJ2⟩ := H
 simp only [ff7G, ff7S, cond_true, cond_false]
 refine wpAnyH_ready (rs := [7, 10]) (by kernel_rfl) (by simp) ?_
 refine AllReadyH.cons (o := ff77) rfl (fun K hK => ?_) (AllReadyH.cons (o := ff710) rfl (fun K hK => ?_) AllReadyH.nil)
 ·refine wp_loadFi FI.out 1 (by omega) _ rfl rfl (Rw.shape (FI.out.rw 1 (by omega))) ?_
  unfold ff77
  simp only [Act.put, sA, sB, sC]
  refine hK.out _ _ HH.out (fun hH => ?_); clear hK K
  refine tk 18 ff718 (.pointer (some ⟨w9.heap.size + 3, 0, none⟩)) rfl (by kernel_rfl) hH rfl (fun w0 hSw => ?_) ?_
  ·(unfold ff718; clear hSw; go_simp)
  unfold ff718
  simp only [Act.put, sA, sB, sC]
  exact ff7_473ff H0 r1 t1 v1 r2 w _ (by kernel_rfl) OK2 FI HH HQ
 ·refine wp_build1P _ rfl r2 rfl (fun t2 w2 htb hwq => ?_)
  have hbb : Below w.heap.size w w2 := (by rw [hwq]; exact bl_alloc _ _)
  have SN := hidden (by rw [hwq]; exact bl_trans HH.out (bl_alloc _ _) : Below w9.heap.size w9 w2)
  have CK2 := hidden (by rw [htb, hwq]; exact range_newM _ _ _ : w2.rangeAt t2 0 [.int .u64 r2.x0, .int .u64 r2.x1, .int .u64 r2.x2, .int .u64 r2.x3])
  replace FI := hidden (FI.out.keep hbb : Fi w9 l ((k + 1) + 1) R (upd R 0 v1) (upd n 0 (n 0 + 1)) w2)
  replace HH := SN
  clear SN hbb  htb hwq
  unfold ff710
  simp only [Act.put, sA, sB, sC]
  refine hK.out _ _ HH.out (fun hH => ?_); clear hK K
  exact ff7_777f H0 r1 t1 v1 r2 t2 w2 _ (by kernel_rfl) OK2 CK2 FI HH HQ
theorem ff7_53ff (H : ff7h w9 l k R n W) (r1 : E4) (t1 : Nat) (v1 : Value) (r2 : E4) (w : World) (listed : Array Bool) (hl : listed = #[true, true, true, true, true, true, true, true, true, true, false, false, true, false, true, false, false, false, false, false, false, false, false, false]) (OK2 : Hid (r2.ok)) (FI : Hid (Fi w9 l ((k + 1) + 1) R (upd R 0 v1) (upd n 0 (n 0 + 1)) w)) (HH : Hid (Below w9.heap.size w9 w)) (HQ : Hid (ff7f Q w9 l k R n U W)) : ff7G Q w9 l k R n W 12 listed (ff7S U w9 l k R n r1 t1 v1 r2 0 undef ⟨0, 0, 0, 0⟩ 0 undef true true true true true true false false false false false false false false false) w := by
 subst hl
 have H0 := H
 obtain ⟨FI0, CN, HK, NJ0, NJ1, NJ2⟩ := H
 simp only [ff7G, ff7S, cond_true, cond_false]
 refine wpAnyH_ready (rs := [10, 13]) (by kernel_rfl) (by simp) ?_
 refine AllReadyH.cons (o := ff710) rfl (fun K hK => ?_) (AllReadyH.cons (o := ff713) rfl (fun K hK => ?_) AllReadyH.nil)
 ·refine wp_build1P _ rfl r2 rfl (fun t2 w2 htb hwq => ?_)
  have hbb : Below w.heap.size w w2 := (by rw [hwq]; exact bl_alloc _ _)
  have SN := hidden (by rw [hwq]; exact bl_trans HH.out (bl_alloc _ _) : Below w9.heap.size w9 w2)
  have CK2 := hidden (by rw [htb, hwq]; exact range_newM _ _ _ : w2.rangeAt t2 0 [.int .u64 r2.x0, .int .u64 r2.x1, .int .u64 r2.x2, .int .u64 r2.x3])
  replace FI := hidden (FI.out.keep hbb : Fi w9 l ((k + 1) + 1) R (upd R 0 v1) (upd n 0 (n 0 + 1)) w2)
  replace HH := SN
  clear SN hbb  htb hwq
  unfold ff710
  simp only [Act.put, sA, sB, sC]
  refine hK.out _ _ HH.out (fun hH => ?_); clear hK K
  exact ff7_57ff H0 r1 t1 v1 r2 t2 w2 _ (by kernel_rfl) OK2 CK2 FI HH HQ
 ·refine wp_loadFi FI.out 2 (by omega) _ rfl rfl (Rw.shape (FI.out.rw 2 (by omega))) ?_
  unfold ff713
  simp only [Act.put, sA, sB, sC]
  refine hK.out _ _ HH.out (fun hH => ?_); clear hK K
  refine tk 18 ff718 (.pointer (some ⟨w9.heap.size + 3, 0, none⟩)) rfl (by kernel_rfl) hH rfl (fun w0 hSw => ?_) ?_
  ·(unfold ff718; clear hSw; go_simp)
  unfold ff718
  simp only [Act.put, sA, sB, sC]
  exact ff7_473ff H0 r1 t1 v1 r2 w _ (by kernel_rfl) OK2 FI HH HQ
theorem ff7_577f (H : ff7h w9 l k R n W) (r1 : E4) (t1 : Nat) (v1 : Value) (r2 : E4) (t2 : Nat) (w : World) (listed : Array Bool) (hl : listed = #[true, true, true, true, true, true, true, false, true, true, true, false, true, false, true, false, false, false, false, false, false, false, false, false]) (OK2 : Hid (r2.ok)) (CK2 : Hid (w.rangeAt t2 0 [.int .u64 r2.x0, .int .u64 r2.x1, .int .u64 r2.x2, .int .u64 r2.x3])) (FI : Hid (Fi w9 l ((k + 1) + 1) R (upd R 0 v1) (upd n 0 (n 0 + 1)) w)) (HH : Hid (Below w9.heap.size w9 w)) (HQ : Hid (ff7f Q w9 l k R n U W)) : ff7G Q w9 l k R n W 12 listed (ff7S U w9 l k R n r1 t1 v1 r2 t2 undef ⟨0, 0, 0, 0⟩ 0 undef true true true true false true true false false false false false false false false) w := by
 subst hl
 have H0 := H
 obtain ⟨FI0, CN, HK, NJ0, NJ1, NJ2⟩ := H
 simp only [ff7G, ff7S, cond_true, cond_false]
 refine wpAnyH_ready (rs := [7, 13]) (by kernel_rfl) (by simp) ?_
 refine AllReadyH.cons (o := ff77) rfl (fun K hK => ?_) (AllReadyH.cons (o := ff713) rfl (fun K hK => ?_) AllReadyH.nil)
 ·refine wp_loadFi FI.out 1 (by omega) _ rfl rfl (Rw.shape (FI.out.rw 1 (by omega))) ?_
  unfold ff77
  simp only [Act.put, sA, sB, sC]
  refine hK.out _ _ HH.out (fun hH => ?_); clear hK K
  exact ff7_57ff H0 r1 t1 v1 r2 t2 w _ (by kernel_rfl) OK2 CK2 FI HH HQ
 ·refine wp_loadFi FI.out 2 (by omega) _ rfl rfl (Rw.shape (FI.out.rw 2 (by omega))) ?_
  unfold ff713
  simp only [Act.put, sA, sB, sC]
  refine hK.out _ _ HH.out (fun hH => ?_); clear hK K
  exact ff7_777f H0 r1 t1 v1 r2 t2 w _ (by kernel_rfl) OK2 CK2 FI HH HQ
theorem ff7_71df (H : ff7h w9 l k R n W) (r1 : E4) (t1 : Nat) (w : World) (listed : Array Bool) (hl : listed = #[true, true, true, true, true, false, true, true, true, false, false, false, true, true, true, false, false, false, false, false, false, false, false, false]) (OK1 : Hid (r1.ok)) (CK1 : Hid (w.rangeAt t1 0 [.int .u64 r1.x0, .int .u64 r1.x1, .int .u64 r1.x2, .int .u64 r1.x3])) (FI : Hid (Fi w9 l (k + 1) R R n w)) (HH : Hid (Below w9.heap.size w9 w)) (HQ : Hid (ff7f Q w9 l k R n U W)) : ff7G Q w9 l k R n W 13 listed (ff7S U w9 l k R n r1 t1 undef ⟨0, 0, 0, 0⟩ 0 undef ⟨0, 0, 0, 0⟩ 0 undef true true true false true false false false true false false false false false false) w := by
 subst hl
 have H0 := H
 obtain ⟨FI0, CN, HK, NJ0, NJ1, NJ2⟩ := H
 simp only [ff7G, ff7S, cond_true, cond_false]
 refine wpAnyH_ready (rs := [5]) (by kernel_rfl) (by simp) ?_
 refine AllReadyH.cons (o := ff75) rfl (fun K hK => ?_) AllReadyH.nil
 refine wp_appFi FI.out 0 (by omega) _ _ rfl _ rfl rfl t1 rfl r1 CK1.out OK1.out NJ0.out (fun v1 w2 hf => ?_)
 have SN := hidden (hf.bel : Below w9.heap.size w9 w2)
 replace FI := hidden (hf : Fi w9 l (k + 1) R (upd R 0 v1) (upd n 0 (n 0 + 1)) w2)
 replace HH := SN
 clear SN OK1 CK1 hf
 unfold ff75
 simp only [Act.put, sA, sB, sC]
 refine hK.out _ _ HH.out (fun hH => ?_); clear hK K
 refine tk 18 ff718 (.pointer (some ⟨w9.heap.size + 3, 0, none⟩)) rfl (by kernel_rfl) hH rfl (fun w0 hSw => ?_) ?_
 ·(unfold ff718; clear hSw; go_simp)
 unfold ff718
 simp only [Act.put, sA, sB, sC]
 exact ff7_471ff H0 r1 t1 v1 w2 _ (by kernel_rfl) FI HH HQ
theorem ff7_717f (H : ff7h w9 l k R n W) (r1 : E4) (t1 : Nat) (v1 : Value) (w : World) (listed : Array Bool) (hl : listed = #[true, true, true, true, true, true, true, false, true, false, false, false, true, true, true, false, false, false, false, false, false, false, false, false]) (FI : Hid (Fi w9 l (k + 1) R (upd R 0 v1) (upd n 0 (n 0 + 1)) w)) (HH : Hid (Below w9.heap.size w9 w)) (HQ : Hid (ff7f Q w9 l k R n U W)) : ff7G Q w9 l k R n W 13 listed (ff7S U w9 l k R n r1 t1 v1 ⟨0, 0, 0, 0⟩ 0 undef ⟨0, 0, 0, 0⟩ 0 undef true true true true false false false false true false false false false false false) w := by
 subst hl
 have H0 := H
 obtain ⟨FI0, CN, HK, NJ0, NJ1, NJ2⟩ := H
 simp only [ff7G, ff7S, cond_true, cond_false]
 refine wpAnyH_ready (rs := [7, 9]) (by kernel_rfl) (by simp) ?_
 refine AllReadyH.cons (o := ff77) rfl (fun K hK => ?_) (AllReadyH.cons (o := ff79) rfl (fun K hK => ?_) AllReadyH.nil)
 ·refine wp_loadFi FI.out 1 (by omega) _ rfl rfl (Rw.shape (FI.out.rw 1 (by omega))) ?_
  unfold ff77
  simp only [Act.put, sA, sB, sC]
  refine hK.out _ _ HH.out (fun hH => ?_); clear hK K
  refine tk 18 ff718 (.pointer (some ⟨w9.heap.size + 3, 0, none⟩)) rfl (by kernel_rfl) hH rfl (fun w0 hSw => ?_) ?_
  ·(unfold ff718; clear hSw; go_simp)
  unfold ff718
  simp only [Act.put, sA, sB, sC]
  exact ff7_471ff H0 r1 t1 v1 w _ (by kernel_rfl) FI HH HQ
 ·unfold ff79
  go_simp
  refine (CN.out _ _ _ _ _ (by have := HK.out; omega) FI.out).mono ?_
  rintro e w2 ⟨r2, rfl, okr, hf⟩
  have SN := hidden (hf.bel : Below w9.heap.size w9 w2)
  have OK2 := hidden (okr : r2.ok)
  replace FI := hidden (hf : Fi w9 l ((k + 1) + 1) R (upd R 0 v1) (upd n 0 (n 0 + 1)) w2)
  replace HH := SN
  clear SN  okr hf
  go_wp2_with fail
  refine hK.out _ _ HH.out (fun hH => ?_); clear hK K
  exact ff7_737f H0 r1 t1 v1 r2 w2 _ (by kernel_rfl) OK2 FI HH HQ
theorem ff7_51ff (H : ff7h w9 l k R n W) (r1 : E4) (t1 : Nat) (v1 : Value) (w : World) (listed : Array Bool) (hl : listed = #[true, true, true, true, true, true, true, true, true, false, false, false, true, false, true, false, false, false, false, false, false, false, false, false]) (FI : Hid (Fi w9 l (k + 1) R (upd R 0 v1) (upd n 0 (n 0 + 1)) w)) (HH : Hid (Below w9.heap.size w9 w)) (HQ : Hid (ff7f Q w9 l k R n U W)) : ff7G Q w9 l k R n W 13 listed (ff7S U w9 l k R n r1 t1 v1 ⟨0, 0, 0, 0⟩ 0 undef ⟨0, 0, 0, 0⟩ 0 undef true true true true true false false false false false false false false false false) w := by
 subst hl
 have H0 := H
 obtain ⟨FI0, CN, HK, NJ0, NJ1, NJ2⟩ := H
 simp only [ff7G, ff7S, cond_true, cond_false]
 refine wpAnyH_ready (rs := [9, 13]) (by kernel_rfl) (by simp) ?_
 refine AllReadyH.cons (o := ff79) rfl (fun K hK => ?_) (AllReadyH.cons (o := ff713) rfl (fun K hK => ?_) AllReadyH.nil)
 ·unfold ff79
  go_simp
  refine (CN.out _ _ _ _ _ (by have := HK.out; omega) FI.out).mono ?_
  rintro e w2 ⟨r2, rfl, okr, hf⟩
  have SN := hidden (hf.bel : Below w9.heap.size w9 w2)
  have OK2 := hidden (okr : r2.ok)
  replace FI := hidden (hf : Fi w9 l ((k + 1) + 1) R (upd R 0 v1) (upd n 0 (n 0 + 1)) w2)
  replace HH := SN
  clear SN  okr hf
  go_wp2_with fail
  refine hK.out _ _ HH.out (fun hH => ?_); clear hK K
  exact ff7_53ff H0 r1 t1 v1 r2 w2 _ (by kernel_rfl) OK2 FI HH HQ
 ·refine wp_loadFi FI.out 2 (by omega) _ rfl rfl (Rw.shape (FI.out.rw 2 (by omega))) ?_
  unfold ff713
  simp only [Act.put, sA, sB, sC]
  refine hK.out _ _ HH.out (fun hH => ?_); clear hK K
  refine tk 18 ff718 (.pointer (some ⟨w9.heap.size + 3, 0, none⟩)) rfl (by kernel_rfl) hH rfl (fun w0 hSw => ?_) ?_
  ·(unfold ff718; clear hSw; go_simp)
  unfold ff718
  simp only [Act.put, sA, sB, sC]
  exact ff7_471ff H0 r1 t1 v1 w _ (by kernel_rfl) FI HH HQ
theorem ff7_537f (H : ff7h w9 l k R n W) (r1 : E4) (t1 : Nat) (v1 : Value) (r2 : E4) (w : World) (listed : Array Bool) (hl : listed = #[true, true, true, true, true, true, true, false, true, true, false, false, true, false, true, false, false, false, false, false, false, false, false, false]) (OK2 : Hid (r2.ok)) (FI : Hid (Fi w9 l ((k + 1) + 1) R (upd R 0 v1) (upd n 0 (n 0 + 1)) w)) (HH : Hid (Below w9.heap.size w9 w)) (HQ : Hid (ff7f Q w9 l k R n U W)) : ff7G Q w9 l k R n W 13 listed (ff7S U w9 l k R n r1 t1 v1 r2 0 undef ⟨0, 0, 0, 0⟩ 0 undef true true true true false true false false false false false false false false false) w := by
 subst hl
 have H0 := H
 obtain ⟨FI0, CN, HK, NJ0, NJ1, NJ2⟩ := H
 simp only [ff7G, ff7S, cond_true, cond_false]
 refine wpAnyH_ready (rs := [7, 10, 13]) (by kernel_rfl) (by simp) ?_
 refine AllReadyH.cons (o := ff77) rfl (fun K hK => ?_) (AllReadyH.cons (o := ff710) rfl (fun K hK => ?_) (AllReadyH.cons (o := ff713) rfl (fun K hK => ?_) AllReadyH.nil))
 ·refine wp_loadFi FI.out 1 (by omega) _ rfl rfl (Rw.shape (FI.out.rw 1 (by omega))) ?_
  unfold ff77
  simp only [Act.put, sA, sB, sC]
  refine hK.out _ _ HH.out (fun hH => ?_); clear hK K
  exact ff7_53ff H0 r1 t1 v1 r2 w _ (by kernel_rfl) OK2 FI HH HQ
 ·refine wp_build1P _ rfl r2 rfl (fun t2 w2 htb hwq => ?_)
  have hbb : Below w.heap.size w w2 := (by rw [hwq]; exact bl_alloc _ _)
  have SN := hidden (by rw [hwq]; exact bl_trans HH.out (bl_alloc _ _) : Below w9.heap.size w9 w2)
  have CK2 := hidden (by rw [htb, hwq]; exact range_newM _ _ _ : w2.rangeAt t2 0 [.int .u64 r2.x0, .int .u64 r2.x1, .int .u64 r2.x2, .int .u64 r2.x3])
  replace FI := hidden (FI.out.keep hbb : Fi w9 l ((k + 1) + 1) R (upd R 0 v1) (upd n 0 (n 0 + 1)) w2)
  replace HH := SN
  clear SN hbb  htb hwq
  unfold ff710
  simp only [Act.put, sA, sB, sC]
  refine hK.out _ _ HH.out (fun hH => ?_); clear hK K
  exact ff7_577f H0 r1 t1 v1 r2 t2 w2 _ (by kernel_rfl) OK2 CK2 FI HH HQ
 ·refine wp_loadFi FI.out 2 (by omega) _ rfl rfl (Rw.shape (FI.out.rw 2 (by omega))) ?_
  unfold ff713
  simp only [Act.put, sA, sB, sC]
  refine hK.out _ _ HH.out (fun hH => ?_); clear hK K
  exact ff7_737f H0 r1 t1 v1 r2 w _ (by kernel_rfl) OK2 FI HH HQ
theorem ff7_71dd (H : ff7h w9 l k R n W) (r1 : E4) (t1 : Nat) (w : World) (listed : Array Bool) (hl : listed = #[true, false, true, true, true, false, true, true, true, false, false, false, true, true, true, false, false, false, false, false, false, false, false, false]) (OK1 : Hid (r1.ok)) (CK1 : Hid (w.rangeAt t1 0 [.int .u64 r1.x0, .int .u64 r1.x1, .int .u64 r1.x2, .int .u64 r1.x3])) (FI : Hid (Fi w9 l (k + 1) R R n w)) (HH : Hid (Below w9.heap.size w9 w)) (HQ : Hid (ff7f Q w9 l k R n U W)) : ff7G Q w9 l k R n W 14 listed (ff7S U w9 l k R n r1 t1 undef ⟨0, 0, 0, 0⟩ 0 undef ⟨0, 0, 0, 0⟩ 0 undef false true true false true false false false true false false false false false false) w := by
 subst hl
 have H0 := H
 obtain ⟨FI0, CN, HK, NJ0, NJ1, NJ2⟩ := H
 simp only [ff7G, ff7S, cond_true, cond_false]
 refine wpAnyH_ready (rs := [1]) (by kernel_rfl) (by simp) ?_
 refine AllReadyH.cons (o := ff71) rfl (fun K hK => ?_) AllReadyH.nil
 refine wp_loadFi FI.out 0 (by omega) _ rfl rfl (Rw.shape (FI.out.rw 0 (by omega))) ?_
 unfold ff71
 simp only [Act.put, sA, sB, sC]
 refine hK.out _ _ HH.out (fun hH => ?_); clear hK K
 exact ff7_71df H0 r1 t1 w _ (by kernel_rfl) OK1 CK1 FI HH HQ
theorem ff7_71cf (H : ff7h w9 l k R n W) (r1 : E4) (w : World) (listed : Array Bool) (hl : listed = #[true, true, true, true, false, false, true, true, true, false, false, false, true, true, true, false, false, false, false, false, false, false, false, false]) (OK1 : Hid (r1.ok)) (FI : Hid (Fi w9 l (k + 1) R R n w)) (HH : Hid (Below w9.heap.size w9 w)) (HQ : Hid (ff7f Q w9 l k R n U W)) : ff7G Q w9 l k R n W 14 listed (ff7S U w9 l k R n r1 0 undef ⟨0, 0, 0, 0⟩ 0 undef ⟨0, 0, 0, 0⟩ 0 undef true true false false true false false false true false false false false false false) w := by
 subst hl
 have H0 := H
 obtain ⟨FI0, CN, HK, NJ0, NJ1, NJ2⟩ := H
 simp only [ff7G, ff7S, cond_true, cond_false]
 refine wpAnyH_ready (rs := [4]) (by kernel_rfl) (by simp) ?_
 refine AllReadyH.cons (o := ff74) rfl (fun K hK => ?_) AllReadyH.nil
 refine wp_build1P _ rfl r1 rfl (fun t1 w2 htb hwq => ?_)
 have hbb : Below w.heap.size w w2 := (by rw [hwq]; exact bl_alloc _ _)
 have SN := hidden (by rw [hwq]; exact bl_trans HH.out (bl_alloc _ _) : Below w9.heap.size w9 w2)
 have CK1 := hidden (by rw [htb, hwq]; exact range_newM _ _ _ : w2.rangeAt t1 0 [.int .u64 r1.x0, .int .u64 r1.x1, .int .u64 r1.x2, .int .u64 r1.x3])
 replace FI := hidden (FI.out.keep hbb : Fi w9 l (k + 1) R R n w2)
 replace HH := SN
 clear SN hbb  htb hwq
 unfold ff74
 simp only [Act.put, sA, sB, sC]
 refine hK.out _ _ HH.out (fun hH => ?_); clear hK K
 exact ff7_71df H0 r1 t1 w2 _ (by kernel_rfl) OK1 CK1 FI HH HQ
theorem ff7_715f (H : ff7h w9 l k R n W) (r1 : E4) (t1 : Nat) (w : World) (listed : Array Bool) (hl : listed = #[true, true, true, true, true, false, true, false, true, false, false, false, true, true, true, false, false, false, false, false, false, false, false, false]) (OK1 : Hid (r1.ok)) (CK1 : Hid (w.rangeAt t1 0 [.int .u64 r1.x0, .int .u64 r1.x1, .int .u64 r1.x2, .int .u64 r1.x3])) (FI : Hid (Fi w9 l (k + 1) R R n w)) (HH : Hid (Below w9.heap.size w9 w)) (HQ : Hid (ff7f Q w9 l k R n U W)) : ff7G Q w9 l k R n W 14 listed (ff7S U w9 l k R n r1 t1 undef ⟨0, 0, 0, 0⟩ 0 undef ⟨0, 0, 0, 0⟩ 0 undef true true true false false false false false true false false false false false false) w := by
 subst hl
 have H0 := H
 obtain ⟨FI0, CN, HK, NJ0, NJ1, NJ2⟩ := H
 simp only [ff7G, ff7S, cond_true, cond_false]
 refine wpAnyH_ready (rs := [5, 7]) (by kernel_rfl) (by simp) ?_
 refine AllReadyH.cons (o := ff75) rfl (fun K hK => ?_) (AllReadyH.cons (o := ff77) rfl (fun K hK => ?_) AllReadyH.nil)
 ·refine wp_appFi FI.out 0 (by omega) _ _ rfl _ rfl rfl t1 rfl r1 CK1.out OK1.out NJ0.out (fun v1 w2 hf => ?_)
  have SN := hidden (hf.bel : Below w9.heap.size w9 w2)
  replace FI := hidden (hf : Fi w9 l (k + 1) R (upd R 0 v1) (upd n 0 (n 0 + 1)) w2)
  replace HH := SN
  clear SN OK1 CK1 hf
  unfold ff75
  simp only [Act.put, sA, sB, sC]
  refine hK.out _ _ HH.out (fun hH => ?_); clear hK K
  exact ff7_717f H0 r1 t1 v1 w2 _ (by kernel_rfl) FI HH HQ
 ·refine wp_loadFi FI.out 1 (by omega) _ rfl rfl (Rw.shape (FI.out.rw 1 (by omega))) ?_
  unfold ff77
  simp only [Act.put, sA, sB, sC]
  refine hK.out _ _ HH.out (fun hH => ?_); clear hK K
  exact ff7_71df H0 r1 t1 w _ (by kernel_rfl) OK1 CK1 FI HH HQ
theorem ff7_51df (H : ff7h w9 l k R n W) (r1 : E4) (t1 : Nat) (w : World) (listed : Array Bool) (hl : listed = #[true, true, true, true, true, false, true, true, true, false, false, false, true, false, true, false, false, false, false, false, false, false, false, false]) (OK1 : Hid (r1.ok)) (CK1 : Hid (w.rangeAt t1 0 [.int .u64 r1.x0, .int .u64 r1.x1, .int .u64 r1.x2, .int .u64 r1.x3])) (FI : Hid (Fi w9 l (k + 1) R R n w)) (HH : Hid (Below w9.heap.size w9 w)) (HQ : Hid (ff7f Q w9 l k R n U W)) : ff7G Q w9 l k R n W 14 listed (ff7S U w9 l k R n r1 t1 undef ⟨0, 0, 0, 0⟩ 0 undef ⟨0, 0, 0, 0⟩ 0 undef true true true false true false false false false false false false false false false) w := by
 subst hl
 have H0 := H
 obtain ⟨FI0, CN, HK, NJ0, NJ1, NJ2⟩ := H
 simp only [ff7G, ff7S, cond_true, cond_false]
 refine wpAnyH_ready (rs := [5, 13]) (by kernel_rfl) (by simp) ?_
 refine AllReadyH.cons (o := ff75) rfl (fun K hK => ?_) (AllReadyH.cons (o := ff713) rfl (fun K hK => ?_) AllReadyH.nil)
 ·refine wp_appFi FI.out 0 (by omega) _ _ rfl _ rfl rfl t1 rfl r1 CK1.out OK1.out NJ0.out (fun v1 w2 hf => ?_)
  have SN := hidden (hf.bel : Below w9.heap.size w9 w2)
  replace FI := hidden (hf : Fi w9 l (k + 1) R (upd R 0 v1) (upd n 0 (n 0 + 1)) w2)
  replace HH := SN
  clear SN OK1 CK1 hf
  unfold ff75
  simp only [Act.put, sA, sB, sC]
  refine hK.out _ _ HH.out (fun hH => ?_); clear hK K
  exact ff7_51ff H0 r1 t1 v1 w2 _ (by kernel_rfl) FI HH HQ
 ·refine wp_loadFi FI.out 2 (by omega) _ rfl rfl (Rw.shape (FI.out.rw 2 (by omega))) ?_
  unfold ff713
  simp only [Act.put, sA, sB, sC]
  refine hK.out _ _ HH.out (fun hH => ?_); clear hK K
  exact ff7_71df H0 r1 t1 w _ (by kernel_rfl) OK1 CK1 FI HH HQ
theorem ff7_517f (H : ff7h w9 l k R n W) (r1 : E4) (t1 : Nat) (v1 : Value) (w : World) (listed : Array Bool) (hl : listed = #[true, true, true, true, true, true, true, false, true, false, false, false, true, false, true, false, false, false, false, false, false, false, false, false]) (FI : Hid (Fi w9 l (k + 1) R (upd R 0 v1) (upd n 0 (n 0 + 1)) w)) (HH : Hid (Below w9.heap.size w9 w)) (HQ : Hid (ff7f Q w9 l k R n U W)) : ff7G Q w9 l k R n W 14 listed (ff7S U w9 l k R n r1 t1 v1 ⟨0, 0, 0, 0⟩ 0 undef ⟨0, 0, 0, 0⟩ 0 undef true true true true false false false false false false false false false false false) w := by
 subst hl
 have H0 := H
 obtain ⟨FI0, CN, HK, NJ0, NJ1, NJ2⟩ := H
 simp only [ff7G, ff7S, cond_true, cond_false]
 refine wpAnyH_ready (rs := [7, 9, 13]) (by kernel_rfl) (by simp) ?_
 refine AllReadyH.cons (o := ff77) rfl (fun K hK => ?_) (AllReadyH.cons (o := ff79) rfl (fun K hK => ?_) (AllReadyH.cons (o := ff713) rfl (fun K hK => ?_) AllReadyH.nil))
 ·refine wp_loadFi FI.out 1 (by omega) _ rfl rfl (Rw.shape (FI.out.rw 1 (by omega))) ?_
  unfold ff77
  simp only [Act.put, sA, sB, sC]
  refine hK.out _ _ HH.out (fun hH => ?_); clear hK K
  exact ff7_51ff H0 r1 t1 v1 w _ (by kernel_rfl) FI HH HQ
 ·unfold ff79
  go_simp
  refine (CN.out _ _ _ _ _ (by have := HK.out; omega) FI.out).mono ?_
  rintro e w2 ⟨r2, rfl, okr, hf⟩
  have SN := hidden (hf.bel : Below w9.heap.size w9 w2)
  have OK2 := hidden (okr : r2.ok)
  replace FI := hidden (hf : Fi w9 l ((k + 1) + 1) R (upd R 0 v1) (upd n 0 (n 0 + 1)) w2)
  replace HH := SN
  clear SN  okr hf
  go_wp2_with fail
  refine hK.out _ _ HH.out (fun hH => ?_); clear hK K
  exact ff7_537f H0 r1 t1 v1 r2 w2 _ (by kernel_rfl) OK2 FI HH HQ
 ·refine wp_loadFi FI.out 2 (by omega) _ rfl rfl (Rw.shape (FI.out.rw 2 (by omega))) ?_
  unfold ff713
  simp only [Act.put, sA, sB, sC]
  refine hK.out _ _ HH.out (fun hH => ?_); clear hK K
  exact ff7_717f H0 r1 t1 v1 w _ (by kernel_rfl) FI HH HQ
theorem ff7_71cd (H : ff7h w9 l k R n W) (r1 : E4) (w : World) (listed : Array Bool) (hl : listed = #[true, false, true, true, false, false, true, true, true, false, false, false, true, true, true, false, false, false, false, false, false, false, false, false]) (OK1 : Hid (r1.ok)) (FI : Hid (Fi w9 l (k + 1) R R n w)) (HH : Hid (Below w9.heap.size w9 w)) (HQ : Hid (ff7f Q w9 l k R n U W)) : ff7G Q w9 l k R n W 15 listed (ff7S U w9 l k R n r1 0 undef ⟨0, 0, 0, 0⟩ 0 undef ⟨0, 0, 0, 0⟩ 0 undef false true false false true false false false true false false false false false false) w := by
 subst hl
 have H0 := H
 obtain ⟨FI0, CN, HK, NJ0, NJ1, NJ2⟩ := H
 simp only [ff7G, ff7S, cond_true, cond_false]
 refine wpAnyH_ready (rs := [1, 4]) (by kernel_rfl) (by simp) ?_
 refine AllReadyH.cons (o := ff71) rfl (fun K hK => ?_) (AllReadyH.cons (o := ff74) rfl (fun K hK => ?_) AllReadyH.nil)
 ·refine wp_loadFi FI.out 0 (by omega) _ rfl rfl (Rw.shape (FI.out.rw 0 (by omega))) ?_
  unfold ff71
  simp only [Act.put, sA, sB, sC]
  refine hK.out _ _ HH.out (fun hH => ?_); clear hK K
  exact ff7_71cf H0 r1 w _ (by kernel_rfl) OK1 FI HH HQ
 ·refine wp_build1P _ rfl r1 rfl (fun t1 w2 htb hwq => ?_)
  have hbb : Below w.heap.size w w2 := (by rw [hwq]; exact bl_alloc _ _)
  have SN := hidden (by rw [hwq]; exact bl_trans HH.out (bl_alloc _ _) : Below w9.heap.size w9 w2)
  have CK1 := hidden (by rw [htb, hwq]; exact range_newM _ _ _ : w2.rangeAt t1 0 [.int .u64 r1.x0, .int .u64 r1.x1, .int .u64 r1.x2, .int .u64 r1.x3])
  replace FI := hidden (FI.out.keep hbb : Fi w9 l (k + 1) R R n w2)
  replace HH := SN
  clear SN hbb  htb hwq
  unfold ff74
  simp only [Act.put, sA, sB, sC]
  refine hK.out _ _ HH.out (fun hH => ?_); clear hK K
  exact ff7_71dd H0 r1 t1 w2 _ (by kernel_rfl) OK1 CK1 FI HH HQ
theorem ff7_71c7 (H : ff7h w9 l k R n W)  (w : World) (listed : Array Bool) (hl : listed = #[true, true, true, false, false, false, true, true, true, false, false, false, true, true, true, false, false, false, false, false, false, false, false, false]) (FI : Hid (Fi w9 l k R R n w)) (HH : Hid (Below w9.heap.size w9 w)) (HQ : Hid (ff7f Q w9 l k R n U W)) : ff7G Q w9 l k R n W 15 listed (ff7S U w9 l k R n ⟨0, 0, 0, 0⟩ 0 undef ⟨0, 0, 0, 0⟩ 0 undef ⟨0, 0, 0, 0⟩ 0 undef true false false false true false false false true false false false false false false) w := by
 subst hl
 have H0 := H
 obtain ⟨FI0, CN, HK, NJ0, NJ1, NJ2⟩ := H
 simp only [ff7G, ff7S, cond_true, cond_false]
 refine wpAnyH_ready (rs := [3]) (by kernel_rfl) (by simp) ?_
 refine AllReadyH.cons (o := ff73) rfl (fun K hK => ?_) AllReadyH.nil
 unfold ff73
 go_simp
 refine (CN.out _ _ _ _ _ (by have := HK.out; omega) FI.out).mono ?_
 rintro e w2 ⟨r1, rfl, okr, hf⟩
 have SN := hidden (hf.bel : Below w9.heap.size w9 w2)
 have OK1 := hidden (okr : r1.ok)
 replace FI := hidden (hf : Fi w9 l (k + 1) R R n w2)
 replace HH := SN
 clear SN  okr hf
 go_wp2_with fail
 refine hK.out _ _ HH.out (fun hH => ?_); clear hK K
 exact ff7_71cf H0 r1 w2 _ (by kernel_rfl) OK1 FI HH HQ
theorem ff7_715d (H : ff7h w9 l k R n W) (r1 : E4) (t1 : Nat) (w : World) (listed : Array Bool) (hl : listed = #[true, false, true, true, true, false, true, false, true, false, false, false, true, true, true, false, false, false, false, false, false, false, false, false]) (OK1 : Hid (r1.ok)) (CK1 : Hid (w.rangeAt t1 0 [.int .u64 r1.x0, .int .u64 r1.x1, .int .u64 r1.x2, .int .u64 r1.x3])) (FI : Hid (Fi w9 l (k + 1) R R n w)) (HH : Hid (Below w9.heap.size w9 w)) (HQ : Hid (ff7f Q w9 l k R n U W)) : ff7G Q w9 l k R n W 15 listed (ff7S U w9 l k R n r1 t1 undef ⟨0, 0, 0, 0⟩ 0 undef ⟨0, 0, 0, 0⟩ 0 undef false true true false false false false false true false false false false false false) w := by
 subst hl
 have H0 := H
 obtain ⟨FI0, CN, HK, NJ0, NJ1, NJ2⟩ := H
 simp only [ff7G, ff7S, cond_true, cond_false]
 refine wpAnyH_ready (rs := [1, 7]) (by kernel_rfl) (by simp) ?_
 refine AllReadyH.cons (o := ff71) rfl (fun K hK => ?_) (AllReadyH.cons (o := ff77) rfl (fun K hK => ?_) AllReadyH.nil)
 ·refine wp_loadFi FI.out 0 (by omega) _ rfl rfl (Rw.shape (FI.out.rw 0 (by omega))) ?_
  unfold ff71
  simp only [Act.put, sA, sB, sC]
  refine hK.out _ _ HH.out (fun hH => ?_); clear hK K
  exact ff7_715f H0 r1 t1 w _ (by kernel_rfl) OK1 CK1 FI HH HQ
 ·refine wp_loadFi FI.out 1 (by omega) _ rfl rfl (Rw.shape (FI.out.rw 1 (by omega))) ?_
  unfold ff77
  simp only [Act.put, sA, sB, sC]
  refine hK.out _ _ HH.out (fun hH => ?_); clear hK K
  exact ff7_71dd H0 r1 t1 w _ (by kernel_rfl) OK1 CK1 FI HH HQ
theorem ff7_714f (H : ff7h w9 l k R n W) (r1 : E4) (w : World) (listed : Array Bool) (hl : listed = #[true, true, true, true, false, false, true, false, true, false, false, false, true, true, true, false, false, false, false, false, false, false, false, false]) (OK1 : Hid (r1.ok)) (FI : Hid (Fi w9 l (k + 1) R R n w)) (HH : Hid (Below w9.heap.size w9 w)) (HQ : Hid (ff7f Q w9 l k R n U W)) : ff7G Q w9 l k R n W 15 listed (ff7S U w9 l k R n r1 0 undef ⟨0, 0, 0, 0⟩ 0 undef ⟨0, 0, 0, 0⟩ 0 undef true true false false false false false false true false false false false false false) w := by
 subst hl
 have H0 := H
 obtain ⟨FI0, CN, HK, NJ0, NJ1, NJ2⟩ := H
 simp only [ff7G, ff7S, cond_true, cond_false]
 refine wpAnyH_ready (rs := [4, 7]) (by kernel_rfl) (by simp) ?_
 refine AllReadyH.cons (o := ff74) rfl (fun K hK => ?_) (AllReadyH.cons (o := ff77) rfl (fun K hK => ?_) AllReadyH.nil)
 ·refine wp_build1P _ rfl r1 rfl (fun t1 w2 htb hwq => ?_)
  have hbb : Below w.heap.size w w2 := (by rw [hwq]; exact bl_alloc _ _)
  have SN := hidden (by rw [hwq]; exact bl_trans HH.out (bl_alloc _ _) : Below w9.heap.size w9 w2)
  have CK1 := hidden (by rw [htb, hwq]; exact range_newM _ _ _ : w2.rangeAt t1 0 [.int .u64 r1.x0, .int .u64 r1.x1, .int .u64 r1.x2, .int .u64 r1.x3])
  replace FI := hidden (FI.out.keep hbb : Fi w9 l (k + 1) R R n w2)
  replace HH := SN
  clear SN hbb  htb hwq
  unfold ff74
  simp only [Act.put, sA, sB, sC]
  refine hK.out _ _ HH.out (fun hH => ?_); clear hK K
  exact ff7_715f H0 r1 t1 w2 _ (by kernel_rfl) OK1 CK1 FI HH HQ
 ·refine wp_loadFi FI.out 1 (by omega) _ rfl rfl (Rw.shape (FI.out.rw 1 (by omega))) ?_
  unfold ff77
  simp only [Act.put, sA, sB, sC]
  refine hK.out _ _ HH.out (fun hH => ?_); clear hK K
  exact ff7_71cf H0 r1 w _ (by kernel_rfl) OK1 FI HH HQ
theorem ff7_51dd (H : ff7h w9 l k R n W) (r1 : E4) (t1 : Nat) (w : World) (listed : Array Bool) (hl : listed = #[true, false, true, true, true, false, true, true, true, false, false, false, true, false, true, false, false, false, false, false, false, false, false, false]) (OK1 : Hid (r1.ok)) (CK1 : Hid (w.rangeAt t1 0 [.int .u64 r1.x0, .int .u64 r1.x1, .int .u64 r1.x2, .int .u64 r1.x3])) (FI : Hid (Fi w9 l (k + 1) R R n w)) (HH : Hid (Below w9.heap.size w9 w)) (HQ : Hid (ff7f Q w9 l k R n U W)) : ff7G Q w9 l k R n W 15 listed (ff7S U w9 l k R n r1 t1 undef ⟨0, 0, 0, 0⟩ 0 undef ⟨0, 0, 0, 0⟩ 0 undef false true true false true false false false false false false false false false false) w := by
 subst hl
 have H0 := H
 obtain ⟨FI0, CN, HK, NJ0, NJ1, NJ2⟩ := H
 simp only [ff7G, ff7S, cond_true, cond_false]
 refine wpAnyH_ready (rs := [1, 13]) (by kernel_rfl) (by simp) ?_
 refine AllReadyH.cons (o := ff71) rfl (fun K hK => ?_) (AllReadyH.cons (o := ff713) rfl (fun K hK => ?_) AllReadyH.nil)
 ·refine wp_loadFi FI.out 0 (by omega) _ rfl rfl (Rw.shape (FI.out.rw 0 (by omega))) ?_
  unfold ff71
  simp only [Act.put, sA, sB, sC]
  refine hK.out _ _ HH.out (fun hH => ?_); clear hK K
  exact ff7_51df H0 r1 t1 w _ (by kernel_rfl) OK1 CK1 FI HH HQ
 ·refine wp_loadFi FI.out 2 (by omega) _ rfl rfl (Rw.shape (FI.out.rw 2 (by omega))) ?_
  unfold ff713
  simp only [Act.put, sA, sB, sC]
  refine hK.out _ _ HH.out (fun hH => ?_); clear hK K
  exact ff7_71dd H0 r1 t1 w _ (by kernel_rfl) OK1 CK1 FI HH HQ
theorem ff7_51cf (H : ff7h w9 l k R n W) (r1 : E4) (w : World) (listed : Array Bool) (hl : listed = #[true, true, true, true, false, false, true, true, true, false, false, false, true, false, true, false, false, false, false, false, false, false, false, false]) (OK1 : Hid (r1.ok)) (FI : Hid (Fi w9 l (k + 1) R R n w)) (HH : Hid (Below w9.heap.size w9 w)) (HQ : Hid (ff7f Q w9 l k R n U W)) : ff7G Q w9 l k R n W 15 listed (ff7S U w9 l k R n r1 0 undef ⟨0, 0, 0, 0⟩ 0 undef ⟨0, 0, 0, 0⟩ 0 undef true true false false true false false false false false false false false false false) w := by
 subst hl
 have H0 := H
 obtain ⟨FI0, CN, HK, NJ0, NJ1, NJ2⟩ := H
 simp only [ff7G, ff7S, cond_true, cond_false]
 refine wpAnyH_ready (rs := [4, 13]) (by kernel_rfl) (by simp) ?_
 refine AllReadyH.cons (o := ff74) rfl (fun K hK => ?_) (AllReadyH.cons (o := ff713) rfl (fun K hK => ?_) AllReadyH.nil)
 ·refine wp_build1P _ rfl r1 rfl (fun t1 w2 htb hwq => ?_)
  have hbb : Below w.heap.size w w2 := (by rw [hwq]; exact bl_alloc _ _)
  have SN := hidden (by rw [hwq]; exact bl_trans HH.out (bl_alloc _ _) : Below w9.heap.size w9 w2)
  have CK1 := hidden (by rw [htb, hwq]; exact range_newM _ _ _ : w2.rangeAt t1 0 [.int .u64 r1.x0, .int .u64 r1.x1, .int .u64 r1.x2, .int .u64 r1.x3])
  replace FI := hidden (FI.out.keep hbb : Fi w9 l (k + 1) R R n w2)
  replace HH := SN
  clear SN hbb  htb hwq
  unfold ff74
  simp only [Act.put, sA, sB, sC]
  refine hK.out _ _ HH.out (fun hH => ?_); clear hK K
  exact ff7_51df H0 r1 t1 w2 _ (by kernel_rfl) OK1 CK1 FI HH HQ
 ·refine wp_loadFi FI.out 2 (by omega) _ rfl rfl (Rw.shape (FI.out.rw 2 (by omega))) ?_
  unfold ff713
  simp only [Act.put, sA, sB, sC]
  refine hK.out _ _ HH.out (fun hH => ?_); clear hK K
  exact ff7_71cf H0 r1 w _ (by kernel_rfl) OK1 FI HH HQ
theorem ff7_515f (H : ff7h w9 l k R n W) (r1 : E4) (t1 : Nat) (w : World) (listed : Array Bool) (hl : listed = #[true, true, true, true, true, false, true, false, true, false, false, false, true, false, true, false, false, false, false, false, false, false, false, false]) (OK1 : Hid (r1.ok)) (CK1 : Hid (w.rangeAt t1 0 [.int .u64 r1.x0, .int .u64 r1.x1, .int .u64 r1.x2, .int .u64 r1.x3])) (FI : Hid (Fi w9 l (k + 1) R R n w)) (HH : Hid (Below w9.heap.size w9 w)) (HQ : Hid (ff7f Q w9 l k R n U W)) : ff7G Q w9 l k R n W 15 listed (ff7S U w9 l k R n r1 t1 undef ⟨0, 0, 0, 0⟩ 0 undef ⟨0, 0, 0, 0⟩ 0 undef true true true false false false false false false false false false false false false) w := by
 subst hl
 have H0 := H
 obtain ⟨FI0, CN, HK, NJ0, NJ1, NJ2⟩ := H
 simp only [ff7G, ff7S, cond_true, cond_false]
 refine wpAnyH_ready (rs := [5, 7, 13]) (by kernel_rfl) (by simp) ?_
 refine AllReadyH.cons (o := ff75) rfl (fun K hK => ?_) (AllReadyH.cons (o := ff77) rfl (fun K hK => ?_) (AllReadyH.cons (o := ff713) rfl (fun K hK => ?_) AllReadyH.nil))
 ·refine wp_appFi FI.out 0 (by omega) _ _ rfl _ rfl rfl t1 rfl r1 CK1.out OK1.out NJ0.out (fun v1 w2 hf => ?_)
  have SN := hidden (hf.bel : Below w9.heap.size w9 w2)
  replace FI := hidden (hf : Fi w9 l (k + 1) R (upd R 0 v1) (upd n 0 (n 0 + 1)) w2)
  replace HH := SN
  clear SN OK1 CK1 hf
  unfold ff75
  simp only [Act.put, sA, sB, sC]
  refine hK.out _ _ HH.out (fun hH => ?_); clear hK K
  exact ff7_517f H0 r1 t1 v1 w2 _ (by kernel_rfl) FI HH HQ
 ·refine wp_loadFi FI.out 1 (by omega) _ rfl rfl (Rw.shape (FI.out.rw 1 (by omega))) ?_
  unfold ff77
  simp only [Act.put, sA, sB, sC]
  refine hK.out _ _ HH.out (fun hH => ?_); clear hK K
  exact ff7_51df H0 r1 t1 w _ (by kernel_rfl) OK1 CK1 FI HH HQ
 ·refine wp_loadFi FI.out 2 (by omega) _ rfl rfl (Rw.shape (FI.out.rw 2 (by omega))) ?_
  unfold ff713
  simp only [Act.put, sA, sB, sC]
  refine hK.out _ _ HH.out (fun hH => ?_); clear hK K
  exact ff7_715f H0 r1 t1 w _ (by kernel_rfl) OK1 CK1 FI HH HQ
theorem ff7_71c5 (H : ff7h w9 l k R n W)  (w : World) (listed : Array Bool) (hl : listed = #[true, false, true, false, false, false, true, true, true, false, false, false, true, true, true, false, false, false, false, false, false, false, false, false]) (FI : Hid (Fi w9 l k R R n w)) (HH : Hid (Below w9.heap.size w9 w)) (HQ : Hid (ff7f Q w9 l k R n U W)) : ff7G Q w9 l k R n W 16 listed (ff7S U w9 l k R n ⟨0, 0, 0, 0⟩ 0 undef ⟨0, 0, 0, 0⟩ 0 undef ⟨0, 0, 0, 0⟩ 0 undef false false false false true false false false true false false false false false false) w := by
 subst hl
 have H0 := H
 obtain ⟨FI0, CN, HK, NJ0, NJ1, NJ2⟩ := H
 simp only [ff7G, ff7S, cond_true, cond_false]
 refine wpAnyH_ready (rs := [1, 3]) (by kernel_rfl) (by simp) ?_
 refine AllReadyH.cons (o := ff71) rfl (fun K hK => ?_) (AllReadyH.cons (o := ff73) rfl (fun K hK => ?_) AllReadyH.nil)
 ·refine wp_loadFi FI.out 0 (by omega) _ rfl rfl (Rw.shape (FI.out.rw 0 (by omega))) ?_
  unfold ff71
  simp only [Act.put, sA, sB, sC]
  refine hK.out _ _ HH.out (fun hH => ?_); clear hK K
  exact ff7_71c7 H0  w _ (by kernel_rfl) FI HH HQ
 ·unfold ff73
  go_simp
  refine (CN.out _ _ _ _ _ (by have := HK.out; omega) FI.out).mono ?_
  rintro e w2 ⟨r1, rfl, okr, hf⟩
  have SN := hidden (hf.bel : Below w9.heap.size w9 w2)
  have OK1 := hidden (okr : r1.ok)
  replace FI := hidden (hf : Fi w9 l (k + 1) R R n w2)
  replace HH := SN
  clear SN  okr hf
  go_wp2_with fail
  refine hK.out _ _ HH.out (fun hH => ?_); clear hK K
  exact ff7_71cd H0 r1 w2 _ (by kernel_rfl) OK1 FI HH HQ
theorem ff7_714d (H : ff7h w9 l k R n W) (r1 : E4) (w : World) (listed : Array Bool) (hl : listed = #[true, false, true, true, false, false, true, false, true, false, false, false, true, true, true, false, false, false, false, false, false, false, false, false]) (OK1 : Hid (r1.ok)) (FI : Hid (Fi w9 l (k + 1) R R n w)) (HH : Hid (Below w9.heap.size w9 w)) (HQ : Hid (ff7f Q w9 l k R n U W)) : ff7G Q w9 l k R n W 16 listed (ff7S U w9 l k R n r1 0 undef ⟨0, 0, 0, 0⟩ 0 undef ⟨0, 0, 0, 0⟩ 0 undef false true false false false false false false true false false false false false false) w := by
 subst hl
 have H0 := H
 obtain ⟨FI0, CN, HK, NJ0, NJ1, NJ2⟩ := H
 simp only [ff7G, ff7S, cond_true, cond_false]
 refine wpAnyH_ready (rs := [1, 4, 7]) (by kernel_rfl) (by simp) ?_
 refine AllReadyH.cons (o := ff71) rfl (fun K hK => ?_) (AllReadyH.cons (o := ff74) rfl (fun K hK => ?_) (AllReadyH.cons (o := ff77) rfl (fun K hK => ?_) AllReadyH.nil))
 ·refine wp_loadFi FI.out 0 (by omega) _ rfl rfl (Rw.shape (FI.out.rw 0 (by omega))) ?_
  unfold ff71
  simp only [Act.put, sA, sB, sC]
  refine hK.out _ _ HH.out (fun hH => ?_); clear hK K
  exact ff7_714f H0 r1 w _ (by kernel_rfl) OK1 FI HH HQ
 ·refine wp_build1P _ rfl r1 rfl (fun t1 w2 htb hwq => ?_)
  have hbb : Below w.heap.size w w2 := (by rw [hwq]; exact bl_alloc _ _)
  have SN := hidden (by rw [hwq]; exact bl_trans HH.out (bl_alloc _ _) : Below w9.heap.size w9 w2)
  have CK1 := hidden (by rw [htb, hwq]; exact range_newM _ _ _ : w2.rangeAt t1 0 [.int .u64 r1.x0, .int .u64 r1.x1, .int .u64 r1.x2, .int .u64 r1.x3])
  replace FI := hidden (FI.out.keep hbb : Fi w9 l (k + 1) R R n w2)
  replace HH := SN
  clear SN hbb  htb hwq
  unfold ff74
  simp only [Act.put, sA, sB, sC]
  refine hK.out _ _ HH.out (fun hH => ?_); clear hK K
  exact ff7_715d H0 r1 t1 w2 _ (by kernel_rfl) OK1 CK1 FI HH HQ
 ·refine wp_loadFi FI.out 1 (by omega) _ rfl rfl (Rw.shape (FI.out.rw 1 (by omega))) ?_
  unfold ff77
  simp only [Act.put, sA, sB, sC]
  refine hK.out _ _ HH.out (fun hH => ?_); clear hK K
  exact ff7_71cd H0 r1 w _ (by kernel_rfl) OK1 FI HH HQ
theorem ff7_7147 (H : ff7h w9 l k R n W)  (w : World) (listed : Array Bool) (hl : listed = #[true, true, true, false, false, false, true, false, true, false, false, false, true, true, true, false, false, false, false, false, false, false, false, false]) (FI : Hid (Fi w9 l k R R n w)) (HH : Hid (Below w9.heap.size w9 w)) (HQ : Hid (ff7f Q w9 l k R n U W)) : ff7G Q w9 l k R n W 16 listed (ff7S U w9 l k R n ⟨0, 0, 0, 0⟩ 0 undef ⟨0, 0, 0, 0⟩ 0 undef ⟨0, 0, 0, 0⟩ 0 undef true false false false false false false false true false false false false false false) w := by
 subst hl
 have H0 := H
 obtain ⟨FI0, CN, HK, NJ0, NJ1, NJ2⟩ := H
 simp only [ff7G, ff7S, cond_true, cond_false]
 refine wpAnyH_ready (rs := [3, 7]) (by kernel_rfl) (by simp) ?_
 refine AllReadyH.cons (o := ff73) rfl (fun K hK => ?_) (AllReadyH.cons (o := ff77) rfl (fun K hK => ?_) AllReadyH.nil)
 ·unfold ff73
  go_simp
  refine (CN.out _ _ _ _ _ (by have := HK.out; omega) FI.out).mono ?_
  rintro e w2 ⟨r1, rfl, okr, hf⟩
  have SN := hidden (hf.bel : Below w9.heap.size w9 w2)
  have OK1 := hidden (okr : r1.ok)
  replace FI := hidden (hf : Fi w9 l (k + 1) R R n w2)
  replace HH := SN
  clear SN  okr hf
  go_wp2_with fail
  refine hK.out _ _ HH.out (fun hH => ?_); clear hK K
  exact ff7_714f H0 r1 w2 _ (by kernel_rfl) OK1 FI HH HQ
 ·refine wp_loadFi FI.out 1 (by omega) _ rfl rfl (Rw.shape (FI.out.rw 1 (by omega))) ?_
  unfold ff77
  simp only [Act.put, sA, sB, sC]
  refine hK.out _ _ HH.out (fun hH => ?_); clear hK K
  exact ff7_71c7 H0  w _ (by kernel_rfl) FI HH HQ
theorem ff7_51cd (H : ff7h w9 l k R n W) (r1 : E4) (w : World) (listed : Array Bool) (hl : listed = #[true, false, true, true, false, false, true, true, true, false, false, false, true, false, true, false, false, false, false, false, false, false, false, false]) (OK1 : Hid (r1.ok)) (FI : Hid (Fi w9 l (k + 1) R R n w)) (HH : Hid (Below w9.heap.size w9 w)) (HQ : Hid (ff7f Q w9 l k R n U W)) : ff7G Q w9 l k R n W 16 listed (ff7S U w9 l k R n r1 0 undef ⟨0, 0, 0, 0⟩ 0 undef ⟨0, 0, 0, 0⟩ 0 undef false true false false true false false false false false false false false false false) w := by
 subst hl
 have H0 := H
 obtain ⟨FI0, CN, HK, NJ0, NJ1, NJ2⟩ := H
 simp only [ff7G, ff7S, cond_true, cond_false]
 refine wpAnyH_ready (rs := [1, 4, 13]) (by kernel_rfl) (by simp) ?_
 refine AllReadyH.cons (o := ff71) rfl (fun K hK => ?_) (AllReadyH.cons (o := ff74) rfl (fun K hK => ?_) (AllReadyH.cons (o := ff713) rfl (fun K hK => ?_) AllReadyH.nil))
 ·refine wp_loadFi FI.out 0 (by omega) _ rfl rfl (Rw.shape (FI.out.rw 0 (by omega))) ?_
  unfold ff71
  simp only [Act.put, sA, sB, sC]
  refine hK.out _ _ HH.out (fun hH => ?_); clear hK K
  exact ff7_51cf H0 r1 w _ (by kernel_rfl) OK1 FI HH HQ
 ·refine wp_build1P _ rfl r1 rfl (fun t1 w2 htb hwq => ?_)
  have hbb : Below w.heap.size w w2 := (by rw [hwq]; exact bl_alloc _ _)
  have SN := hidden (by rw [hwq]; exact bl_trans HH.out (bl_alloc _ _) : Below w9.heap.size w9 w2)
  have CK1 := hidden (by rw [htb, hwq]; exact range_newM _ _ _ : w2.rangeAt t1 0 [.int .u64 r1.x0, .int .u64 r1.x1, .int .u64 r1.x2, .int .u64 r1.x3])
  replace FI := hidden (FI.out.keep hbb : Fi w9 l (k + 1) R R n w2)
  replace HH := SN
  clear SN hbb  htb hwq
  unfold ff74
  simp only [Act.put, sA, sB, sC]
  refine hK.out _ _ HH.out (fun hH => ?_); clear hK K
  exact ff7_51dd H0 r1 t1 w2 _ (by kernel_rfl) OK1 CK1 FI HH HQ
 ·refine wp_loadFi FI.out 2 (by omega) _ rfl rfl (Rw.shape (FI.out.rw 2 (by omega))) ?_
  unfold ff713
  simp only [Act.put, sA, sB, sC]
  refine hK.out _ _ HH.out (fun hH => ?_); clear hK K
  exact ff7_71cd H0 r1 w _ (by kernel_rfl) OK1 FI HH HQ
theorem ff7_51c7 (H : ff7h w9 l k R n W)  (w : World) (listed : Array Bool) (hl : listed = #[true, true, true, false, false, false, true, true, true, false, false, false, true, false, true, false, false, false, false, false, false, false, false, false]) (FI : Hid (Fi w9 l k R R n w)) (HH : Hid (Below w9.heap.size w9 w)) (HQ : Hid (ff7f Q w9 l k R n U W)) : ff7G Q w9 l k R n W 16 listed (ff7S U w9 l k R n ⟨0, 0, 0, 0⟩ 0 undef ⟨0, 0, 0, 0⟩ 0 undef ⟨0, 0, 0, 0⟩ 0 undef true false false false true false false false false false false false false false false) w := by
 subst hl
 have H0 := H
 obtain ⟨FI0, CN, HK, NJ0, NJ1, NJ2⟩ := H
 simp only [ff7G, ff7S, cond_true, cond_false]
 refine wpAnyH_ready (rs := [3, 13]) (by kernel_rfl) (by simp) ?_
 refine AllReadyH.cons (o := ff73) rfl (fun K hK => ?_) (AllReadyH.cons (o := ff713) rfl (fun K hK => ?_) AllReadyH.nil)
 ·unfold ff73
  go_simp
  refine (CN.out _ _ _ _ _ (by have := HK.out; omega) FI.out).mono ?_
  rintro e w2 ⟨r1, rfl, okr, hf⟩
  have SN := hidden (hf.bel : Below w9.heap.size w9 w2)
  have OK1 := hidden (okr : r1.ok)
  replace FI := hidden (hf : Fi w9 l (k + 1) R R n w2)
  replace HH := SN
  clear SN  okr hf
  go_wp2_with fail
  refine hK.out _ _ HH.out (fun hH => ?_); clear hK K
  exact ff7_51cf H0 r1 w2 _ (by kernel_rfl) OK1 FI HH HQ
 ·refine wp_loadFi FI.out 2 (by omega) _ rfl rfl (Rw.shape (FI.out.rw 2 (by omega))) ?_
  unfold ff713
  simp only [Act.put, sA, sB, sC]
  refine hK.out _ _ HH.out (fun hH => ?_); clear hK K
  exact ff7_71c7 H0  w _ (by kernel_rfl) FI HH HQ
theorem ff7_515d (H : ff7h w9 l k R n W) (r1 : E4) (t1 : Nat) (w : World) (listed : Array Bool) (hl : listed = #[true, false, true, true, true, false, true, false, true, false, false, false, true, false, true, false, false, false, false, false, false, false, false, false]) (OK1 : Hid (r1.ok)) (CK1 : Hid (w.rangeAt t1 0 [.int .u64 r1.x0, .int .u64 r1.x1, .int .u64 r1.x2, .int .u64 r1.x3])) (FI : Hid (Fi w9 l (k + 1) R R n w)) (HH : Hid (Below w9.heap.size w9 w)) (HQ : Hid (ff7f Q w9 l k R n U W)) : ff7G Q w9 l k R n W 16 listed (ff7S U w9 l k R n r1 t1 undef ⟨0, 0, 0, 0⟩ 0 undef ⟨0, 0, 0, 0⟩ 0 undef false true true false false false false false false false false false false false false) w := by
 subst hl
 have H0 := H
 obtain ⟨FI0, CN, HK, NJ0, NJ1, NJ2⟩ := H
 simp only [ff7G, ff7S, cond_true, cond_false]
 refine wpAnyH_ready (rs := [1, 7, 13]) (by kernel_rfl) (by simp) ?_
 refine AllReadyH.cons (o := ff71) rfl (fun K hK => ?_) (AllReadyH.cons (o := ff77) rfl (fun K hK => ?_) (AllReadyH.cons (o := ff713) rfl (fun K hK => ?_) AllReadyH.nil))
 ·refine wp_loadFi FI.out 0 (by omega) _ rfl rfl (Rw.shape (FI.out.rw 0 (by omega))) ?_
  unfold ff71
  simp only [Act.put, sA, sB, sC]
  refine hK.out _ _ HH.out (fun hH => ?_); clear hK K
  exact ff7_515f H0 r1 t1 w _ (by kernel_rfl) OK1 CK1 FI HH HQ
 ·refine wp_loadFi FI.out 1 (by omega) _ rfl rfl (Rw.shape (FI.out.rw 1 (by omega))) ?_
  unfold ff77
  simp only [Act.put, sA, sB, sC]
  refine hK.out _ _ HH.out (fun hH => ?_); clear hK K
  exact ff7_51dd H0 r1 t1 w _ (by kernel_rfl) OK1 CK1 FI HH HQ
 ·refine wp_loadFi FI.out 2 (by omega) _ rfl rfl (Rw.shape (FI.out.rw 2 (by omega))) ?_
  unfold ff713
  simp only [Act.put, sA, sB, sC]
  refine hK.out _ _ HH.out (fun hH => ?_); clear hK K
  exact ff7_715d H0 r1 t1 w _ (by kernel_rfl) OK1 CK1 FI HH HQ
theorem ff7_514f (H : ff7h w9 l k R n W) (r1 : E4) (w : World) (listed : Array Bool) (hl : listed = #[true, true, true, true, false, false, true, false, true, false, false, false, true, false, true, false, false, false, false, false, false, false, false, false]) (OK1 : Hid (r1.ok)) (FI : Hid (Fi w9 l (k + 1) R R n w)) (HH : Hid (Below w9.heap.size w9 w)) (HQ : Hid (ff7f Q w9 l k R n U W)) : ff7G Q w9 l k R n W 16 listed (ff7S U w9 l k R n r1 0 undef ⟨0, 0, 0, 0⟩ 0 undef ⟨0, 0, 0, 0⟩ 0 undef true true false false false false false false false false false false false false false) w := by
 subst hl
 have H0 := H
 obtain ⟨FI0, CN, HK, NJ0, NJ1, NJ2⟩ := H
 simp only [ff7G, ff7S, cond_true, cond_false]
 refine wpAnyH_ready (rs := [4, 7, 13]) (by kernel_rfl) (by simp) ?_
 refine AllReadyH.cons (o := ff74) rfl (fun K hK => ?_) (AllReadyH.cons (o := ff77) rfl (fun K hK => ?_) (AllReadyH.cons (o := ff713) rfl (fun K hK => ?_) AllReadyH.nil))
 ·refine wp_build1P _ rfl r1 rfl (fun t1 w2 htb hwq => ?_)
  have hbb : Below w.heap.size w w2 := (by rw [hwq]; exact bl_alloc _ _)
  have SN := hidden (by rw [hwq]; exact bl_trans HH.out (bl_alloc _ _) : Below w9.heap.size w9 w2)
  have CK1 := hidden (by rw [htb, hwq]; exact range_newM _ _ _ : w2.rangeAt t1 0 [.int .u64 r1.x0, .int .u64 r1.x1, .int .u64 r1.x2, .int .u64 r1.x3])
  replace FI := hidden (FI.out.keep hbb : Fi w9 l (k + 1) R R n w2)
  replace HH := SN
  clear SN hbb  htb hwq
  unfold ff74
  simp only [Act.put, sA, sB, sC]
  refine hK.out _ _ HH.out (fun hH => ?_); clear hK K
  exact ff7_515f H0 r1 t1 w2 _ (by kernel_rfl) OK1 CK1 FI HH HQ
 ·refine wp_loadFi FI.out 1 (by omega) _ rfl rfl (Rw.shape (FI.out.rw 1 (by omega))) ?_
  unfold ff77
  simp only [Act.put, sA, sB, sC]
  refine hK.out _ _ HH.out (fun hH => ?_); clear hK K
  exact ff7_51cf H0 r1 w _ (by kernel_rfl) OK1 FI HH HQ
 ·refine wp_loadFi FI.out 2 (by omega) _ rfl rfl (Rw.shape (FI.out.rw 2 (by omega))) ?_
  unfold ff713
  simp only [Act.put, sA, sB, sC]
  refine hK.out _ _ HH.out (fun hH => ?_); clear hK K
  exact ff7_714f H0 r1 w _ (by kernel_rfl) OK1 FI HH HQ
theorem ff7_7145 (H : ff7h w9 l k R n W)  (w : World) (listed : Array Bool) (hl : listed = #[true, false, true, false, false, false, true, false, true, false, false, false, true, true, true, false, false, false, false, false, false, false, false, false]) (FI : Hid (Fi w9 l k R R n w)) (HH : Hid (Below w9.heap.size w9 w)) (HQ : Hid (ff7f Q w9 l k R n U W)) : ff7G Q w9 l k R n W 17 listed (ff7S U w9 l k R n ⟨0, 0, 0, 0⟩ 0 undef ⟨0, 0, 0, 0⟩ 0 undef ⟨0, 0, 0, 0⟩ 0 undef false false false false false false false false true false false false false false false) w := by
 subst hl
 have H0 := H
 obtain ⟨FI0, CN, HK, NJ0, NJ1, NJ2⟩ := H
 simp only [ff7G, ff7S, cond_true, cond_false]
 refine wpAnyH_ready (rs := [1, 3, 7]) (by kernel_rfl) (by simp) ?_
 refine AllReadyH.cons (o := ff71) rfl (fun K hK => ?_) (AllReadyH.cons (o := ff73) rfl (fun K hK => ?_) (AllReadyH.cons (o := ff77) rfl (fun K hK => ?_) AllReadyH.nil))
 ·refine wp_loadFi FI.out 0 (by omega) _ rfl rfl (Rw.shape (FI.out.rw 0 (by omega))) ?_
  unfold ff71
  simp only [Act.put, sA, sB, sC]
  refine hK.out _ _ HH.out (fun hH => ?_); clear hK K
  exact ff7_7147 H0  w _ (by kernel_rfl) FI HH HQ
 ·unfold ff73
  go_simp
  refine (CN.out _ _ _ _ _ (by have := HK.out; omega) FI.out).mono ?_
  rintro e w2 ⟨r1, rfl, okr, hf⟩
  have SN := hidden (hf.bel : Below w9.heap.size w9 w2)
  have OK1 := hidden (okr : r1.ok)
  replace FI := hidden (hf : Fi w9 l (k + 1) R R n w2)
  replace HH := SN
  clear SN  okr hf
  go_wp2_with fail
  refine hK.out _ _ HH.out (fun hH => ?_); clear hK K
  exact ff7_714d H0 r1 w2 _ (by kernel_rfl) OK1 FI HH HQ
 ·refine wp_loadFi FI.out 1 (by omega) _ rfl rfl (Rw.shape (FI.out.rw 1 (by omega))) ?_
  unfold ff77
  simp only [Act.put, sA, sB, sC]
  refine hK.out _ _ HH.out (fun hH => ?_); clear hK K
  exact ff7_71c5 H0  w _ (by kernel_rfl) FI HH HQ
theorem ff7_51c5 (H : ff7h w9 l k R n W)  (w : World) (listed : Array Bool) (hl : listed = #[true, false, true, false, false, false, true, true, true, false, false, false, true, false, true, false, false, false, false, false, false, false, false, false]) (FI : Hid (Fi w9 l k R R n w)) (HH : Hid (Below w9.heap.size w9 w)) (HQ : Hid (ff7f Q w9 l k R n U W)) : ff7G Q w9 l k R n W 17 listed (ff7S U w9 l k R n ⟨0, 0, 0, 0⟩ 0 undef ⟨0, 0, 0, 0⟩ 0 undef ⟨0, 0, 0, 0⟩ 0 undef false false false false true false false false false false false false false false false) w := by
 subst hl
 have H0 := H
 obtain ⟨FI0, CN, HK, NJ0, NJ1, NJ2⟩ := H
 simp only [ff7G, ff7S, cond_true, cond_false]
 refine wpAnyH_ready (rs := [1, 3, 13]) (by kernel_rfl) (by simp) ?_
 refine AllReadyH.cons (o := ff71) rfl (fun K hK => ?_) (AllReadyH.cons (o := ff73) rfl (fun K hK => ?_) (AllReadyH.cons (o := ff713) rfl (fun K hK => ?_) AllReadyH.nil))
 ·refine wp_loadFi FI.out 0 (by omega) _ rfl rfl (Rw.shape (FI.out.rw 0 (by omega))) ?_
  unfold ff71
  simp only [Act.put, sA, sB, sC]
  refine hK.out _ _ HH.out (fun hH => ?_); clear hK K
  exact ff7_51c7 H0  w _ (by kernel_rfl) FI HH HQ
 ·unfold ff73
  go_simp
  refine (CN.out _ _ _ _ _ (by have := HK.out; omega) FI.out).mono ?_
  rintro e w2 ⟨r1, rfl, okr, hf⟩
  have SN := hidden (hf.bel : Below w9.heap.size w9 w2)
  have OK1 := hidden (okr : r1.ok)
  replace FI := hidden (hf : Fi w9 l (k + 1) R R n w2)
  replace HH := SN
  clear SN  okr hf
  go_wp2_with fail
  refine hK.out _ _ HH.out (fun hH => ?_); clear hK K
  exact ff7_51cd H0 r1 w2 _ (by kernel_rfl) OK1 FI HH HQ
 ·refine wp_loadFi FI.out 2 (by omega) _ rfl rfl (Rw.shape (FI.out.rw 2 (by omega))) ?_
  unfold ff713
  simp only [Act.put, sA, sB, sC]
  refine hK.out _ _ HH.out (fun hH => ?_); clear hK K
  exact ff7_71c5 H0  w _ (by kernel_rfl) FI HH HQ
theorem ff7_514d (H : ff7h w9 l k R n W) (r1 : E4) (w : World) (listed : Array Bool) (hl : listed = #[true, false, true, true, false, false, true, false, true, false, false, false, true, false, true, false, false, false, false, false, false, false, false, false]) (OK1 : Hid (r1.ok)) (FI : Hid (Fi w9 l (k + 1) R R n w)) (HH : Hid (Below w9.heap.size w9 w)) (HQ : Hid (ff7f Q w9 l k R n U W)) : ff7G Q w9 l k R n W 17 listed (ff7S U w9 l k R n r1 0 undef ⟨0, 0, 0, 0⟩ 0 undef ⟨0, 0, 0, 0⟩ 0 undef false true false false false false false false false false false false false false false) w := by
 subst hl
 have H0 := H
 obtain ⟨FI0, CN, HK, NJ0, NJ1, NJ2⟩ := H
 simp only [ff7G, ff7S, cond_true, cond_false]
 refine wpAnyH_ready (rs := [1, 4, 7, 13]) (by kernel_rfl) (by simp) ?_
 refine AllReadyH.cons (o := ff71) rfl (fun K hK => ?_) (AllReadyH.cons (o := ff74) rfl (fun K hK => ?_) (AllReadyH.cons (o := ff77) rfl (fun K hK => ?_) (AllReadyH.cons (o := ff713) rfl (fun K hK => ?_) AllReadyH.nil)))
 ·refine wp_loadFi FI.out 0 (by omega) _ rfl rfl (Rw.shape (FI.out.rw 0 (by omega))) ?_
  unfold ff71
  simp only [Act.put, sA, sB, sC]
  refine hK.out _ _ HH.out (fun hH => ?_); clear hK K
  exact ff7_514f H0 r1 w _ (by kernel_rfl) OK1 FI HH HQ
 ·refine wp_build1P _ rfl r1 rfl (fun t1 w2 htb hwq => ?_)
  have hbb : Below w.heap.size w w2 := (by rw [hwq]; exact bl_alloc _ _)
  have SN := hidden (by rw [hwq]; exact bl_trans HH.out (bl_alloc _ _) : Below w9.heap.size w9 w2)
  have CK1 := hidden (by rw [htb, hwq]; exact range_newM _ _ _ : w2.rangeAt t1 0 [.int .u64 r1.x0, .int .u64 r1.x1, .int .u64 r1.x2, .int .u64 r1.x3])
  replace FI := hidden (FI.out.keep hbb : Fi w9 l (k + 1) R R n w2)
  replace HH := SN
  clear SN hbb  htb hwq
  unfold ff74
  simp only [Act.put, sA, sB, sC]
  refine hK.out _ _ HH.out (fun hH => ?_); clear hK K
  exact ff7_515d H0 r1 t1 w2 _ (by kernel_rfl) OK1 CK1 FI HH HQ
 ·refine wp_loadFi FI.out 1 (by omega) _ rfl rfl (Rw.shape (FI.out.rw 1 (by omega))) ?_
  unfold ff77
  simp only [Act.put, sA, sB, sC]
  refine hK.out _ _ HH.out (fun hH => ?_); clear hK K
  exact ff7_51cd H0 r1 w _ (by kernel_rfl) OK1 FI HH HQ
 ·refine wp_loadFi FI.out 2 (by omega) _ rfl rfl (Rw.shape (FI.out.rw 2 (by omega))) ?_
  unfold ff713
  simp only [Act.put, sA, sB, sC]
  refine hK.out _ _ HH.out (fun hH => ?_); clear hK K
  exact ff7_714d H0 r1 w _ (by kernel_rfl) OK1 FI HH HQ
theorem ff7_5147 (H : ff7h w9 l k R n W)  (w : World) (listed : Array Bool) (hl : listed = #[true, true, true, false, false, false, true, false, true, false, false, false, true, false, true, false, false, false, false, false, false, false, false, false]) (FI : Hid (Fi w9 l k R R n w)) (HH : Hid (Below w9.heap.size w9 w)) (HQ : Hid (ff7f Q w9 l k R n U W)) : ff7G Q w9 l k R n W 17 listed (ff7S U w9 l k R n ⟨0, 0, 0, 0⟩ 0 undef ⟨0, 0, 0, 0⟩ 0 undef ⟨0, 0, 0, 0⟩ 0 undef true false false false false false false false false false false false false false false) w := by
 subst hl
 have H0 := H
 obtain ⟨FI0, CN, HK, NJ0, NJ1, NJ2⟩ := H
 simp only [ff7G, ff7S, cond_true, cond_false]
 refine wpAnyH_ready (rs := [3, 7, 13]) (by kernel_rfl) (by simp) ?_
 refine AllReadyH.cons (o := ff73) rfl (fun K hK => ?_) (AllReadyH.cons (o := ff77) rfl (fun K hK => ?_) (AllReadyH.cons (o := ff713) rfl (fun K hK => ?_) AllReadyH.nil))
 ·unfold ff73
  go_simp
  refine (CN.out _ _ _ _ _ (by have := HK.out; omega) FI.out).mono ?_
  rintro e w2 ⟨r1, rfl, okr, hf⟩
  have SN := hidden (hf.bel : Below w9.heap.size w9 w2)
  have OK1 := hidden (okr : r1.ok)
  replace FI := hidden (hf : Fi w9 l (k + 1) R R n w2)
  replace HH := SN
  clear SN  okr hf
  go_wp2_with fail
  refine hK.out _ _ HH.out (fun hH => ?_); clear hK K
  exact ff7_514f H0 r1 w2 _ (by kernel_rfl) OK1 FI HH HQ
 ·refine wp_loadFi FI.out 1 (by omega) _ rfl rfl (Rw.shape (FI.out.rw 1 (by omega))) ?_
  unfold ff77
  simp only [Act.put, sA, sB, sC]
  refine hK.out _ _ HH.out (fun hH => ?_); clear hK K
  exact ff7_51c7 H0  w _ (by kernel_rfl) FI HH HQ
 ·refine wp_loadFi FI.out 2 (by omega) _ rfl rfl (Rw.shape (FI.out.rw 2 (by omega))) ?_
  unfold ff713
  simp only [Act.put, sA, sB, sC]
  refine hK.out _ _ HH.out (fun hH => ?_); clear hK K
  exact ff7_7147 H0  w _ (by kernel_rfl) FI HH HQ
theorem ff7_5145 (H : ff7h w9 l k R n W)  (w : World) (listed : Array Bool) (hl : listed = #[true, false, true, false, false, false, true, false, true, false, false, false, true, false, true, false, false, false, false, false, false, false, false, false]) (FI : Hid (Fi w9 l k R R n w)) (HH : Hid (Below w9.heap.size w9 w)) (HQ : Hid (ff7f Q w9 l k R n U W)) : ff7G Q w9 l k R n W 18 listed (ff7S U w9 l k R n ⟨0, 0, 0, 0⟩ 0 undef ⟨0, 0, 0, 0⟩ 0 undef ⟨0, 0, 0, 0⟩ 0 undef false false false false false false false false false false false false false false false) w := by
 subst hl
 have H0 := H
 obtain ⟨FI0, CN, HK, NJ0, NJ1, NJ2⟩ := H
 simp only [ff7G, ff7S, cond_true, cond_false]
 refine wpAnyH_ready (rs := [1, 3, 7, 13]) (by kernel_rfl) (by simp) ?_
 refine AllReadyH.cons (o := ff71) rfl (fun K hK => ?_) (AllReadyH.cons (o := ff73) rfl (fun K hK => ?_) (AllReadyH.cons (o := ff77) rfl (fun K hK => ?_) (AllReadyH.cons (o := ff713) rfl (fun K hK => ?_) AllReadyH.nil)))
 ·refine wp_loadFi FI.out 0 (by omega) _ rfl rfl (Rw.shape (FI.out.rw 0 (by omega))) ?_
  unfold ff71
  simp only [Act.put, sA, sB, sC]
  refine hK.out _ _ HH.out (fun hH => ?_); clear hK K
  exact ff7_5147 H0  w _ (by kernel_rfl) FI HH HQ
 ·unfold ff73
  go_simp
  refine (CN.out _ _ _ _ _ (by have := HK.out; omega) FI.out).mono ?_
  rintro e w2 ⟨r1, rfl, okr, hf⟩
  have SN := hidden (hf.bel : Below w9.heap.size w9 w2)
  have OK1 := hidden (okr : r1.ok)
  replace FI := hidden (hf : Fi w9 l (k + 1) R R n w2)
  replace HH := SN
  clear SN  okr hf
  go_wp2_with fail
  refine hK.out _ _ HH.out (fun hH => ?_); clear hK K
  exact ff7_514d H0 r1 w2 _ (by kernel_rfl) OK1 FI HH HQ
 ·refine wp_loadFi FI.out 1 (by omega) _ rfl rfl (Rw.shape (FI.out.rw 1 (by omega))) ?_
  unfold ff77
  simp only [Act.put, sA, sB, sC]
  refine hK.out _ _ HH.out (fun hH => ?_); clear hK K
  exact ff7_51c5 H0  w _ (by kernel_rfl) FI HH HQ
 ·refine wp_loadFi FI.out 2 (by omega) _ rfl rfl (Rw.shape (FI.out.rw 2 (by omega))) ?_
  unfold ff713
  simp only [Act.put, sA, sB, sC]
  refine hK.out _ _ HH.out (fun hH => ?_); clear hK K
  exact ff7_7145 H0  w _ (by kernel_rfl) FI HH HQ
end
theorem ff7 (Q : Exit → Act → World → Prop) (w9 : World) (l : Sl) (k : Nat) (R : Nat → Value) (n : Nat → Nat) (u0 u1 u2 u3 u4 u5 u6 u7 u10 u11 u12 u13 u14 u15 u16 u17 u18 u19 u20 u21 u22 u23 u24 u25 u26 u27 u28 u29 u30 u31 u32 u33 u34 u35 u36 u37 u38 u39 u40 u41 u42 u43 u44 u45 u46 u47 u48 u49 u50 u51 u52 u53 u54 u55 u56 u57 u58 u59 u60 u61 u62 u63 u64 u65 u66 u67 u68 u69 : Value) (W : World) (H : ff7h w9 l k R n W)
  (HQ : Hid (∀ (wz : World) (r1 r2 r3 : E4) (t1 t2 t3 : Nat) (v1 v2 v3 : Value), Fi w9 l (((k + 1) + 1) + 1) (upd (upd (upd R 0 v1) 1 v2) 2 v3) (upd (upd (upd R 0 v1) 1 v2) 2 v3) (upd (upd (upd n 0 (n 0 + 1)) 1 (n 1 + 1)) 2 (n 2 + 1)) wz → Q .normal ⟨#[u0, u1, u2, u3, u4, u5, u6, u7, .func (.func 35) #[] #[.pointer (some ⟨w9.heap.size + 2, 0, none⟩), .pointer (some ⟨w9.heap.size, 0, none⟩)], .pointer (some ⟨w9.heap.size + 3, 0, none⟩), u10, u11, u12, u13, u14, u15, u16, u17, u18, .pointer (some ⟨w9.heap.size + 3, 0, none⟩), (R 0), .func (.func 35) #[] #[.pointer (some ⟨w9.heap.size + 2, 0, none⟩), .pointer (some ⟨w9.heap.size, 0, none⟩)], .agg #[.int .u64 r1.x0, .int .u64 r1.x1, .int .u64 r1.x2, .int .u64 r1.x3], .slice (some ⟨t1, 0, none⟩) 1 1, v1, .pointer (some ⟨w9.heap.size + 3, 1, none⟩), (R 1), .func (.func 35) #[] #[.pointer (some ⟨w9.heap.size + 2, 0, none⟩), .pointer (some ⟨w9.heap.size, 0, none⟩)], .agg #[.int .u64 r2.x0, .int .u64 r2.x1, .int .u64 r2.x2, .int .u64 r2.x3], .slice (some ⟨t2, 0, none⟩) 1 1, v2, .pointer (some ⟨w9.heap.size + 3, 2, none⟩), (R 2), .func (.func 35) #[] #[.pointer (some ⟨w9.heap.size + 2, 0, none⟩), .pointer (some ⟨w9.heap.size, 0, none⟩)], .agg #[.int .u64 r3.x0, .int .u64 r3.x1, .int .u64 r3.x2, .int .u64 r3.x3], .slice (some ⟨t3, 0, none⟩) 1 1, v3, .pointer (some ⟨w9.heap.size + 3, 0, none⟩), .pointer (some ⟨w9.heap.size + 3, 1, none⟩), .pointer (some ⟨w9.heap.size + 3, 2, none⟩), u40, u41, u42, u43, u44, u45, u46, u47, u48, u49, u50, u51, u52, u53, u54, u55, u56, u57, u58, u59, u60, u61, u62, u63, u64, u65, u66, u67, u68, u69], []⟩ wz)) : (Code.region 7 ff7o true).wp Tryd.prog Q ⟨#[u0, u1, u2, u3, u4, u5, u6, u7, .func (.func 35) #[] #[.pointer (some ⟨w9.heap.size + 2, 0, none⟩), .pointer (some ⟨w9.heap.size, 0, none⟩)], .pointer (some ⟨w9.heap.size + 3, 0, none⟩), u10, u11, u12, u13, u14, u15, u16, u17, u18, u19, u20, u21, u22, u23, u24, u25, u26, u27, u28, u29, u30, u31, u32, u33, u34, u35, u36, u37, u38, u39, u40, u41, u42, u43, u44, u45, u46, u47, u48, u49, u50, u51, u52, u53, u54, u55, u56, u57, u58, u59, u60, u61, u62, u63, u64, u65, u66, u67, u68, u69], []⟩ W := by
 have H0 := H
 obtain ⟨FI0, CN, HK, NJ0, NJ1, NJ2⟩ := H
 replace HQ : Hid (ff7f Q w9 l k R n (nth [u0, u1, u2, u3, u4, u5, u6, u7, undef, undef, u10, u11, u12, u13, u14, u15, u16, u17, u18, u19, u20, u21, u22, u23, u24, u25, u26, u27, u28, u29, u30, u31, u32, u33, u34, u35, u36, u37, u38, u39, u40, u41, u42, u43, u44, u45, u46, u47, u48, u49, u50, u51, u52, u53, u54, u55, u56, u57, u58, u59, u60, u61, u62, u63, u64, u65, u66, u67, u68, u69]) W) := HQ
 refine wp_region_noPanic ?_
 refine wp_region_held_drew (S := fun x => Below w9.heap.size w9 x) (by kernel_rfl) (bl_trans FI0.out.bel (bl_drew W)) (fun hH => ?_)
 have HH := hidden hH
 have FI : Hid (Fi w9 l k R R n W.drew) := hidden (FI0.out.keep (bl_drew W))
 refine tk 0 ff70 (.pointer (some ⟨w9.heap.size + 3, 0, none⟩)) rfl (by kernel_rfl) hH rfl (fun w0 hSw => ?_) ?_
 ·(unfold ff70; clear hSw; go_simp)
 unfold ff70
 simp only [Act.put, sA, sB, sC]
 refine tk 2 ff72 (.func (.func 35) #[] #[.pointer (some ⟨w9.heap.size + 2, 0, none⟩), .pointer (some ⟨w9.heap.size, 0, none⟩)]) rfl (by kernel_rfl) hH rfl (fun w0 hSw => ?_) ?_
 ·(unfold ff72; clear hSw; go_simp)
 unfold ff72
 simp only [Act.put, sA, sB, sC]
 refine tk 6 ff76 (.pointer (some ⟨w9.heap.size + 3, 1, none⟩)) rfl (by kernel_rfl) hH rfl (fun w0 hSw => ?_) ?_
 ·(unfold ff76; clear hSw; go_simp)
 unfold ff76
 simp only [Act.put, sA, sB, sC]
 refine tk 8 ff78 (.func (.func 35) #[] #[.pointer (some ⟨w9.heap.size + 2, 0, none⟩), .pointer (some ⟨w9.heap.size, 0, none⟩)]) rfl (by kernel_rfl) hH rfl (fun w0 hSw => ?_) ?_
 ·(unfold ff78; clear hSw; go_simp)
 unfold ff78
 simp only [Act.put, sA, sB, sC]
 refine tk 12 ff712 (.pointer (some ⟨w9.heap.size + 3, 2, none⟩)) rfl (by kernel_rfl) hH rfl (fun w0 hSw => ?_) ?_
 ·(unfold ff712; clear hSw; go_simp)
 unfold ff712
 simp only [Act.put, sA, sB, sC]
 refine tk 14 ff714 (.func (.func 35) #[] #[.pointer (some ⟨w9.heap.size + 2, 0, none⟩), .pointer (some ⟨w9.heap.size, 0, none⟩)]) rfl (by kernel_rfl) hH rfl (fun w0 hSw => ?_) ?_
 ·(unfold ff714; clear hSw; go_simp)
 unfold ff714
 simp only [Act.put, sA, sB, sC]
 exact ff7_5145 H0  W.drew _ (by kernel_rfl) FI HH HQ
def ff130 : Oper := { dst := some 62, op := Op.fieldAddr 37 (Operand.tmp 9) 3, type := 0, pos := "outright.go:64", after := #[], guard := none }
def ff131 : Oper := { dst := some 63, op := Op.load 25 (Operand.tmp 62), type := 25, pos := "outright.go:64", after := #[{ on := 0, ground := Ground.data }], guard := none }
def ff132 : Oper := { dst := some 64, op := Op.move (Operand.tmp 8), type := 77, pos := "outright.go:64", after := #[], guard := none }
def ff133 : Oper := { dst := some 65, op := Op.call { callee := Callee.value (Operand.tmp 64), args := #[], argTypes := #[] }, type := 41, pos := "outright.go:64", after := #[{ on := 2, ground := Ground.data }], guard := none }
def ff134 : Oper := { dst := some 66, op := Op.buildSlice 25 1 #[(0, Operand.tmp 65)], type := 25, pos := "outright.go:64", after := #[{ on := 3, ground := Ground.data }], guard := none }
def ff135 : Oper := { dst := some 67, op := Op.call { callee := Callee.builtin Builtin.append, args := #[Operand.tmp 63, Operand.tmp 66], argTypes := #[25, 25] }, type := 25, pos := "outright.go:64", after := #[{ on := 1, ground := Ground.data }, { on := 4, ground := Ground.data }, { on := 3, ground := Ground.chain }], guard := none }
def ff136 : Oper := { dst := some 68, op := Op.fieldAddr 37 (Operand.tmp 9) 3, type := 0, pos := "outright.go:64", after := #[{ on := 0, ground := Ground.phase }, { on := 1, ground := Ground.phase }, { on := 2, ground := Ground.phase }, { on := 3, ground := Ground.phase }, { on := 4, ground := Ground.phase }, { on := 5, ground := Ground.phase }], guard := none }
def ff137 : Oper := { dst := none, op := Op.store 25 (Operand.tmp 68) (Operand.tmp 67), type := 0, pos := "outright.go:64", after := #[{ on := 6, ground := Ground.data }, { on := 5, ground := Ground.data }, { on := 5, ground := Ground.chain }, { on := 0, ground := Ground.phase }, { on := 1, ground := Ground.phase }, { on := 2, ground := Ground.phase }, { on := 3, ground := Ground.phase }, { on := 4, ground := Ground.phase }, { on := 5, ground := Ground.phase }], guard := none }
def ff13o : Array Oper := #[ff130, ff131, ff132, ff133, ff134, ff135, ff136, ff137]
structure ff13h (w9 : World) (l : Sl) (k : Nat) (R : Nat → Value) (n : Nat → Nat) (W : World) : Prop where
 FI0 : Hid (Fi w9 l k R R n W)
 CN : Hid (∀ (k' : Nat) (C R : Nat → Value) (n : Nat → Nat) (x : World), k' ≤ 1000000 → Fi w9 l k' C R n x → Calls Tryd.prog 35 #[.pointer (some ⟨w9.heap.size + 2, 0, none⟩), .pointer (some ⟨w9.heap.size, 0, none⟩)] x fun e y => ∃ r : E4, e = .returned (.agg #[.int .u64 r.x0, .int .u64 r.x1, .int .u64 r.x2, .int .u64 r.x3]) ∧ r.ok ∧ Fi w9 l (k' + 1) C R n y)
 HK : Hid (k + 3 ≤ 1000000)
 NJ3 : Hid (n 3 ≤ 100000)
def ff13S (U : Nat → Value) (w9 : World) (l : Sl) (k : Nat) (R : Nat → Value) (n : Nat → Nat) (r1 : E4) (t1 : Nat) (v1 : Value) (f1 f3 f4 f5 f6 : Bool) : Array Value := #[U 0, U 1, U 2, U 3, U 4, U 5, U 6, U 7, .func (.func 35) #[] #[.pointer (some ⟨w9.heap.size + 2, 0, none⟩), .pointer (some ⟨w9.heap.size, 0, none⟩)], .pointer (some ⟨w9.heap.size + 3, 0, none⟩), U 10, U 11, U 12, U 13, U 14, U 15, U 16, U 17, U 18, U 19, U 20, U 21, U 22, U 23, U 24, U 25, U 26, U 27, U 28, U 29, U 30, U 31, U 32, U 33, U 34, U 35, U 36, U 37, U 38, U 39, U 40, U 41, U 42, U 43, U 44, U 45, U 46, U 47, U 48, U 49, U 50, U 51, U 52, U 53, U 54, U 55, U 56, U 57, U 58, U 59, U 60, U 61, .pointer (some ⟨w9.heap.size + 3, 3, none⟩), bif f1 then (R 3) else U 63, .func (.func 35) #[] #[.pointer (some ⟨w9.heap.size + 2, 0, none⟩), .pointer (some ⟨w9.heap.size, 0, none⟩)], bif f3 then .agg #[.int .u64 r1.x0, .int .u64 r1.x1, .int .u64 r1.x2, .int .u64 r1.x3] else U 65, bif f4 then .slice (some ⟨t1, 0, none⟩) 1 1 else U 66, bif f5 then v1 else U 67, bif f6 then .pointer (some ⟨w9.heap.size + 3, 3, none⟩) else U 68, U 69]
def ff13G (Q : Exit → Act → World → Prop) (w9 : World) (l : Sl) (k : Nat) (R : Nat → Value) (n : Nat → Nat) (W : World) (fuel : Nat) (listed : Array Bool) (a : Array Value) (w : World) : Prop := wpAnyH Tryd.prog Region.Mode.any ff13o (NoPanic Q) (fun x => Below w9.heap.size w9 x) fuel listed ⟨a, []⟩ w
def ff13f (Q : Exit → Act → World → Prop) (w9 : World) (l : Sl) (k : Nat) (R : Nat → Value) (n : Nat → Nat) (U : Nat → Value) (W : World) : Prop := ∀ (wz : World) (r1 : E4) (t1 : Nat) (v1 : Value), Fi w9 l (k + 1) (upd R 3 v1) (upd R 3 v1) (upd n 3 (n 3 + 1)) wz → Q .normal ⟨ff13S U w9 l k R n r1 t1 v1 true true true true true, []⟩ wz
section
variable {Q : Exit → Act → World → Prop} {w9 : World} {l : Sl} {k : Nat} {R : Nat → Value} {n : Nat → Nat} {U : Nat → Value} {W : World}
theorem ff13_ff (H : ff13h w9 l k R n W) (r1 : E4) (t1 : Nat) (v1 : Value) (w : World) (listed : Array Bool) (hl : listed = #[true, true, true, true, true, true, true, true]) (FI : Hid (Fi w9 l (k + 1) (upd R 3 v1) (upd R 3 v1) (upd n 3 (n 3 + 1)) w)) (HH : Hid (Below w9.heap.size w9 w)) (HQ : Hid (ff13f Q w9 l k R n U W)) : ff13G Q w9 l k R n W 0 listed (ff13S U w9 l k R n r1 t1 v1 true true true true true) w := by
 subst hl
 have H0 := H
 obtain ⟨FI0, CN, HK, NJ3⟩ := H
 simp only [ff13G, ff13S, cond_true, cond_false]
 refine wpAnyH_done (by kernel_rfl) ?_ _
 refine NoPanic.normal ?_
 exact HQ.out _ r1 t1 v1 FI.out
theorem ff13_7f (H : ff13h w9 l k R n W) (r1 : E4) (t1 : Nat) (v1 : Value) (w : World) (listed : Array Bool) (hl : listed = #[true, true, true, true, true, true, true, false]) (FI : Hid (Fi w9 l (k + 1) R (upd R 3 v1) (upd n 3 (n 3 + 1)) w)) (HH : Hid (Below w9.heap.size w9 w)) (HQ : Hid (ff13f Q w9 l k R n U W)) : ff13G Q w9 l k R n W 1 listed (ff13S U w9 l k R n r1 t1 v1 true true true true true) w := by
 subst hl
 have H0 := H
 obtain ⟨FI0, CN, HK, NJ3⟩ := H
 simp only [ff13G, ff13S, cond_true, cond_false]
 refine wpAnyH_ready (rs := [7]) (by kernel_rfl) (by simp) ?_
 refine AllReadyH.cons (o := ff137) rfl (fun K hK => ?_) AllReadyH.nil
 refine wp_storeFi FI.out 3 (by omega) _ _ rfl rfl _ rfl rfl rfl (fun w2 hf => ?_)
 have SN := hidden (hf.bel : Below w9.heap.size w9 w2)
 replace FI := hidden (hf : Fi w9 l (k + 1) (upd R 3 v1) (upd R 3 v1) (upd n 3 (n 3 + 1)) w2)
 replace HH := SN
 clear SN  hf
 refine hK.out _ _ HH.out (fun hH => ?_); clear hK K
 exact ff13_ff H0 r1 t1 v1 w2 _ (by kernel_rfl) FI HH HQ
theorem ff13_1f (H : ff13h w9 l k R n W) (r1 : E4) (t1 : Nat) (w : World) (listed : Array Bool) (hl : listed = #[true, true, true, true, true, false, false, false]) (OK1 : Hid (r1.ok)) (CK1 : Hid (w.rangeAt t1 0 [.int .u64 r1.x0, .int .u64 r1.x1, .int .u64 r1.x2, .int .u64 r1.x3])) (FI : Hid (Fi w9 l (k + 1) R R n w)) (HH : Hid (Below w9.heap.size w9 w)) (HQ : Hid (ff13f Q w9 l k R n U W)) : ff13G Q w9 l k R n W 3 listed (ff13S U w9 l k R n r1 t1 undef true true true false false) w := by
 subst hl
 have H0 := H
 obtain ⟨FI0, CN, HK, NJ3⟩ := H
 simp only [ff13G, ff13S, cond_true, cond_false]
 refine wpAnyH_ready (rs := [5]) (by kernel_rfl) (by simp) ?_
 refine AllReadyH.cons (o := ff135) rfl (fun K hK => ?_) AllReadyH.nil
 refine wp_appFi FI.out 3 (by omega) _ _ rfl _ rfl rfl t1 rfl r1 CK1.out OK1.out NJ3.out (fun v1 w2 hf => ?_)
 have SN := hidden (hf.bel : Below w9.heap.size w9 w2)
 replace FI := hidden (hf : Fi w9 l (k + 1) R (upd R 3 v1) (upd n 3 (n 3 + 1)) w2)
 replace HH := SN
 clear SN OK1 CK1 hf
 unfold ff135
 simp only [Act.put, sA, sB, sC]
 refine hK.out _ _ HH.out (fun hH => ?_); clear hK K
 refine tk 6 ff136 (.pointer (some ⟨w9.heap.size + 3, 3, none⟩)) rfl (by kernel_rfl) hH rfl (fun w0 hSw => ?_) ?_
 ·(unfold ff136; clear hSw; go_simp)
 unfold ff136
 simp only [Act.put, sA, sB, sC]
 exact ff13_7f H0 r1 t1 v1 w2 _ (by kernel_rfl) FI HH HQ
theorem ff13_1d (H : ff13h w9 l k R n W) (r1 : E4) (t1 : Nat) (w : World) (listed : Array Bool) (hl : listed = #[true, false, true, true, true, false, false, false]) (OK1 : Hid (r1.ok)) (CK1 : Hid (w.rangeAt t1 0 [.int .u64 r1.x0, .int .u64 r1.x1, .int .u64 r1.x2, .int .u64 r1.x3])) (FI : Hid (Fi w9 l (k + 1) R R n w)) (HH : Hid (Below w9.heap.size w9 w)) (HQ : Hid (ff13f Q w9 l k R n U W)) : ff13G Q w9 l k R n W 4 listed (ff13S U w9 l k R n r1 t1 undef false true true false false) w := by
 subst hl
 have H0 := H
 obtain ⟨FI0, CN, HK, NJ3⟩ := H
 simp only [ff13G, ff13S, cond_true, cond_false]
 refine wpAnyH_ready (rs := [1]) (by kernel_rfl) (by simp) ?_
 refine AllReadyH.cons (o := ff131) rfl (fun K hK => ?_) AllReadyH.nil
 refine wp_loadFi FI.out 3 (by omega) _ rfl rfl (Rw.shape (FI.out.rw 3 (by omega))) ?_
 unfold ff131
 simp only [Act.put, sA, sB, sC]
 refine hK.out _ _ HH.out (fun hH => ?_); clear hK K
 exact ff13_1f H0 r1 t1 w _ (by kernel_rfl) OK1 CK1 FI HH HQ
theorem ff13_f (H : ff13h w9 l k R n W) (r1 : E4) (w : World) (listed : Array Bool) (hl : listed = #[true, true, true, true, false, false, false, false]) (OK1 : Hid (r1.ok)) (FI : Hid (Fi w9 l (k + 1) R R n w)) (HH : Hid (Below w9.heap.size w9 w)) (HQ : Hid (ff13f Q w9 l k R n U W)) : ff13G Q w9 l k R n W 4 listed (ff13S U w9 l k R n r1 0 undef true true false false false) w := by
 subst hl
 have H0 := H
 obtain ⟨FI0, CN, HK, NJ3⟩ := H
 simp only [ff13G, ff13S, cond_true, cond_false]
 refine wpAnyH_ready (rs := [4]) (by kernel_rfl) (by simp) ?_
 refine AllReadyH.cons (o := ff134) rfl (fun K hK => ?_) AllReadyH.nil
 refine wp_build1P _ rfl r1 rfl (fun t1 w2 htb hwq => ?_)
 have hbb : Below w.heap.size w w2 := (by rw [hwq]; exact bl_alloc _ _)
 have SN := hidden (by rw [hwq]; exact bl_trans HH.out (bl_alloc _ _) : Below w9.heap.size w9 w2)
 have CK1 := hidden (by rw [htb, hwq]; exact range_newM _ _ _ : w2.rangeAt t1 0 [.int .u64 r1.x0, .int .u64 r1.x1, .int .u64 r1.x2, .int .u64 r1.x3])
 replace FI := hidden (FI.out.keep hbb : Fi w9 l (k + 1) R R n w2)
 replace HH := SN
 clear SN hbb  htb hwq
 unfold ff134
 simp only [Act.put, sA, sB, sC]
 refine hK.out _ _ HH.out (fun hH => ?_); clear hK K
 exact ff13_1f H0 r1 t1 w2 _ (by kernel_rfl) OK1 CK1 FI HH HQ
theorem ff13_d (H : ff13h w9 l k R n W) (r1 : E4) (w : World) (listed : Array Bool) (hl : listed = #[true, false, true, true, false, false, false, false]) (OK1 : Hid (r1.ok)) (FI : Hid (Fi w9 l (k + 1) R R n w)) (HH : Hid (Below w9.heap.size w9 w)) (HQ : Hid (ff13f Q w9 l k R n U W)) : ff13G Q w9 l k R n W 5 listed (ff13S U w9 l k R n r1 0 undef false true false false false) w := by
 subst hl
 have H0 := H
 obtain ⟨FI0, CN, HK, NJ3⟩ := H
 simp only [ff13G, ff13S, cond_true, cond_false]
 refine wpAnyH_ready (rs := [1, 4]) (by kernel_rfl) (by simp) ?_
 refine AllReadyH.cons (o := ff131) rfl (fun K hK => ?_) (AllReadyH.cons (o := ff134) rfl (fun K hK => ?_) AllReadyH.nil)
 ·refine wp_loadFi FI.out 3 (by omega) _ rfl rfl (Rw.shape (FI.out.rw 3 (by omega))) ?_
  unfold ff131
  simp only [Act.put, sA, sB, sC]
  refine hK.out _ _ HH.out (fun hH => ?_); clear hK K
  exact ff13_f H0 r1 w _ (by kernel_rfl) OK1 FI HH HQ
 ·refine wp_build1P _ rfl r1 rfl (fun t1 w2 htb hwq => ?_)
  have hbb : Below w.heap.size w w2 := (by rw [hwq]; exact bl_alloc _ _)
  have SN := hidden (by rw [hwq]; exact bl_trans HH.out (bl_alloc _ _) : Below w9.heap.size w9 w2)
  have CK1 := hidden (by rw [htb, hwq]; exact range_newM _ _ _ : w2.rangeAt t1 0 [.int .u64 r1.x0, .int .u64 r1.x1, .int .u64 r1.x2, .int .u64 r1.x3])
  replace FI := hidden (FI.out.keep hbb : Fi w9 l (k + 1) R R n w2)
  replace HH := SN
  clear SN hbb  htb hwq
  unfold ff134
  simp only [Act.put, sA, sB, sC]
  refine hK.out _ _ HH.out (fun hH => ?_); clear hK K
  exact ff13_1d H0 r1 t1 w2 _ (by kernel_rfl) OK1 CK1 FI HH HQ
theorem ff13_7 (H : ff13h w9 l k R n W)  (w : World) (listed : Array Bool) (hl : listed = #[true, true, true, false, false, false, false, false]) (FI : Hid (Fi w9 l k R R n w)) (HH : Hid (Below w9.heap.size w9 w)) (HQ : Hid (ff13f Q w9 l k R n U W)) : ff13G Q w9 l k R n W 5 listed (ff13S U w9 l k R n ⟨0, 0, 0, 0⟩ 0 undef true false false false false) w := by
 subst hl
 have H0 := H
 obtain ⟨FI0, CN, HK, NJ3⟩ := H
 simp only [ff13G, ff13S, cond_true, cond_false]
 refine wpAnyH_ready (rs := [3]) (by kernel_rfl) (by simp) ?_
 refine AllReadyH.cons (o := ff133) rfl (fun K hK => ?_) AllReadyH.nil
 unfold ff133
 go_simp
 refine (CN.out _ _ _ _ _ (by have := HK.out; omega) FI.out).mono ?_
 rintro e w2 ⟨r1, rfl, okr, hf⟩
 have SN := hidden (hf.bel : Below w9.heap.size w9 w2)
 have OK1 := hidden (okr : r1.ok)
 replace FI := hidden (hf : Fi w9 l (k + 1) R R n w2)
 replace HH := SN
 clear SN  okr hf
 go_wp2_with fail
 refine hK.out _ _ HH.out (fun hH => ?_); clear hK K
 exact ff13_f H0 r1 w2 _ (by kernel_rfl) OK1 FI HH HQ
theorem ff13_5 (H : ff13h w9 l k R n W)  (w : World) (listed : Array Bool) (hl : listed = #[true, false, true, false, false, false, false, false]) (FI : Hid (Fi w9 l k R R n w)) (HH : Hid (Below w9.heap.size w9 w)) (HQ : Hid (ff13f Q w9 l k R n U W)) : ff13G Q w9 l k R n W 6 listed (ff13S U w9 l k R n ⟨0, 0, 0, 0⟩ 0 undef false false false false false) w := by
 subst hl
 have H0 := H
 obtain ⟨FI0, CN, HK, NJ3⟩ := H
 simp only [ff13G, ff13S, cond_true, cond_false]
 refine wpAnyH_ready (rs := [1, 3]) (by kernel_rfl) (by simp) ?_
 refine AllReadyH.cons (o := ff131) rfl (fun K hK => ?_) (AllReadyH.cons (o := ff133) rfl (fun K hK => ?_) AllReadyH.nil)
 ·refine wp_loadFi FI.out 3 (by omega) _ rfl rfl (Rw.shape (FI.out.rw 3 (by omega))) ?_
  unfold ff131
  simp only [Act.put, sA, sB, sC]
  refine hK.out _ _ HH.out (fun hH => ?_); clear hK K
  exact ff13_7 H0  w _ (by kernel_rfl) FI HH HQ
 ·unfold ff133
  go_simp
  refine (CN.out _ _ _ _ _ (by have := HK.out; omega) FI.out).mono ?_
  rintro e w2 ⟨r1, rfl, okr, hf⟩
  have SN := hidden (hf.bel : Below w9.heap.size w9 w2)
  have OK1 := hidden (okr : r1.ok)
  replace FI := hidden (hf : Fi w9 l (k + 1) R R n w2)
  replace HH := SN
  clear SN  okr hf
  go_wp2_with fail
  refine hK.out _ _ HH.out (fun hH => ?_); clear hK K
  exact ff13_d H0 r1 w2 _ (by kernel_rfl) OK1 FI HH HQ
end
theorem ff13 (Q : Exit → Act → World → Prop) (w9 : World) (l : Sl) (k : Nat) (R : Nat → Value) (n : Nat → Nat) (u0 u1 u2 u3 u4 u5 u6 u7 u10 u11 u12 u13 u14 u15 u16 u17 u18 u19 u20 u21 u22 u23 u24 u25 u26 u27 u28 u29 u30 u31 u32 u33 u34 u35 u36 u37 u38 u39 u40 u41 u42 u43 u44 u45 u46 u47 u48 u49 u50 u51 u52 u53 u54 u55 u56 u57 u58 u59 u60 u61 u62 u63 u64 u65 u66 u67 u68 u69 : Value) (W : World) (H : ff13h w9 l k R n W)
  (HQ : Hid (∀ (wz : World) (r1 : E4) (t1 : Nat) (v1 : Value), Fi w9 l (k + 1) (upd R 3 v1) (upd R 3 v1) (upd n 3 (n 3 + 1)) wz → Q .normal ⟨#[u0, u1, u2, u3, u4, u5, u6, u7, .func (.func 35) #[] #[.pointer (some ⟨w9.heap.size + 2, 0, none⟩), .pointer (some ⟨w9.heap.size, 0, none⟩)], .pointer (some ⟨w9.heap.size + 3, 0, none⟩), u10, u11, u12, u13, u14, u15, u16, u17, u18, u19, u20, u21, u22, u23, u24, u25, u26, u27, u28, u29, u30, u31, u32, u33, u34, u35, u36, u37, u38, u39, u40, u41, u42, u43, u44, u45, u46, u47, u48, u49, u50, u51, u52, u53, u54, u55, u56, u57, u58, u59, u60, u61, .pointer (some ⟨w9.heap.size + 3, 3, none⟩), (R 3), .func (.func 35) #[] #[.pointer (some ⟨w9.heap.size + 2, 0, none⟩), .pointer (some ⟨w9.heap.size, 0, none⟩)], .agg #[.int .u64 r1.x0, .int .u64 r1.x1, .int .u64 r1.x2, .int .u64 r1.x3], .slice (some ⟨t1, 0, none⟩) 1 1, v1, .pointer (some ⟨w9.heap.size + 3, 3, none⟩), u69], []⟩ wz)) : (Code.region 13 ff13o true).wp Tryd.prog Q ⟨#[u0, u1, u2, u3, u4, u5, u6, u7, .func (.func 35) #[] #[.pointer (some ⟨w9.heap.size + 2, 0, none⟩), .pointer (some ⟨w9.heap.size, 0, none⟩)], .pointer (some ⟨w9.heap.size + 3, 0, none⟩), u10, u11, u12, u13, u14, u15, u16, u17, u18, u19, u20, u21, u22, u23, u24, u25, u26, u27, u28, u29, u30, u31, u32, u33, u34, u35, u36, u37, u38, u39, u40, u41, u42, u43, u44, u45, u46, u47, u48, u49, u50, u51, u52, u53, u54, u55, u56, u57, u58, u59, u60, u61, u62, u63, u64, u65, u66, u67, u68, u69], []⟩ W := by
 have H0 := H
 obtain ⟨FI0, CN, HK, NJ3⟩ := H
 replace HQ : Hid (ff13f Q w9 l k R n (nth [u0, u1, u2, u3, u4, u5, u6, u7, undef, undef, u10, u11, u12, u13, u14, u15, u16, u17, u18, u19, u20, u21, u22, u23, u24, u25, u26, u27, u28, u29, u30, u31, u32, u33, u34, u35, u36, u37, u38, u39, u40, u41, u42, u43, u44, u45, u46, u47, u48, u49, u50, u51, u52, u53, u54, u55, u56, u57, u58, u59, u60, u61, u62, u63, u64, u65, u66, u67, u68, u69]) W) := HQ
 refine wp_region_noPanic ?_
 refine wp_region_held_drew (S := fun x => Below w9.heap.size w9 x) (by kernel_rfl) (bl_trans FI0.out.bel (bl_drew W)) (fun hH => ?_)
 have HH := hidden hH
 have FI : Hid (Fi w9 l k R R n W.drew) := hidden (FI0.out.keep (bl_drew W))
 refine tk 0 ff130 (.pointer (some ⟨w9.heap.size + 3, 3, none⟩)) rfl (by kernel_rfl) hH rfl (fun w0 hSw => ?_) ?_
 ·(unfold ff130; clear hSw; go_simp)
 unfold ff130
 simp only [Act.put, sA, sB, sC]
 refine tk 2 ff132 (.func (.func 35) #[] #[.pointer (some ⟨w9.heap.size + 2, 0, none⟩), .pointer (some ⟨w9.heap.size, 0, none⟩)]) rfl (by kernel_rfl) hH rfl (fun w0 hSw => ?_) ?_
 ·(unfold ff132; clear hSw; go_simp)
 unfold ff132
 simp only [Act.put, sA, sB, sC]
 exact ff13_5 H0  W.drew _ (by kernel_rfl) FI HH HQ
end Ci
end Go.Proofs.YtclihahohhhhiaaDoor
