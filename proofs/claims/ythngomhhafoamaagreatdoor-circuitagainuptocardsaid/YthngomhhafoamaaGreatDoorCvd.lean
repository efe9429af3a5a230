import Derived.Test.YthngomhhafoamaaGreatDoorCva
set_option linter.unusedVariables false
set_option linter.unusedSimpArgs false
set_option maxRecDepth 100000
set_option maxHeartbeats 16000000
namespace Go.Proofs.YthngomhhafoamaaGreatDoor
open Go.RowKit
open Cm (Wr Tm co bf Ls lf ins Eqm)
namespace Ci
theorem there_gbO {x y : World} {b o m : Nat} {row : Option Nat} (h : x.there b o m) (hg : x.grownBy y row) (hne : some b ≠ row) : y.there b o m := fun j hj => by
 obtain ⟨h1, h2⟩ := h j hj
 obtain ⟨u, hu⟩ := Option.isSome_iff_exists.1 h1
 have hl := World.block_lt_of_cell? x _ hu
 refine ⟨by rw [hg.cell hu hne]; rfl, ?_⟩
 unfold World.frozen? at h2 ⊢
 rw [hg.block b hl hne]
 exact h2
theorem wp_ld4 {w : World} {o : Oper} {a : Act} {K : Act → World → Prop} {Q : Exit → Act → World → Prop} (x0 : Operand) (ho : o.op = .load 35 x0) (b off : Nat) (p : E4) (h0 : a.eval x0 = .pointer (some ⟨b, off, none⟩)) (hr : w.rangeAt b off [.int .u64 p.x0, .int .u64 p.x1, .int .u64 p.x2, .int .u64 p.x3]) (h : K (a.put o.dst (.agg #[.int .u64 p.x0, .int .u64 p.x1, .int .u64 p.x2, .int .u64 p.x3])) w) : o.wp Tryz.prog a w K Q := by
 have e0 : w.cell? ⟨b, off, none⟩ = some (.int .u64 p.x0) := hr 0 _ rfl
 have e1 : w.cell? ⟨b, off + 1, none⟩ = some (.int .u64 p.x1) := hr 1 _ rfl
 have e2 : w.cell? ⟨b, off + 2, none⟩ = some (.int .u64 p.x2) := hr 2 _ rfl
 have e3 : w.cell? ⟨b, off + 3, none⟩ = some (.int .u64 p.x3) := hr 3 _ rfl
 have hl : (loadVar 35 ⟨b, off, none⟩).run Tryz.prog w = .ok (.agg #[.int .u64 p.x0, .int .u64 p.x1, .int .u64 p.x2, .int .u64 p.x3]) w := by go_simp
 unfold Oper.wp execOp
 simp only [ho, h0, Instr.loadAt, Instr.sureAddr, hl, Sem.run_bind, Sem.run_pure, Result.andThen_ok]
 exact h
def Ot (w : World) (P : Option Addr) (n c : Nat) (f : Nat → Trm) : Prop := w.ownsRow 0 77 6 (.slice P n c) n (tvs n f) ∧ (∀ k, k < n → (f k).a.ok) ∧ n ≤ 1048576
theorem Ot.keep {w w2 : World} {P : Option Addr} {n c : Nat} {f : Nat → Trm} (h : Ot w P n c f) (hb : Below w.heap.size w w2) : Ot w2 P n c f := ⟨own_keepT h.1 hb, h.2⟩
theorem Ot.lt {w : World} {P : Option Addr} {n c : Nat} {f : Nat → Trm} (h : Ot w P n c f) : Lt w P n f := own_lt h.1
theorem Ot.src {w : World} {P : Option Addr} {n c : Nat} {f : Nat → Trm} (h : Ot w P n c f) : (P = none → n = 0 ∧ c = 0) ∧ ∀ b, P = some b → ∀ j u, (tvs n f)[j]? = some u → w.cell? (b.add j) = some u := by
 rcases h.1.2 with ⟨h1, h2⟩ | ⟨gb, cp, cur, h1, _⟩
 ·simp only [Value.slice.injEq] at h1
  obtain ⟨rfl, rfl, rfl⟩ := h1
  exact ⟨fun _ => ⟨rfl, rfl⟩, fun b hb => by cases hb⟩
 ·have h1' := h1
  simp only [Value.slice.injEq] at h1'
  obtain ⟨rfl, _, rfl⟩ := h1'
  refine ⟨fun e => (by cases e), fun b hb j u hu => ?_⟩
  obtain rfl := Option.some.inj hb
  have h5 := h.1.cells (g := gb) rfl j u hu; exact h5
theorem copyT (w : World) (P : Option Addr) (n c ty : Nat) (f : Nat → Trm) (hn : n ≤ 1048576) (hok : ∀ k, k < n → (f k).a.ok) (h1 : P = none → n = 0 ∧ c = 0) (h2 : ∀ b, P = some b → ∀ j u, (tvs n f)[j]? = some u → w.cell? (b.add j) = some u) :
  ∃ P' c' w', (Builtin.append_ #[24, 24] ty #[.slice none 0 0, .slice P n c]).run Tryz.prog w = .ok (.slice P' n c') w' ∧ Ot w' P' n c' f ∧ Below w.heap.size w w' ∧ ∀ a, P' = some a → a.block = w.heap.size := by
 obtain ⟨v', w', hrun, k2, k3, k4⟩ := run_copy (P := Tryz.prog) w 24 ty 77 _ ((Tryz.prog.info? 77).get!.zero.get!) 6 48 (by kernel_rfl) tinfo (by kernel_rfl) (by kernel_rfl) (by kernel_rfl) (by kernel_rfl) (by decide) P n c (tvs n f) (tvs_len n f) h1 h2 (tvs_one n f) (by unfold maxLen; omega) (by omega)
 obtain ⟨P', c', e, _, _⟩ := own_shT k2
 subst e
 exact ⟨P', c', w', hrun, ⟨own_monoT k2 (Nat.zero_le _), hok, hn⟩, k3, fun a ha => k4 _ (by rw [ha]; rfl)⟩
theorem wp_cpT {W w : World} {o : Oper} {a : Act} {K : Act → World → Prop} {Q : Exit → Act → World → Prop} (HH : Hid (Below W.heap.size W w)) (x0 : Operand) (ho : o.op = .call { callee := .builtin .append, args := #[.const (.slice none 0 0), x0], argTypes := #[24, 24] }) {P : Option Addr} {n c : Nat} {f : Nat → Trm} (hr : Ot W P n c f) (h0 : a.eval x0 = .slice P n c)
  (h : ∀ (p : Option Addr) (c' : Nat) (wq : World), Below w.heap.size w wq → Hid (Below W.heap.size W wq) → Hid (Ot wq p n c' f) → K (a.put o.dst (.slice p n c')) wq) : o.wp Tryz.prog a w K Q := by
 have hk := hr.keep HH.out
 obtain ⟨P', c', w', hrun, k2, k3, _⟩ := copyT w P n c o.type f hr.2.2 hr.2.1 hk.src.1 hk.src.2
 have hh := h P' c' w' k3 (Hn (bl_trans HH.out k3)) (Hn k2)
 unfold Oper.wp execOp
 have hc : a.eval (.const (.slice none 0 0)) = .slice none 0 0 := rfl
 simp only [ho, resolve, invoke, builtin, Sem.run_bind, Sem.run_pure, Result.andThen_ok, List.map_toArray, List.map_cons, List.map_nil, hc, h0, hrun]
 exact hh
def pCvd0 : String := "outright.go:294"
def pCvd1 : String := "outright.go:298"
def ca160 : Oper := oO 61 (Op.fieldAddr 30 (Operand.tmp 12) 0) 0 pCvd0 #[]
def ca161 : Oper := oO 62 (Op.load 25 (Operand.tmp 61)) 25 pCvd0 #[DD 0]
def ca162 : Oper := oO 63 (Op.move (Operand.tmp 14)) 3 pCvd0 #[]
def ca163 : Oper := oO 64 (Op.fieldAddr 30 (Operand.tmp 12) 1) 0 pCvd0 #[{ on := 21, ground := Ground.gcOnly Departure.lateStores }]
def ca164 : Oper := oO 65 (Op.load 25 (Operand.tmp 64)) 25 pCvd0 #[DD 3, { on := 21, ground := Ground.gcOnly Departure.lateStores }]
def ca165 : Oper := oO 66 (Op.move (Operand.tmp 14)) 3 pCvd0 #[{ on := 21, ground := Ground.gcOnly Departure.lateStores }]
def ca166 : Oper := oO 67 (Op.fieldAddr 30 (Operand.tmp 12) 0) 0 pCvd0 #[]
def ca167 : Oper := oO 68 (Op.load 25 (Operand.tmp 67)) 25 pCvd0 #[DD 6]
def ca168 : Oper := oO 69 (Op.move (Operand.tmp 14)) 3 pCvd0 #[]
def ca169 : Oper := oO 70 (Op.indexAddr 25 (Operand.tmp 68) (Operand.tmp 69)) 0 pCvd0 #[DD 7, DD 8]
def ca1610 : Oper := oO 71 (Op.load 35 (Operand.tmp 70)) 35 pCvd0 #[DD 9]
def ca1611 : Oper := oO 72 (Op.call { callee := Callee.value (Operand.func 9), args := #[Operand.const (Value.int IntKind.u64 1)], argTypes := #[33] }) 35 pCvd0 #[]
def ca1612 : Oper := oO 73 (Op.call { callee := Callee.value (Operand.func 8), args := #[Operand.tmp 71, Operand.tmp 72], argTypes := #[35, 35] }) 35 pCvd0 #[DD 10, DD 11, CH 11]
def ca1613 : Oper := oO 74 (Op.fieldAddr 30 (Operand.tmp 12) 1) 0 pCvd0 #[]
def ca1614 : Oper := oO 75 (Op.load 25 (Operand.tmp 74)) 25 pCvd0 #[DD 13]
def ca1615 : Oper := oO 76 (Op.move (Operand.tmp 14)) 3 pCvd0 #[]
def ca1616 : Oper := oO 77 (Op.indexAddr 25 (Operand.tmp 75) (Operand.tmp 76)) 0 pCvd0 #[DD 14, DD 15]
def ca1617 : Oper := oO 78 (Op.load 35 (Operand.tmp 77)) 35 pCvd0 #[DD 16]
def ca1618 : Oper := oO 79 (Op.call { callee := Callee.value (Operand.func 9), args := #[Operand.const (Value.int IntKind.u64 1)], argTypes := #[33] }) 35 pCvd0 #[CH 12]
def ca1619 : Oper := oO 80 (Op.call { callee := Callee.value (Operand.func 8), args := #[Operand.tmp 78, Operand.tmp 79], argTypes := #[35, 35] }) 35 pCvd0 #[DD 17, DD 18, CH 18]
def ca1620 : Oper := oO 81 (Op.indexAddr 25 (Operand.tmp 62) (Operand.tmp 63)) 0 pCvd0 #[DD 1, DD 2, PH 0, PH 1, PH 2, { on := 3, ground := Ground.textOnly Departure.lateStores }, { on := 4, ground := Ground.textOnly Departure.lateStores }, { on := 5, ground := Ground.textOnly Departure.lateStores }, PH 6, PH 7, PH 8, PH 9, PH 10, PH 11, PH 12, { on := 13, ground := Ground.textOnly Departure.lateStores }, { on := 14, ground := Ground.textOnly Departure.lateStores }, { on := 15, ground := Ground.textOnly Departure.lateStores }, { on := 16, ground := Ground.textOnly Departure.lateStoresUnsure }, PH 17, PH 18, PH 19]
def ca1621 : Oper := oN (Op.store 35 (Operand.tmp 81) (Operand.tmp 73)) pCvd0 #[DD 20, DD 12, CH 19, PH 0, PH 1, PH 2, { on := 3, ground := Ground.textOnly Departure.lateStores }, { on := 4, ground := Ground.textOnly Departure.lateStores }, { on := 5, ground := Ground.textOnly Departure.lateStores }, PH 6, PH 7, PH 8, PH 9, PH 10, PH 11, PH 12, { on := 13, ground := Ground.textOnly Departure.lateStores }, { on := 14, ground := Ground.textOnly Departure.lateStores }, { on := 15, ground := Ground.textOnly Departure.lateStores }, { on := 16, ground := Ground.textOnly Departure.lateStoresUnsure }, PH 17, PH 18, PH 19]
def ca1622 : Oper := oO 82 (Op.indexAddr 25 (Operand.tmp 65) (Operand.tmp 66)) 0 pCvd0 #[DD 4, DD 5, PH 0, PH 1, PH 2, PH 3, PH 4, PH 5, PH 6, PH 7, PH 8, PH 9, PH 10, PH 11, PH 12, PH 13, PH 14, PH 15, PH 16, PH 17, PH 18, PH 19, PH 20, PH 21]
def ca1623 : Oper := oN (Op.store 35 (Operand.tmp 82) (Operand.tmp 80)) pCvd0 #[DD 22, DD 19, CH 21, PH 0, PH 1, PH 2, PH 3, PH 4, PH 5, PH 6, PH 7, PH 8, PH 9, PH 10, PH 11, PH 12, PH 13, PH 14, PH 15, PH 16, PH 17, PH 18, PH 19, PH 20, PH 21]
def ca16o : Array Oper := #[ca160, ca161, ca162, ca163, ca164, ca165, ca166, ca167, ca168, ca169, ca1610, ca1611, ca1612, ca1613, ca1614, ca1615, ca1616, ca1617, ca1618, ca1619, ca1620, ca1621, ca1622, ca1623]
structure ca16h (x12 ii b0 n0 c0 b1 n1 c1 : Nat) (p q z r u : E4) (W : World) : Prop where
 j0 : (0 : Int) ≤ (ii : Int)
 i0 : (ii : Int) < (n0 : Int)
 i1 : (ii : Int) < (n1 : Int)
 nf0 : x12 ≠ b0
 nf1 : x12 ≠ b1
 n01 : b0 ≠ b1
 th0 : W.there b0 (ii * 4) 4
 th1 : W.there b1 (ii * 4) 4
 t0 : W.cell? ⟨x12, 0, none⟩ = some (.slice (some ⟨b0, 0, none⟩) n0 c0)
 t1 : W.cell? ⟨x12, 1, none⟩ = some (.slice (some ⟨b1, 0, none⟩) n1 c1)
 pf : W.rangeAt b0 (ii * 4) [.int .u64 p.x0, .int .u64 p.x1, .int .u64 p.x2, .int .u64 p.x3]
 qf : W.rangeAt b1 (ii * 4) [.int .u64 q.x0, .int .u64 q.x1, .int .u64 q.x2, .int .u64 q.x3]
 C1 : Hid (∀ y, Below W.heap.size W y → Calls Tryz.prog 9 #[.int .u64 1] y fun e w' => e = .returned (.agg #[.int .u64 z.x0, .int .u64 z.x1, .int .u64 z.x2, .int .u64 z.x3]) ∧ Below y.heap.size y w')
 C2 : Hid (∀ y, Below W.heap.size W y → Calls Tryz.prog 8 #[.agg #[.int .u64 p.x0, .int .u64 p.x1, .int .u64 p.x2, .int .u64 p.x3], .agg #[.int .u64 z.x0, .int .u64 z.x1, .int .u64 z.x2, .int .u64 z.x3]] y fun e w' => e = .returned (.agg #[.int .u64 r.x0, .int .u64 r.x1, .int .u64 r.x2, .int .u64 r.x3]) ∧ Below y.heap.size y w')
 C3 : Hid (∀ y, Below W.heap.size W y → Calls Tryz.prog 8 #[.agg #[.int .u64 q.x0, .int .u64 q.x1, .int .u64 q.x2, .int .u64 q.x3], .agg #[.int .u64 z.x0, .int .u64 z.x1, .int .u64 z.x2, .int .u64 z.x3]] y fun e w' => e = .returned (.agg #[.int .u64 u.x0, .int .u64 u.x1, .int .u64 u.x2, .int .u64 u.x3]) ∧ Below y.heap.size y w')
def ca16S (U : Nat → Value) (x12 ii b0 n0 c0 b1 n1 c1 : Nat) (p q z r u : E4)  (f10 f11 f12 f17 f18 f19 f20 f22 : Bool) : Array Value := #[U 0, U 1, U 2, U 3, U 4, U 5, U 6, U 7, U 8, U 9, U 10, U 11, .pointer (some ⟨x12, 0, none⟩), U 13, .int .i64 (ii : Int), U 15, U 16, U 17, U 18, U 19, U 20, U 21, U 22, U 23, U 24, U 25, U 26, U 27, U 28, U 29, U 30, U 31, U 32, U 33, U 34, U 35, U 36, U 37, U 38, U 39, U 40, U 41, U 42, U 43, U 44, U 45, U 46, U 47, U 48, U 49, U 50, U 51, U 52, U 53, U 54, U 55, U 56, U 57, U 58, U 59, U 60, .pointer (some ⟨x12, 0, none⟩), .slice (some ⟨b0, 0, none⟩) n0 c0, .int .i64 (ii : Int), .pointer (some ⟨x12, 1, none⟩), .slice (some ⟨b1, 0, none⟩) n1 c1, .int .i64 (ii : Int), .pointer (some ⟨x12, 0, none⟩), .slice (some ⟨b0, 0, none⟩) n0 c0, .int .i64 (ii : Int), .pointer (some ⟨b0, ii * 4, none⟩), bif f10 then .agg #[.int .u64 p.x0, .int .u64 p.x1, .int .u64 p.x2, .int .u64 p.x3] else U 71, bif f11 then .agg #[.int .u64 z.x0, .int .u64 z.x1, .int .u64 z.x2, .int .u64 z.x3] else U 72, bif f12 then .agg #[.int .u64 r.x0, .int .u64 r.x1, .int .u64 r.x2, .int .u64 r.x3] else U 73, .pointer (some ⟨x12, 1, none⟩), .slice (some ⟨b1, 0, none⟩) n1 c1, .int .i64 (ii : Int), .pointer (some ⟨b1, ii * 4, none⟩), bif f17 then .agg #[.int .u64 q.x0, .int .u64 q.x1, .int .u64 q.x2, .int .u64 q.x3] else U 78, bif f18 then .agg #[.int .u64 z.x0, .int .u64 z.x1, .int .u64 z.x2, .int .u64 z.x3] else U 79, bif f19 then .agg #[.int .u64 u.x0, .int .u64 u.x1, .int .u64 u.x2, .int .u64 u.x3] else U 80, bif f20 then .pointer (some ⟨b0, ii * 4, none⟩) else U 81, bif f22 then .pointer (some ⟨b1, ii * 4, none⟩) else U 82, U 83, U 84, U 85, U 86, U 87, U 88, U 89, U 90, U 91, U 92, U 93, U 94, U 95, U 96, U 97, U 98, U 99, U 100, U 101, U 102, U 103, U 104, U 105, U 106, U 107, U 108, U 109, U 110, U 111, U 112, U 113, U 114, U 115, U 116, U 117, U 118, U 119, U 120, U 121, U 122, U 123, U 124, U 125, U 126, U 127, U 128, U 129, U 130, U 131, U 132, U 133, U 134, U 135, U 136, U 137, U 138, U 139, U 140, U 141, U 142, U 143, U 144, U 145, U 146, U 147, U 148, U 149, U 150, U 151, U 152, U 153, U 154, U 155, U 156, U 157, U 158, U 159, U 160, U 161, U 162, U 163, U 164, U 165, U 166, U 167, U 168, U 169, U 170, U 171, U 172, U 173, U 174, U 175, U 176, U 177, U 178, U 179, U 180, U 181, U 182, U 183, U 184, U 185, U 186, U 187, U 188, U 189, U 190, U 191, U 192]
def ca16G (Q : Exit → Act → World → Prop) (x12 ii b0 n0 c0 b1 n1 c1 : Nat) (p q z r u : E4) (W : World) (fuel : Nat) (listed : Array Bool) (a : Array Value) (w : World) : Prop := wpAnyH Tryz.prog Region.Mode.any ca16o (NoPanic Q) (fun x => x.cell? ⟨x12, 0, none⟩ = some (.slice (some ⟨b0, 0, none⟩) n0 c0) ∧ x.cell? ⟨x12, 1, none⟩ = some (.slice (some ⟨b1, 0, none⟩) n1 c1)) fuel listed ⟨a, []⟩ w
def ca16f (Q : Exit → Act → World → Prop) (x12 ii b0 n0 c0 b1 n1 c1 : Nat) (p q z r u : E4) (U : Nat → Value) (W : World) : Prop := ∀ (wz : World), (∃ wy, Below W.heap.size W wy ∧ wz = (wy.setCells b0 (ii * 4) [.int .u64 r.x0, .int .u64 r.x1, .int .u64 r.x2, .int .u64 r.x3]).setCells b1 (ii * 4) [.int .u64 u.x0, .int .u64 u.x1, .int .u64 u.x2, .int .u64 u.x3]) → Q .normal ⟨ca16S U x12 ii b0 n0 c0 b1 n1 c1 p q z r u  true true true true true true true true, []⟩ wz
section
variable {Q : Exit → Act → World → Prop} {x12 ii b0 n0 c0 b1 n1 c1 : Nat} {p q z r u : E4} {U : Nat → Value} {W : World}
theorem ca16_ffffff (H : ca16h x12 ii b0 n0 c0 b1 n1 c1 p q z r u W)  (w : World) (listed : Array Bool) (hl : listed = #[true, true, true, true, true, true, true, true, true, true, true, true, true, true, true, true, true, true, true, true, true, true, true, true]) (FE : Hid (∃ wy, Below W.heap.size W wy ∧ w = (wy.setCells b0 (ii * 4) [.int .u64 r.x0, .int .u64 r.x1, .int .u64 r.x2, .int .u64 r.x3]).setCells b1 (ii * 4) [.int .u64 u.x0, .int .u64 u.x1, .int .u64 u.x2, .int .u64 u.x3])) (HH : Hid (w.cell? ⟨x12, 0, none⟩ = some (.slice (some ⟨b0, 0, none⟩) n0 c0) ∧ w.cell? ⟨x12, 1, none⟩ = some (.slice (some ⟨b1, 0, none⟩) n1 c1))) (HQ : Hid (ca16f Q x12 ii b0 n0 c0 b1 n1 c1 p q z r u U W)) : ca16G Q x12 ii b0 n0 c0 b1 n1 c1 p q z r u W 0 listed (ca16S U x12 ii b0 n0 c0 b1 n1 c1 p q z r u  true true true true true true true true) w := by
 subst hl
 have H0 := H
 obtain ⟨j0, i0, i1, nf0, nf1, n01, th0, th1, t0, t1, pf, qf, C1, C2, C3⟩ := H
 simp only [ca16G, ca16S, cond_true, cond_false]
 refine wpAnyH_done (by kernel_rfl) ?_ _
 refine NoPanic.normal ?_
 exact HQ.out _ FE.out
theorem ca16_7fffff (H : ca16h x12 ii b0 n0 c0 b1 n1 c1 p q z r u W)  (w : World) (listed : Array Bool) (hl : listed = #[true, true, true, true, true, true, true, true, true, true, true, true, true, true, true, true, true, true, true, true, true, true, true, false]) (T0 : Hid (∃ wy, Below W.heap.size W wy ∧ w = wy.setCells b0 (ii * 4) [.int .u64 r.x0, .int .u64 r.x1, .int .u64 r.x2, .int .u64 r.x3])) (HH : Hid (w.cell? ⟨x12, 0, none⟩ = some (.slice (some ⟨b0, 0, none⟩) n0 c0) ∧ w.cell? ⟨x12, 1, none⟩ = some (.slice (some ⟨b1, 0, none⟩) n1 c1))) (HQ : Hid (ca16f Q x12 ii b0 n0 c0 b1 n1 c1 p q z r u U W)) : ca16G Q x12 ii b0 n0 c0 b1 n1 c1 p q z r u W 1 listed (ca16S U x12 ii b0 n0 c0 b1 n1 c1 p q z r u  true true true true true true true true) w := by
 subst hl
 have H0 := H
 obtain ⟨j0, i0, i1, nf0, nf1, n01, th0, th1, t0, t1, pf, qf, C1, C2, C3⟩ := H
 simp only [ca16G, ca16S, cond_true, cond_false]
 refine ar [23] ?_
 refine ac ca1623 (fun K hK => ?_) AllReadyH.nil
 refine wp_storeE 35 _ _ rfl b1 (ii * 4) ([.int .u64 u.x0, .int .u64 u.x1, .int .u64 u.x2, .int .u64 u.x3]) (by rfl) (by rfl) (by obtain ⟨wy, h1, h2⟩ := T0.out; rw [h2]; exact there_gbO (there_bl th1 h1) (gb_setCells b0 [.int .u64 r.x0, .int .u64 r.x1, .int .u64 r.x2, .int .u64 r.x3] (ii * 4) _) (fun e => n01 (Option.some.inj e).symm)) i4_s (one4 u) rfl (fun w2 hw => ?_)
 have SN := Hn (by rw [hw]; exact ⟨(gb_setCells b1 [.int .u64 u.x0, .int .u64 u.x1, .int .u64 u.x2, .int .u64 u.x3] (ii * 4) _).cell HH.out.1 (fun e => nf1 (Option.some.inj e)), (gb_setCells b1 [.int .u64 u.x0, .int .u64 u.x1, .int .u64 u.x2, .int .u64 u.x3] (ii * 4) _).cell HH.out.2 (fun e => nf1 (Option.some.inj e))⟩ : w2.cell? ⟨x12, 0, none⟩ = some (.slice (some ⟨b0, 0, none⟩) n0 c0) ∧ w2.cell? ⟨x12, 1, none⟩ = some (.slice (some ⟨b1, 0, none⟩) n1 c1))
 have FE := Hn (by obtain ⟨wy, h1, h2⟩ := T0.out; exact ⟨wy, h1, by rw [hw, h2]⟩ : ∃ wy, Below W.heap.size W wy ∧ w2 = (wy.setCells b0 (ii * 4) [.int .u64 r.x0, .int .u64 r.x1, .int .u64 r.x2, .int .u64 r.x3]).setCells b1 (ii * 4) [.int .u64 u.x0, .int .u64 u.x1, .int .u64 u.x2, .int .u64 u.x3])
 replace HH := SN
 clear SN T0 hw
 refine hK.out _ _ HH.out (fun hH => ?_); clear hK K
 exact ca16_ffffff H0  w2 _ (by kernel_rfl) FE HH HQ
theorem ca16_1fffff (H : ca16h x12 ii b0 n0 c0 b1 n1 c1 p q z r u W)  (w : World) (listed : Array Bool) (hl : listed = #[true, true, true, true, true, true, true, true, true, true, true, true, true, true, true, true, true, true, true, true, true, false, false, false]) (BB : Hid (Below W.heap.size W w)) (HH : Hid (w.cell? ⟨x12, 0, none⟩ = some (.slice (some ⟨b0, 0, none⟩) n0 c0) ∧ w.cell? ⟨x12, 1, none⟩ = some (.slice (some ⟨b1, 0, none⟩) n1 c1))) (HQ : Hid (ca16f Q x12 ii b0 n0 c0 b1 n1 c1 p q z r u U W)) : ca16G Q x12 ii b0 n0 c0 b1 n1 c1 p q z r u W 3 listed (ca16S U x12 ii b0 n0 c0 b1 n1 c1 p q z r u  true true true true true true true false) w := by
 subst hl
 have H0 := H
 obtain ⟨j0, i0, i1, nf0, nf1, n01, th0, th1, t0, t1, pf, qf, C1, C2, C3⟩ := H
 simp only [ca16G, ca16S, cond_true, cond_false]
 refine ar [21] ?_
 refine ac ca1621 (fun K hK => ?_) AllReadyH.nil
 refine wp_storeE 35 _ _ rfl b0 (ii * 4) ([.int .u64 r.x0, .int .u64 r.x1, .int .u64 r.x2, .int .u64 r.x3]) (by rfl) (by rfl) (there_bl th0 BB.out) i4_s (one4 r) rfl (fun w2 hw => ?_)
 have SN := Hn (by rw [hw]; exact ⟨(gb_setCells b0 [.int .u64 r.x0, .int .u64 r.x1, .int .u64 r.x2, .int .u64 r.x3] (ii * 4) _).cell HH.out.1 (fun e => nf0 (Option.some.inj e)), (gb_setCells b0 [.int .u64 r.x0, .int .u64 r.x1, .int .u64 r.x2, .int .u64 r.x3] (ii * 4) _).cell HH.out.2 (fun e => nf0 (Option.some.inj e))⟩ : w2.cell? ⟨x12, 0, none⟩ = some (.slice (some ⟨b0, 0, none⟩) n0 c0) ∧ w2.cell? ⟨x12, 1, none⟩ = some (.slice (some ⟨b1, 0, none⟩) n1 c1))
 have T0 := Hn (⟨_, BB.out, hw⟩ : ∃ wy, Below W.heap.size W wy ∧ w2 = wy.setCells b0 (ii * 4) [.int .u64 r.x0, .int .u64 r.x1, .int .u64 r.x2, .int .u64 r.x3])
 replace HH := SN
 clear SN BB hw
 refine hK.out _ _ HH.out (fun hH => ?_); clear hK K
 refine tj 22 ca1622 (.pointer (some ⟨b1, ii * 4, none⟩)) hH (fun w0 hSw => ?_) ?_
 ·(unfold ca1622 oO; clear hSw; go_simp)
 unfold ca1622 oO
 simp only [Act.put, sA, sB, sC]
 exact ca16_7fffff H0  w2 _ (by kernel_rfl) T0 HH HQ
theorem ca16_7ffff (H : ca16h x12 ii b0 n0 c0 b1 n1 c1 p q z r u W)  (w : World) (listed : Array Bool) (hl : listed = #[true, true, true, true, true, true, true, true, true, true, true, true, true, true, true, true, true, true, true, false, false, false, false, false]) (BB : Hid (Below W.heap.size W w)) (HH : Hid (w.cell? ⟨x12, 0, none⟩ = some (.slice (some ⟨b0, 0, none⟩) n0 c0) ∧ w.cell? ⟨x12, 1, none⟩ = some (.slice (some ⟨b1, 0, none⟩) n1 c1))) (HQ : Hid (ca16f Q x12 ii b0 n0 c0 b1 n1 c1 p q z r u U W)) : ca16G Q x12 ii b0 n0 c0 b1 n1 c1 p q z r u W 5 listed (ca16S U x12 ii b0 n0 c0 b1 n1 c1 p q z r u  true true true true true false false false) w := by
 subst hl
 have H0 := H
 obtain ⟨j0, i0, i1, nf0, nf1, n01, th0, th1, t0, t1, pf, qf, C1, C2, C3⟩ := H
 simp only [ca16G, ca16S, cond_true, cond_false]
 refine ar [19] ?_
 refine ac ca1619 (fun K hK => ?_) AllReadyH.nil
 unfold ca1619 oO
 go_simp
 refine (C3.out _ BB.out).mono ?_
 rintro e w2 ⟨rfl, hb⟩
 have SN := Hn (⟨cell_keep HH.out.1 hb, cell_keep HH.out.2 hb⟩ : w2.cell? ⟨x12, 0, none⟩ = some (.slice (some ⟨b0, 0, none⟩) n0 c0) ∧ w2.cell? ⟨x12, 1, none⟩ = some (.slice (some ⟨b1, 0, none⟩) n1 c1))
 replace BB := Hn (bl_trans BB.out hb)
 replace HH := SN
 clear SN  hb
 go_wp2_with fail
 refine hK.out _ _ HH.out (fun hH => ?_); clear hK K
 refine tj 20 ca1620 (.pointer (some ⟨b0, ii * 4, none⟩)) hH (fun w0 hSw => ?_) ?_
 ·(unfold ca1620 oO; clear hSw; go_simp)
 unfold ca1620 oO
 simp only [Act.put, sA, sB, sC]
 exact ca16_1fffff H0  w2 _ (by kernel_rfl) BB HH HQ
theorem ca16_3ffff (H : ca16h x12 ii b0 n0 c0 b1 n1 c1 p q z r u W)  (w : World) (listed : Array Bool) (hl : listed = #[true, true, true, true, true, true, true, true, true, true, true, true, true, true, true, true, true, true, false, false, false, false, false, false]) (BB : Hid (Below W.heap.size W w)) (HH : Hid (w.cell? ⟨x12, 0, none⟩ = some (.slice (some ⟨b0, 0, none⟩) n0 c0) ∧ w.cell? ⟨x12, 1, none⟩ = some (.slice (some ⟨b1, 0, none⟩) n1 c1))) (HQ : Hid (ca16f Q x12 ii b0 n0 c0 b1 n1 c1 p q z r u U W)) : ca16G Q x12 ii b0 n0 c0 b1 n1 c1 p q z r u W 6 listed (ca16S U x12 ii b0 n0 c0 b1 n1 c1 p q z r u  true true true true false false false false) w := by
 subst hl
 have H0 := H
 obtain ⟨j0, i0, i1, nf0, nf1, n01, th0, th1, t0, t1, pf, qf, C1, C2, C3⟩ := H
 simp only [ca16G, ca16S, cond_true, cond_false]
 refine ar [18] ?_
 refine ac ca1618 (fun K hK => ?_) AllReadyH.nil
 unfold ca1618 oO
 go_simp
 refine (C1.out _ BB.out).mono ?_
 rintro e w2 ⟨rfl, hb⟩
 have SN := Hn (⟨cell_keep HH.out.1 hb, cell_keep HH.out.2 hb⟩ : w2.cell? ⟨x12, 0, none⟩ = some (.slice (some ⟨b0, 0, none⟩) n0 c0) ∧ w2.cell? ⟨x12, 1, none⟩ = some (.slice (some ⟨b1, 0, none⟩) n1 c1))
 replace BB := Hn (bl_trans BB.out hb)
 replace HH := SN
 clear SN  hb
 go_wp2_with fail
 refine hK.out _ _ HH.out (fun hH => ?_); clear hK K
 exact ca16_7ffff H0  w2 _ (by kernel_rfl) BB HH HQ
theorem ca16_5ffff (H : ca16h x12 ii b0 n0 c0 b1 n1 c1 p q z r u W)  (w : World) (listed : Array Bool) (hl : listed = #[true, true, true, true, true, true, true, true, true, true, true, true, true, true, true, true, true, false, true, false, false, false, false, false]) (BB : Hid (Below W.heap.size W w)) (QF : Hid (w.rangeAt b1 (ii * 4) [.int .u64 q.x0, .int .u64 q.x1, .int .u64 q.x2, .int .u64 q.x3])) (HH : Hid (w.cell? ⟨x12, 0, none⟩ = some (.slice (some ⟨b0, 0, none⟩) n0 c0) ∧ w.cell? ⟨x12, 1, none⟩ = some (.slice (some ⟨b1, 0, none⟩) n1 c1))) (HQ : Hid (ca16f Q x12 ii b0 n0 c0 b1 n1 c1 p q z r u U W)) : ca16G Q x12 ii b0 n0 c0 b1 n1 c1 p q z r u W 6 listed (ca16S U x12 ii b0 n0 c0 b1 n1 c1 p q z r u  true true true false true false false false) w := by
 subst hl
 have H0 := H
 obtain ⟨j0, i0, i1, nf0, nf1, n01, th0, th1, t0, t1, pf, qf, C1, C2, C3⟩ := H
 simp only [ca16G, ca16S, cond_true, cond_false]
 refine ar [17] ?_
 refine ac ca1617 (fun K hK => ?_) AllReadyH.nil
 refine wp_ld4 _ rfl b1 (ii * 4) q rfl QF.out ?_
 clear QF
 unfold ca1617 oO
 simp only [Act.put, sA, sB, sC]
 refine hK.out _ _ HH.out (fun hH => ?_); clear hK K
 exact ca16_7ffff H0  w _ (by kernel_rfl) BB HH HQ
theorem ca16_3efff (H : ca16h x12 ii b0 n0 c0 b1 n1 c1 p q z r u W)  (w : World) (listed : Array Bool) (hl : listed = #[true, true, true, true, true, true, true, true, true, true, true, true, false, true, true, true, true, true, false, false, false, false, false, false]) (BB : Hid (Below W.heap.size W w)) (HH : Hid (w.cell? ⟨x12, 0, none⟩ = some (.slice (some ⟨b0, 0, none⟩) n0 c0) ∧ w.cell? ⟨x12, 1, none⟩ = some (.slice (some ⟨b1, 0, none⟩) n1 c1))) (HQ : Hid (ca16f Q x12 ii b0 n0 c0 b1 n1 c1 p q z r u U W)) : ca16G Q x12 ii b0 n0 c0 b1 n1 c1 p q z r u W 7 listed (ca16S U x12 ii b0 n0 c0 b1 n1 c1 p q z r u  true true false true false false false false) w := by
 subst hl
 have H0 := H
 obtain ⟨j0, i0, i1, nf0, nf1, n01, th0, th1, t0, t1, pf, qf, C1, C2, C3⟩ := H
 simp only [ca16G, ca16S, cond_true, cond_false]
 refine ar [12] ?_
 refine ac ca1612 (fun K hK => ?_) AllReadyH.nil
 unfold ca1612 oO
 go_simp
 refine (C2.out _ BB.out).mono ?_
 rintro e w2 ⟨rfl, hb⟩
 have SN := Hn (⟨cell_keep HH.out.1 hb, cell_keep HH.out.2 hb⟩ : w2.cell? ⟨x12, 0, none⟩ = some (.slice (some ⟨b0, 0, none⟩) n0 c0) ∧ w2.cell? ⟨x12, 1, none⟩ = some (.slice (some ⟨b1, 0, none⟩) n1 c1))
 replace BB := Hn (bl_trans BB.out hb)
 replace HH := SN
 clear SN  hb
 go_wp2_with fail
 refine hK.out _ _ HH.out (fun hH => ?_); clear hK K
 exact ca16_3ffff H0  w2 _ (by kernel_rfl) BB HH HQ
theorem ca16_1ffff (H : ca16h x12 ii b0 n0 c0 b1 n1 c1 p q z r u W)  (w : World) (listed : Array Bool) (hl : listed = #[true, true, true, true, true, true, true, true, true, true, true, true, true, true, true, true, true, false, false, false, false, false, false, false]) (BB : Hid (Below W.heap.size W w)) (QF : Hid (w.rangeAt b1 (ii * 4) [.int .u64 q.x0, .int .u64 q.x1, .int .u64 q.x2, .int .u64 q.x3])) (HH : Hid (w.cell? ⟨x12, 0, none⟩ = some (.slice (some ⟨b0, 0, none⟩) n0 c0) ∧ w.cell? ⟨x12, 1, none⟩ = some (.slice (some ⟨b1, 0, none⟩) n1 c1))) (HQ : Hid (ca16f Q x12 ii b0 n0 c0 b1 n1 c1 p q z r u U W)) : ca16G Q x12 ii b0 n0 c0 b1 n1 c1 p q z r u W 7 listed (ca16S U x12 ii b0 n0 c0 b1 n1 c1 p q z r u  true true true false false false false false) w := by
 subst hl
 have H0 := H
 obtain ⟨j0, i0, i1, nf0, nf1, n01, th0, th1, t0, t1, pf, qf, C1, C2, C3⟩ := H
 simp only [ca16G, ca16S, cond_true, cond_false]
 refine ar [17, 18] ?_
 refine ac ca1617 (fun K hK => ?_) (ac ca1618 (fun K hK => ?_) AllReadyH.nil)
 ·refine wp_ld4 _ rfl b1 (ii * 4) q rfl QF.out ?_
  clear QF
  unfold ca1617 oO
  simp only [Act.put, sA, sB, sC]
  refine hK.out _ _ HH.out (fun hH => ?_); clear hK K
  exact ca16_3ffff H0  w _ (by kernel_rfl) BB HH HQ
 ·unfold ca1618 oO
  go_simp
  refine (C1.out _ BB.out).mono ?_
  rintro e w2 ⟨rfl, hb⟩
  have SN := Hn (⟨cell_keep HH.out.1 hb, cell_keep HH.out.2 hb⟩ : w2.cell? ⟨x12, 0, none⟩ = some (.slice (some ⟨b0, 0, none⟩) n0 c0) ∧ w2.cell? ⟨x12, 1, none⟩ = some (.slice (some ⟨b1, 0, none⟩) n1 c1))
  replace BB := Hn (bl_trans BB.out hb)
  replace QF := Hn (range_bl QF.out hb)
  replace HH := SN
  clear SN  hb
  go_wp2_with fail
  refine hK.out _ _ HH.out (fun hH => ?_); clear hK K
  exact ca16_5ffff H0  w2 _ (by kernel_rfl) BB QF HH HQ
theorem ca16_3ebff (H : ca16h x12 ii b0 n0 c0 b1 n1 c1 p q z r u W)  (w : World) (listed : Array Bool) (hl : listed = #[true, true, true, true, true, true, true, true, true, true, false, true, false, true, true, true, true, true, false, false, false, false, false, false]) (BB : Hid (Below W.heap.size W w)) (PF : Hid (w.rangeAt b0 (ii * 4) [.int .u64 p.x0, .int .u64 p.x1, .int .u64 p.x2, .int .u64 p.x3])) (HH : Hid (w.cell? ⟨x12, 0, none⟩ = some (.slice (some ⟨b0, 0, none⟩) n0 c0) ∧ w.cell? ⟨x12, 1, none⟩ = some (.slice (some ⟨b1, 0, none⟩) n1 c1))) (HQ : Hid (ca16f Q x12 ii b0 n0 c0 b1 n1 c1 p q z r u U W)) : ca16G Q x12 ii b0 n0 c0 b1 n1 c1 p q z r u W 8 listed (ca16S U x12 ii b0 n0 c0 b1 n1 c1 p q z r u  false true false true false false false false) w := by
 subst hl
 have H0 := H
 obtain ⟨j0, i0, i1, nf0, nf1, n01, th0, th1, t0, t1, pf, qf, C1, C2, C3⟩ := H
 simp only [ca16G, ca16S, cond_true, cond_false]
 refine ar [10] ?_
 refine ac ca1610 (fun K hK => ?_) AllReadyH.nil
 refine wp_ld4 _ rfl b0 (ii * 4) p rfl PF.out ?_
 clear PF
 unfold ca1610 oO
 simp only [Act.put, sA, sB, sC]
 refine hK.out _ _ HH.out (fun hH => ?_); clear hK K
 exact ca16_3efff H0  w _ (by kernel_rfl) BB HH HQ
theorem ca16_3e7ff (H : ca16h x12 ii b0 n0 c0 b1 n1 c1 p q z r u W)  (w : World) (listed : Array Bool) (hl : listed = #[true, true, true, true, true, true, true, true, true, true, true, false, false, true, true, true, true, true, false, false, false, false, false, false]) (BB : Hid (Below W.heap.size W w)) (HH : Hid (w.cell? ⟨x12, 0, none⟩ = some (.slice (some ⟨b0, 0, none⟩) n0 c0) ∧ w.cell? ⟨x12, 1, none⟩ = some (.slice (some ⟨b1, 0, none⟩) n1 c1))) (HQ : Hid (ca16f Q x12 ii b0 n0 c0 b1 n1 c1 p q z r u U W)) : ca16G Q x12 ii b0 n0 c0 b1 n1 c1 p q z r u W 8 listed (ca16S U x12 ii b0 n0 c0 b1 n1 c1 p q z r u  true false false true false false false false) w := by
 subst hl
 have H0 := H
 obtain ⟨j0, i0, i1, nf0, nf1, n01, th0, th1, t0, t1, pf, qf, C1, C2, C3⟩ := H
 simp only [ca16G, ca16S, cond_true, cond_false]
 refine ar [11] ?_
 refine ac ca1611 (fun K hK => ?_) AllReadyH.nil
 unfold ca1611 oO
 go_simp
 refine (C1.out _ BB.out).mono ?_
 rintro e w2 ⟨rfl, hb⟩
 have SN := Hn (⟨cell_keep HH.out.1 hb, cell_keep HH.out.2 hb⟩ : w2.cell? ⟨x12, 0, none⟩ = some (.slice (some ⟨b0, 0, none⟩) n0 c0) ∧ w2.cell? ⟨x12, 1, none⟩ = some (.slice (some ⟨b1, 0, none⟩) n1 c1))
 replace BB := Hn (bl_trans BB.out hb)
 replace HH := SN
 clear SN  hb
 go_wp2_with fail
 refine hK.out _ _ HH.out (fun hH => ?_); clear hK K
 exact ca16_3efff H0  w2 _ (by kernel_rfl) BB HH HQ
theorem ca16_1efff (H : ca16h x12 ii b0 n0 c0 b1 n1 c1 p q z r u W)  (w : World) (listed : Array Bool) (hl : listed = #[true, true, true, true, true, true, true, true, true, true, true, true, false, true, true, true, true, false, false, false, false, false, false, false]) (BB : Hid (Below W.heap.size W w)) (QF : Hid (w.rangeAt b1 (ii * 4) [.int .u64 q.x0, .int .u64 q.x1, .int .u64 q.x2, .int .u64 q.x3])) (HH : Hid (w.cell? ⟨x12, 0, none⟩ = some (.slice (some ⟨b0, 0, none⟩) n0 c0) ∧ w.cell? ⟨x12, 1, none⟩ = some (.slice (some ⟨b1, 0, none⟩) n1 c1))) (HQ : Hid (ca16f Q x12 ii b0 n0 c0 b1 n1 c1 p q z r u U W)) : ca16G Q x12 ii b0 n0 c0 b1 n1 c1 p q z r u W 8 listed (ca16S U x12 ii b0 n0 c0 b1 n1 c1 p q z r u  true true false false false false false false) w := by
 subst hl
 have H0 := H
 obtain ⟨j0, i0, i1, nf0, nf1, n01, th0, th1, t0, t1, pf, qf, C1, C2, C3⟩ := H
 simp only [ca16G, ca16S, cond_true, cond_false]
 refine ar [12, 17] ?_
 refine ac ca1612 (fun K hK => ?_) (ac ca1617 (fun K hK => ?_) AllReadyH.nil)
 ·unfold ca1612 oO
  go_simp
  refine (C2.out _ BB.out).mono ?_
  rintro e w2 ⟨rfl, hb⟩
  have SN := Hn (⟨cell_keep HH.out.1 hb, cell_keep HH.out.2 hb⟩ : w2.cell? ⟨x12, 0, none⟩ = some (.slice (some ⟨b0, 0, none⟩) n0 c0) ∧ w2.cell? ⟨x12, 1, none⟩ = some (.slice (some ⟨b1, 0, none⟩) n1 c1))
  replace BB := Hn (bl_trans BB.out hb)
  replace QF := Hn (range_bl QF.out hb)
  replace HH := SN
  clear SN  hb
  go_wp2_with fail
  refine hK.out _ _ HH.out (fun hH => ?_); clear hK K
  exact ca16_1ffff H0  w2 _ (by kernel_rfl) BB QF HH HQ
 ·refine wp_ld4 _ rfl b1 (ii * 4) q rfl QF.out ?_
  clear QF
  unfold ca1617 oO
  simp only [Act.put, sA, sB, sC]
  refine hK.out _ _ HH.out (fun hH => ?_); clear hK K
  exact ca16_3efff H0  w _ (by kernel_rfl) BB HH HQ
theorem ca16_3e3ff (H : ca16h x12 ii b0 n0 c0 b1 n1 c1 p q z r u W)  (w : World) (listed : Array Bool) (hl : listed = #[true, true, true, true, true, true, true, true, true, true, false, false, false, true, true, true, true, true, false, false, false, false, false, false]) (BB : Hid (Below W.heap.size W w)) (PF : Hid (w.rangeAt b0 (ii * 4) [.int .u64 p.x0, .int .u64 p.x1, .int .u64 p.x2, .int .u64 p.x3])) (HH : Hid (w.cell? ⟨x12, 0, none⟩ = some (.slice (some ⟨b0, 0, none⟩) n0 c0) ∧ w.cell? ⟨x12, 1, none⟩ = some (.slice (some ⟨b1, 0, none⟩) n1 c1))) (HQ : Hid (ca16f Q x12 ii b0 n0 c0 b1 n1 c1 p q z r u U W)) : ca16G Q x12 ii b0 n0 c0 b1 n1 c1 p q z r u W 9 listed (ca16S U x12 ii b0 n0 c0 b1 n1 c1 p q z r u  false false false true false false false false) w := by
 subst hl
 have H0 := H
 obtain ⟨j0, i0, i1, nf0, nf1, n01, th0, th1, t0, t1, pf, qf, C1, C2, C3⟩ := H
 simp only [ca16G, ca16S, cond_true, cond_false]
 refine ar [10, 11] ?_
 refine ac ca1610 (fun K hK => ?_) (ac ca1611 (fun K hK => ?_) AllReadyH.nil)
 ·refine wp_ld4 _ rfl b0 (ii * 4) p rfl PF.out ?_
  clear PF
  unfold ca1610 oO
  simp only [Act.put, sA, sB, sC]
  refine hK.out _ _ HH.out (fun hH => ?_); clear hK K
  exact ca16_3e7ff H0  w _ (by kernel_rfl) BB HH HQ
 ·unfold ca1611 oO
  go_simp
  refine (C1.out _ BB.out).mono ?_
  rintro e w2 ⟨rfl, hb⟩
  have SN := Hn (⟨cell_keep HH.out.1 hb, cell_keep HH.out.2 hb⟩ : w2.cell? ⟨x12, 0, none⟩ = some (.slice (some ⟨b0, 0, none⟩) n0 c0) ∧ w2.cell? ⟨x12, 1, none⟩ = some (.slice (some ⟨b1, 0, none⟩) n1 c1))
  replace BB := Hn (bl_trans BB.out hb)
  replace PF := Hn (range_bl PF.out hb)
  replace HH := SN
  clear SN  hb
  go_wp2_with fail
  refine hK.out _ _ HH.out (fun hH => ?_); clear hK K
  exact ca16_3ebff H0  w2 _ (by kernel_rfl) BB PF HH HQ
theorem ca16_1ebff (H : ca16h x12 ii b0 n0 c0 b1 n1 c1 p q z r u W)  (w : World) (listed : Array Bool) (hl : listed = #[true, true, true, true, true, true, true, true, true, true, false, true, false, true, true, true, true, false, false, false, false, false, false, false]) (BB : Hid (Below W.heap.size W w)) (PF : Hid (w.rangeAt b0 (ii * 4) [.int .u64 p.x0, .int .u64 p.x1, .int .u64 p.x2, .int .u64 p.x3])) (QF : Hid (w.rangeAt b1 (ii * 4) [.int .u64 q.x0, .int .u64 q.x1, .int .u64 q.x2, .int .u64 q.x3])) (HH : Hid (w.cell? ⟨x12, 0, none⟩ = some (.slice (some ⟨b0, 0, none⟩) n0 c0) ∧ w.cell? ⟨x12, 1, none⟩ = some (.slice (some ⟨b1, 0, none⟩) n1 c1))) (HQ : Hid (ca16f Q x12 ii b0 n0 c0 b1 n1 c1 p q z r u U W)) : ca16G Q x12 ii b0 n0 c0 b1 n1 c1 p q z r u W 9 listed (ca16S U x12 ii b0 n0 c0 b1 n1 c1 p q z r u  false true false false false false false false) w := by
 subst hl
 have H0 := H
 obtain ⟨j0, i0, i1, nf0, nf1, n01, th0, th1, t0, t1, pf, qf, C1, C2, C3⟩ := H
 simp only [ca16G, ca16S, cond_true, cond_false]
 refine ar [10, 17] ?_
 refine ac ca1610 (fun K hK => ?_) (ac ca1617 (fun K hK => ?_) AllReadyH.nil)
 ·refine wp_ld4 _ rfl b0 (ii * 4) p rfl PF.out ?_
  clear PF
  unfold ca1610 oO
  simp only [Act.put, sA, sB, sC]
  refine hK.out _ _ HH.out (fun hH => ?_); clear hK K
  exact ca16_1efff H0  w _ (by kernel_rfl) BB QF HH HQ
 ·refine wp_ld4 _ rfl b1 (ii * 4) q rfl QF.out ?_
  clear QF
  unfold ca1617 oO
  simp only [Act.put, sA, sB, sC]
  refine hK.out _ _ HH.out (fun hH => ?_); clear hK K
  exact ca16_3ebff H0  w _ (by kernel_rfl) BB PF HH HQ
theorem ca16_1e7ff (H : ca16h x12 ii b0 n0 c0 b1 n1 c1 p q z r u W)  (w : World) (listed : Array Bool) (hl : listed = #[true, true, true, true, true, true, true, true, true, true, true, false, false, true, true, true, true, false, false, false, false, false, false, false]) (BB : Hid (Below W.heap.size W w)) (QF : Hid (w.rangeAt b1 (ii * 4) [.int .u64 q.x0, .int .u64 q.x1, .int .u64 q.x2, .int .u64 q.x3])) (HH : Hid (w.cell? ⟨x12, 0, none⟩ = some (.slice (some ⟨b0, 0, none⟩) n0 c0) ∧ w.cell? ⟨x12, 1, none⟩ = some (.slice (some ⟨b1, 0, none⟩) n1 c1))) (HQ : Hid (ca16f Q x12 ii b0 n0 c0 b1 n1 c1 p q z r u U W)) : ca16G Q x12 ii b0 n0 c0 b1 n1 c1 p q z r u W 9 listed (ca16S U x12 ii b0 n0 c0 b1 n1 c1 p q z r u  true false false false false false false false) w := by
 subst hl
 have H0 := H
 obtain ⟨j0, i0, i1, nf0, nf1, n01, th0, th1, t0, t1, pf, qf, C1, C2, C3⟩ := H
 simp only [ca16G, ca16S, cond_true, cond_false]
 refine ar [11, 17] ?_
 refine ac ca1611 (fun K hK => ?_) (ac ca1617 (fun K hK => ?_) AllReadyH.nil)
 ·unfold ca1611 oO
  go_simp
  refine (C1.out _ BB.out).mono ?_
  rintro e w2 ⟨rfl, hb⟩
  have SN := Hn (⟨cell_keep HH.out.1 hb, cell_keep HH.out.2 hb⟩ : w2.cell? ⟨x12, 0, none⟩ = some (.slice (some ⟨b0, 0, none⟩) n0 c0) ∧ w2.cell? ⟨x12, 1, none⟩ = some (.slice (some ⟨b1, 0, none⟩) n1 c1))
  replace BB := Hn (bl_trans BB.out hb)
  replace QF := Hn (range_bl QF.out hb)
  replace HH := SN
  clear SN  hb
  go_wp2_with fail
  refine hK.out _ _ HH.out (fun hH => ?_); clear hK K
  exact ca16_1efff H0  w2 _ (by kernel_rfl) BB QF HH HQ
 ·refine wp_ld4 _ rfl b1 (ii * 4) q rfl QF.out ?_
  clear QF
  unfold ca1617 oO
  simp only [Act.put, sA, sB, sC]
  refine hK.out _ _ HH.out (fun hH => ?_); clear hK K
  exact ca16_3e7ff H0  w _ (by kernel_rfl) BB HH HQ
theorem ca16_1e3ff (H : ca16h x12 ii b0 n0 c0 b1 n1 c1 p q z r u W)  (w : World) (listed : Array Bool) (hl : listed = #[true, true, true, true, true, true, true, true, true, true, false, false, false, true, true, true, true, false, false, false, false, false, false, false]) (BB : Hid (Below W.heap.size W w)) (PF : Hid (w.rangeAt b0 (ii * 4) [.int .u64 p.x0, .int .u64 p.x1, .int .u64 p.x2, .int .u64 p.x3])) (QF : Hid (w.rangeAt b1 (ii * 4) [.int .u64 q.x0, .int .u64 q.x1, .int .u64 q.x2, .int .u64 q.x3])) (HH : Hid (w.cell? ⟨x12, 0, none⟩ = some (.slice (some ⟨b0, 0, none⟩) n0 c0) ∧ w.cell? ⟨x12, 1, none⟩ = some (.slice (some ⟨b1, 0, none⟩) n1 c1))) (HQ : Hid (ca16f Q x12 ii b0 n0 c0 b1 n1 c1 p q z r u U W)) : ca16G Q x12 ii b0 n0 c0 b1 n1 c1 p q z r u W 10 listed (ca16S U x12 ii b0 n0 c0 b1 n1 c1 p q z r u  false false false false false false false false) w := by
 subst hl
 have H0 := H
 obtain ⟨j0, i0, i1, nf0, nf1, n01, th0, th1, t0, t1, pf, qf, C1, C2, C3⟩ := H
 simp only [ca16G, ca16S, cond_true, cond_false]
 refine ar [10, 11, 17] ?_
 refine ac ca1610 (fun K hK => ?_) (ac ca1611 (fun K hK => ?_) (ac ca1617 (fun K hK => ?_) AllReadyH.nil))
 ·refine wp_ld4 _ rfl b0 (ii * 4) p rfl PF.out ?_
  clear PF
  unfold ca1610 oO
  simp only [Act.put, sA, sB, sC]
  refine hK.out _ _ HH.out (fun hH => ?_); clear hK K
  exact ca16_1e7ff H0  w _ (by kernel_rfl) BB QF HH HQ
 ·unfold ca1611 oO
  go_simp
  refine (C1.out _ BB.out).mono ?_
  rintro e w2 ⟨rfl, hb⟩
  have SN := Hn (⟨cell_keep HH.out.1 hb, cell_keep HH.out.2 hb⟩ : w2.cell? ⟨x12, 0, none⟩ = some (.slice (some ⟨b0, 0, none⟩) n0 c0) ∧ w2.cell? ⟨x12, 1, none⟩ = some (.slice (some ⟨b1, 0, none⟩) n1 c1))
  replace BB := Hn (bl_trans BB.out hb)
  replace PF := Hn (range_bl PF.out hb)
  replace QF := Hn (range_bl QF.out hb)
  replace HH := SN
  clear SN  hb
  go_wp2_with fail
  refine hK.out _ _ HH.out (fun hH => ?_); clear hK K
  exact ca16_1ebff H0  w2 _ (by kernel_rfl) BB PF QF HH HQ
 ·refine wp_ld4 _ rfl b1 (ii * 4) q rfl QF.out ?_
  clear QF
  unfold ca1617 oO
  simp only [Act.put, sA, sB, sC]
  refine hK.out _ _ HH.out (fun hH => ?_); clear hK K
  exact ca16_3e3ff H0  w _ (by kernel_rfl) BB PF HH HQ
end
theorem ca16 (Q : Exit → Act → World → Prop) (x12 ii b0 n0 c0 b1 n1 c1 : Nat) (p q z r u : E4) (u0 u1 u2 u3 u4 u5 u6 u7 u8 u9 aa ab ad af ag ah ai aj ak al am an ao ap aq au av aw ax ay az aA aB aC aD aE aF aG aH aI aJ aK aL aM aN aO aP aQ aR aS aT aU aV aW aX aY aZ a1 a2 a3 a4 a5 a6 a7 a8 a9 ba bb bc bd be bg bh bi bj bk bl bm bn bo bp bq br bs bt bu bv bw bx bz bA bB bC bD bE bF bG bH bI bJ bK bL bM bN bO bP bQ bR bS bT bU bV bW bX bY bZ b2 b4 b5 b6 b7 b8 b9 ca cb cc cd ce cf cg ch ci cj ck cm cn cq cr cs ct cu cv cw cx cy cz cA cB cC cD cE cF cG cH cI cJ cK cL cM cN cO cP cQ cR cS cT cU cV cW cX cY cZ c2 c4 c5 c6 c7 c8 c9 da db dc dd de df dg dh di dj dk dl : Value) (W : World) (H : ca16h x12 ii b0 n0 c0 b1 n1 c1 p q z r u W)
  (HQ : Hid (∀ (wz : World), (∃ wy, Below W.heap.size W wy ∧ wz = (wy.setCells b0 (ii * 4) [.int .u64 r.x0, .int .u64 r.x1, .int .u64 r.x2, .int .u64 r.x3]).setCells b1 (ii * 4) [.int .u64 u.x0, .int .u64 u.x1, .int .u64 u.x2, .int .u64 u.x3]) → Q .normal ⟨#[u0, u1, u2, u3, u4, u5, u6, u7, u8, u9, aa, ab, .pointer (some ⟨x12, 0, none⟩), ad, .int .i64 (ii : Int), af, ag, ah, ai, aj, ak, al, am, an, ao, ap, aq, au, av, aw, ax, ay, az, aA, aB, aC, aD, aE, aF, aG, aH, aI, aJ, aK, aL, aM, aN, aO, aP, aQ, aR, aS, aT, aU, aV, aW, aX, aY, aZ, a1, a2, .pointer (some ⟨x12, 0, none⟩), .slice (some ⟨b0, 0, none⟩) n0 c0, .int .i64 (ii : Int), .pointer (some ⟨x12, 1, none⟩), .slice (some ⟨b1, 0, none⟩) n1 c1, .int .i64 (ii : Int), .pointer (some ⟨x12, 0, none⟩), .slice (some ⟨b0, 0, none⟩) n0 c0, .int .i64 (ii : Int), .pointer (some ⟨b0, ii * 4, none⟩), .agg #[.int .u64 p.x0, .int .u64 p.x1, .int .u64 p.x2, .int .u64 p.x3], .agg #[.int .u64 z.x0, .int .u64 z.x1, .int .u64 z.x2, .int .u64 z.x3], .agg #[.int .u64 r.x0, .int .u64 r.x1, .int .u64 r.x2, .int .u64 r.x3], .pointer (some ⟨x12, 1, none⟩), .slice (some ⟨b1, 0, none⟩) n1 c1, .int .i64 (ii : Int), .pointer (some ⟨b1, ii * 4, none⟩), .agg #[.int .u64 q.x0, .int .u64 q.x1, .int .u64 q.x2, .int .u64 q.x3], .agg #[.int .u64 z.x0, .int .u64 z.x1, .int .u64 z.x2, .int .u64 z.x3], .agg #[.int .u64 u.x0, .int .u64 u.x1, .int .u64 u.x2, .int .u64 u.x3], .pointer (some ⟨b0, ii * 4, none⟩), .pointer (some ⟨b1, ii * 4, none⟩), bq, br, bs, bt, bu, bv, bw, bx, bz, bA, bB, bC, bD, bE, bF, bG, bH, bI, bJ, bK, bL, bM, bN, bO, bP, bQ, bR, bS, bT, bU, bV, bW, bX, bY, bZ, b2, b4, b5, b6, b7, b8, b9, ca, cb, cc, cd, ce, cf, cg, ch, ci, cj, ck, cm, cn, cq, cr, cs, ct, cu, cv, cw, cx, cy, cz, cA, cB, cC, cD, cE, cF, cG, cH, cI, cJ, cK, cL, cM, cN, cO, cP, cQ, cR, cS, cT, cU, cV, cW, cX, cY, cZ, c2, c4, c5, c6, c7, c8, c9, da, db, dc, dd, de, df, dg, dh, di, dj, dk, dl], []⟩ wz)) : (Code.region 16 ca16o true).wp Tryz.prog Q ⟨#[u0, u1, u2, u3, u4, u5, u6, u7, u8, u9, aa, ab, .pointer (some ⟨x12, 0, none⟩), ad, .int .i64 (ii : Int), af, ag, ah, ai, aj, ak, al, am, an, ao, ap, aq, au, av, aw, ax, ay, az, aA, aB, aC, aD, aE, aF, aG, aH, aI, aJ, aK, aL, aM, aN, aO, aP, aQ, aR, aS, aT, aU, aV, aW, aX, aY, aZ, a1, a2, a3, a4, a5, a6, a7, a8, a9, ba, bb, bc, bd, be, bg, bh, bi, bj, bk, bl, bm, bn, bo, bp, bq, br, bs, bt, bu, bv, bw, bx, bz, bA, bB, bC, bD, bE, bF, bG, bH, bI, bJ, bK, bL, bM, bN, bO, bP, bQ, bR, bS, bT, bU, bV, bW, bX, bY, bZ, b2, b4, b5, b6, b7, b8, b9, ca, cb, cc, cd, ce, cf, cg, ch, ci, cj, ck, cm, cn, cq, cr, cs, ct, cu, cv, cw, cx, cy, cz, cA, cB, cC, cD, cE, cF, cG, cH, cI, cJ, cK, cL, cM, cN, cO, cP, cQ, cR, cS, cT, cU, cV, cW, cX, cY, cZ, c2, c4, c5, c6, c7, c8, c9, da, db, dc, dd, de, df, dg, dh, di, dj, dk, dl], []⟩ W := by
 have H0 := H
 obtain ⟨j0, i0, i1, nf0, nf1, n01, th0, th1, t0, t1, pf, qf, C1, C2, C3⟩ := H
 replace HQ : Hid (ca16f Q x12 ii b0 n0 c0 b1 n1 c1 p q z r u (nth [u0, u1, u2, u3, u4, u5, u6, u7, u8, u9, aa, ab, undef, ad, undef, af, ag, ah, ai, aj, ak, al, am, an, ao, ap, aq, au, av, aw, ax, ay, az, aA, aB, aC, aD, aE, aF, aG, aH, aI, aJ, aK, aL, aM, aN, aO, aP, aQ, aR, aS, aT, aU, aV, aW, aX, aY, aZ, a1, a2, a3, a4, a5, a6, a7, a8, a9, ba, bb, bc, bd, be, bg, bh, bi, bj, bk, bl, bm, bn, bo, bp, bq, br, bs, bt, bu, bv, bw, bx, bz, bA, bB, bC, bD, bE, bF, bG, bH, bI, bJ, bK, bL, bM, bN, bO, bP, bQ, bR, bS, bT, bU, bV, bW, bX, bY, bZ, b2, b4, b5, b6, b7, b8, b9, ca, cb, cc, cd, ce, cf, cg, ch, ci, cj, ck, cm, cn, cq, cr, cs, ct, cu, cv, cw, cx, cy, cz, cA, cB, cC, cD, cE, cF, cG, cH, cI, cJ, cK, cL, cM, cN, cO, cP, cQ, cR, cS, cT, cU, cV, cW, cX, cY, cZ, c2, c4, c5, c6, c7, c8, c9, da, db, dc, dd, de, df, dg, dh, di, dj, dk, dl]) W) := HQ
 refine wp_region_noPanic ?_
 refine wp_region_held_drew (S := fun x => x.cell? ⟨x12, 0, none⟩ = some (.slice (some ⟨b0, 0, none⟩) n0 c0) ∧ x.cell? ⟨x12, 1, none⟩ = some (.slice (some ⟨b1, 0, none⟩) n1 c1)) (by kernel_rfl) (⟨cell_keep t0 (bl_drew W), cell_keep t1 (bl_drew W)⟩) (fun hH => ?_)
 have HH := Hn hH
 have BB : Hid (Below W.heap.size W W.drew) := Hn (bl_drew W)
 have PF : Hid (W.drew.rangeAt b0 (ii * 4) [.int .u64 p.x0, .int .u64 p.x1, .int .u64 p.x2, .int .u64 p.x3]) := Hn (range_bl pf (bl_drew W))
 have QF : Hid (W.drew.rangeAt b1 (ii * 4) [.int .u64 q.x0, .int .u64 q.x1, .int .u64 q.x2, .int .u64 q.x3]) := Hn (range_bl qf (bl_drew W))
 refine tj 0 ca160 (.pointer (some ⟨x12, 0, none⟩)) hH (fun w0 hSw => ?_) ?_
 ·(unfold ca160 oO; clear hSw; go_simp)
 unfold ca160 oO
 simp only [Act.put, sA, sB, sC]
 refine tj 2 ca162 (.int .i64 (ii : Int)) hH (fun w0 hSw => ?_) ?_
 ·(unfold ca162 oO; clear hSw; go_simp)
 unfold ca162 oO
 simp only [Act.put, sA, sB, sC]
 refine tj 3 ca163 (.pointer (some ⟨x12, 1, none⟩)) hH (fun w0 hSw => ?_) ?_
 ·(unfold ca163 oO; clear hSw; go_simp)
 unfold ca163 oO
 simp only [Act.put, sA, sB, sC]
 refine tj 5 ca165 (.int .i64 (ii : Int)) hH (fun w0 hSw => ?_) ?_
 ·(unfold ca165 oO; clear hSw; go_simp)
 unfold ca165 oO
 simp only [Act.put, sA, sB, sC]
 refine tj 6 ca166 (.pointer (some ⟨x12, 0, none⟩)) hH (fun w0 hSw => ?_) ?_
 ·(unfold ca166 oO; clear hSw; go_simp)
 unfold ca166 oO
 simp only [Act.put, sA, sB, sC]
 refine tj 8 ca168 (.int .i64 (ii : Int)) hH (fun w0 hSw => ?_) ?_
 ·(unfold ca168 oO; clear hSw; go_simp)
 unfold ca168 oO
 simp only [Act.put, sA, sB, sC]
 refine tj 13 ca1613 (.pointer (some ⟨x12, 1, none⟩)) hH (fun w0 hSw => ?_) ?_
 ·(unfold ca1613 oO; clear hSw; go_simp)
 unfold ca1613 oO
 simp only [Act.put, sA, sB, sC]
 refine tj 15 ca1615 (.int .i64 (ii : Int)) hH (fun w0 hSw => ?_) ?_
 ·(unfold ca1615 oO; clear hSw; go_simp)
 unfold ca1615 oO
 simp only [Act.put, sA, sB, sC]
 refine tj 1 ca161 (.slice (some ⟨b0, 0, none⟩) n0 c0) hH (fun w0 hSw => ?_) ?_
 ·(unfold ca161 oO; have hS : w0.cell? ⟨x12, 0, none⟩ = some (.slice (some ⟨b0, 0, none⟩) n0 c0) ∧ w0.cell? ⟨x12, 1, none⟩ = some (.slice (some ⟨b1, 0, none⟩) n1 c1) := hSw; have a0 := hS.1; clear hS hSw; go_simp)
 unfold ca161 oO
 simp only [Act.put, sA, sB, sC]
 refine tj 4 ca164 (.slice (some ⟨b1, 0, none⟩) n1 c1) hH (fun w0 hSw => ?_) ?_
 ·(unfold ca164 oO; have hS : w0.cell? ⟨x12, 0, none⟩ = some (.slice (some ⟨b0, 0, none⟩) n0 c0) ∧ w0.cell? ⟨x12, 1, none⟩ = some (.slice (some ⟨b1, 0, none⟩) n1 c1) := hSw; have a0 := hS.2; clear hS hSw; go_simp)
 unfold ca164 oO
 simp only [Act.put, sA, sB, sC]
 refine tj 7 ca167 (.slice (some ⟨b0, 0, none⟩) n0 c0) hH (fun w0 hSw => ?_) ?_
 ·(unfold ca167 oO; have hS : w0.cell? ⟨x12, 0, none⟩ = some (.slice (some ⟨b0, 0, none⟩) n0 c0) ∧ w0.cell? ⟨x12, 1, none⟩ = some (.slice (some ⟨b1, 0, none⟩) n1 c1) := hSw; have a0 := hS.1; clear hS hSw; go_simp)
 unfold ca167 oO
 simp only [Act.put, sA, sB, sC]
 refine tj 14 ca1614 (.slice (some ⟨b1, 0, none⟩) n1 c1) hH (fun w0 hSw => ?_) ?_
 ·(unfold ca1614 oO; have hS : w0.cell? ⟨x12, 0, none⟩ = some (.slice (some ⟨b0, 0, none⟩) n0 c0) ∧ w0.cell? ⟨x12, 1, none⟩ = some (.slice (some ⟨b1, 0, none⟩) n1 c1) := hSw; have a0 := hS.2; clear hS hSw; go_simp)
 unfold ca1614 oO
 simp only [Act.put, sA, sB, sC]
 refine tj 9 ca169 (.pointer (some ⟨b0, ii * 4, none⟩)) hH (fun w0 hSw => ?_) ?_
 ·(unfold ca169 oO; clear hSw; go_simp)
 unfold ca169 oO
 simp only [Act.put, sA, sB, sC]
 refine tj 16 ca1616 (.pointer (some ⟨b1, ii * 4, none⟩)) hH (fun w0 hSw => ?_) ?_
 ·(unfold ca1616 oO; clear hSw; go_simp)
 unfold ca1616 oO
 simp only [Act.put, sA, sB, sC]
 exact ca16_1e3ff H0  W.drew _ (by kernel_rfl) BB PF QF HH HQ
def ca210 : Oper := oO 105 (Op.fieldAddr 30 (Operand.tmp 12) 3) 0 pCvd1 #[]
def ca211 : Oper := oO 106 (Op.load 25 (Operand.tmp 105)) 25 pCvd1 #[DD 0]
def ca212 : Oper := oO 107 (Op.move (Operand.tmp 15)) 3 pCvd1 #[]
def ca213 : Oper := oO 108 (Op.fieldAddr 30 (Operand.tmp 12) 3) 0 pCvd1 #[]
def ca214 : Oper := oO 109 (Op.load 25 (Operand.tmp 108)) 25 pCvd1 #[DD 3]
def ca215 : Oper := oO 110 (Op.move (Operand.tmp 15)) 3 pCvd1 #[]
def ca216 : Oper := oO 111 (Op.indexAddr 25 (Operand.tmp 109) (Operand.tmp 110)) 0 pCvd1 #[DD 4, DD 5]
def ca217 : Oper := oO 112 (Op.load 35 (Operand.tmp 111)) 35 pCvd1 #[DD 6]
def ca218 : Oper := oO 113 (Op.call { callee := Callee.value (Operand.func 9), args := #[Operand.const (Value.int IntKind.u64 1)], argTypes := #[33] }) 35 pCvd1 #[]
def ca219 : Oper := oO 114 (Op.call { callee := Callee.value (Operand.func 8), args := #[Operand.tmp 112, Operand.tmp 113], argTypes := #[35, 35] }) 35 pCvd1 #[DD 7, DD 8, CH 8]
def ca2110 : Oper := oO 115 (Op.indexAddr 25 (Operand.tmp 106) (Operand.tmp 107)) 0 pCvd1 #[DD 1, DD 2, PH 0, PH 1, PH 2, PH 3, PH 4, PH 5, PH 6, PH 7, PH 8, PH 9]
def ca2111 : Oper := oN (Op.store 35 (Operand.tmp 115) (Operand.tmp 114)) pCvd1 #[DD 10, DD 9, CH 9, PH 0, PH 1, PH 2, PH 3, PH 4, PH 5, PH 6, PH 7, PH 8, PH 9]
def ca21o : Array Oper := #[ca210, ca211, ca212, ca213, ca214, ca215, ca216, ca217, ca218, ca219, ca2110, ca2111]
structure ca21h (x12 ii b3 n3 c3 : Nat) (p z r : E4) (W : World) : Prop where
 j0 : (0 : Int) ≤ (ii : Int)
 i3 : (ii : Int) < (n3 : Int)
 nf : x12 ≠ b3
 th3 : W.there b3 (ii * 4) 4
 t3 : W.cell? ⟨x12, 3, none⟩ = some (.slice (some ⟨b3, 0, none⟩) n3 c3)
 pf : W.rangeAt b3 (ii * 4) [.int .u64 p.x0, .int .u64 p.x1, .int .u64 p.x2, .int .u64 p.x3]
 C1 : Hid (∀ y, Below W.heap.size W y → Calls Tryz.prog 9 #[.int .u64 1] y fun e w' => e = .returned (.agg #[.int .u64 z.x0, .int .u64 z.x1, .int .u64 z.x2, .int .u64 z.x3]) ∧ Below y.heap.size y w')
 C2 : Hid (∀ y, Below W.heap.size W y → Calls Tryz.prog 8 #[.agg #[.int .u64 p.x0, .int .u64 p.x1, .int .u64 p.x2, .int .u64 p.x3], .agg #[.int .u64 z.x0, .int .u64 z.x1, .int .u64 z.x2, .int .u64 z.x3]] y fun e w' => e = .returned (.agg #[.int .u64 r.x0, .int .u64 r.x1, .int .u64 r.x2, .int .u64 r.x3]) ∧ Below y.heap.size y w')
def ca21S (U : Nat → Value) (x12 ii b3 n3 c3 : Nat) (p z r : E4)  (f7 f8 f9 f10 : Bool) : Array Value := #[U 0, U 1, U 2, U 3, U 4, U 5, U 6, U 7, U 8, U 9, U 10, U 11, .pointer (some ⟨x12, 0, none⟩), U 13, U 14, .int .i64 (ii : Int), U 16, U 17, U 18, U 19, U 20, U 21, U 22, U 23, U 24, U 25, U 26, U 27, U 28, U 29, U 30, U 31, U 32, U 33, U 34, U 35, U 36, U 37, U 38, U 39, U 40, U 41, U 42, U 43, U 44, U 45, U 46, U 47, U 48, U 49, U 50, U 51, U 52, U 53, U 54, U 55, U 56, U 57, U 58, U 59, U 60, U 61, U 62, U 63, U 64, U 65, U 66, U 67, U 68, U 69, U 70, U 71, U 72, U 73, U 74, U 75, U 76, U 77, U 78, U 79, U 80, U 81, U 82, U 83, U 84, U 85, U 86, U 87, U 88, U 89, U 90, U 91, U 92, U 93, U 94, U 95, U 96, U 97, U 98, U 99, U 100, U 101, U 102, U 103, U 104, .pointer (some ⟨x12, 3, none⟩), .slice (some ⟨b3, 0, none⟩) n3 c3, .int .i64 (ii : Int), .pointer (some ⟨x12, 3, none⟩), .slice (some ⟨b3, 0, none⟩) n3 c3, .int .i64 (ii : Int), .pointer (some ⟨b3, ii * 4, none⟩), bif f7 then .agg #[.int .u64 p.x0, .int .u64 p.x1, .int .u64 p.x2, .int .u64 p.x3] else U 112, bif f8 then .agg #[.int .u64 z.x0, .int .u64 z.x1, .int .u64 z.x2, .int .u64 z.x3] else U 113, bif f9 then .agg #[.int .u64 r.x0, .int .u64 r.x1, .int .u64 r.x2, .int .u64 r.x3] else U 114, bif f10 then .pointer (some ⟨b3, ii * 4, none⟩) else U 115, U 116, U 117, U 118, U 119, U 120, U 121, U 122, U 123, U 124, U 125, U 126, U 127, U 128, U 129, U 130, U 131, U 132, U 133, U 134, U 135, U 136, U 137, U 138, U 139, U 140, U 141, U 142, U 143, U 144, U 145, U 146, U 147, U 148, U 149, U 150, U 151, U 152, U 153, U 154, U 155, U 156, U 157, U 158, U 159, U 160, U 161, U 162, U 163, U 164, U 165, U 166, U 167, U 168, U 169, U 170, U 171, U 172, U 173, U 174, U 175, U 176, U 177, U 178, U 179, U 180, U 181, U 182, U 183, U 184, U 185, U 186, U 187, U 188, U 189, U 190, U 191, U 192]
def ca21G (Q : Exit → Act → World → Prop) (x12 ii b3 n3 c3 : Nat) (p z r : E4) (W : World) (fuel : Nat) (listed : Array Bool) (a : Array Value) (w : World) : Prop := wpAnyH Tryz.prog Region.Mode.any ca21o (NoPanic Q) (fun x => x.cell? ⟨x12, 3, none⟩ = some (.slice (some ⟨b3, 0, none⟩) n3 c3)) fuel listed ⟨a, []⟩ w
def ca21f (Q : Exit → Act → World → Prop) (x12 ii b3 n3 c3 : Nat) (p z r : E4) (U : Nat → Value) (W : World) : Prop := ∀ (wz : World), (∃ wy, Below W.heap.size W wy ∧ wz = wy.setCells b3 (ii * 4) [.int .u64 r.x0, .int .u64 r.x1, .int .u64 r.x2, .int .u64 r.x3]) → Q .normal ⟨ca21S U x12 ii b3 n3 c3 p z r  true true true true, []⟩ wz
section
variable {Q : Exit → Act → World → Prop} {x12 ii b3 n3 c3 : Nat} {p z r : E4} {U : Nat → Value} {W : World}
theorem ca21_fff (H : ca21h x12 ii b3 n3 c3 p z r W)  (w : World) (listed : Array Bool) (hl : listed = #[true, true, true, true, true, true, true, true, true, true, true, true]) (FE : Hid (∃ wy, Below W.heap.size W wy ∧ w = wy.setCells b3 (ii * 4) [.int .u64 r.x0, .int .u64 r.x1, .int .u64 r.x2, .int .u64 r.x3])) (HH : Hid (w.cell? ⟨x12, 3, none⟩ = some (.slice (some ⟨b3, 0, none⟩) n3 c3))) (HQ : Hid (ca21f Q x12 ii b3 n3 c3 p z r U W)) : ca21G Q x12 ii b3 n3 c3 p z r W 0 listed (ca21S U x12 ii b3 n3 c3 p z r  true true true true) w := by
 subst hl
 have H0 := H
 obtain ⟨j0, i3, nf, th3, t3, pf, C1, C2⟩ := H
 simp only [ca21G, ca21S, cond_true, cond_false]
 refine wpAnyH_done (by kernel_rfl) ?_ _
 refine NoPanic.normal ?_
 exact HQ.out _ FE.out
theorem ca21_7ff (H : ca21h x12 ii b3 n3 c3 p z r W)  (w : World) (listed : Array Bool) (hl : listed = #[true, true, true, true, true, true, true, true, true, true, true, false]) (BB : Hid (Below W.heap.size W w)) (HH : Hid (w.cell? ⟨x12, 3, none⟩ = some (.slice (some ⟨b3, 0, none⟩) n3 c3))) (HQ : Hid (ca21f Q x12 ii b3 n3 c3 p z r U W)) : ca21G Q x12 ii b3 n3 c3 p z r W 1 listed (ca21S U x12 ii b3 n3 c3 p z r  true true true true) w := by
 subst hl
 have H0 := H
 obtain ⟨j0, i3, nf, th3, t3, pf, C1, C2⟩ := H
 simp only [ca21G, ca21S, cond_true, cond_false]
 refine ar [11] ?_
 refine ac ca2111 (fun K hK => ?_) AllReadyH.nil
 refine wp_storeE 35 _ _ rfl b3 (ii * 4) ([.int .u64 r.x0, .int .u64 r.x1, .int .u64 r.x2, .int .u64 r.x3]) (by rfl) (by rfl) (there_bl th3 BB.out) i4_s (one4 r) rfl (fun w2 hw => ?_)
 have SN := Hn (by rw [hw]; exact (gb_setCells b3 [.int .u64 r.x0, .int .u64 r.x1, .int .u64 r.x2, .int .u64 r.x3] (ii * 4) _).cell HH.out (fun e => nf (Option.some.inj e)) : w2.cell? ⟨x12, 3, none⟩ = some (.slice (some ⟨b3, 0, none⟩) n3 c3))
 have FE := Hn (⟨_, BB.out, hw⟩ : ∃ wy, Below W.heap.size W wy ∧ w2 = wy.setCells b3 (ii * 4) [.int .u64 r.x0, .int .u64 r.x1, .int .u64 r.x2, .int .u64 r.x3])
 replace HH := SN
 clear SN BB hw
 refine hK.out _ _ HH.out (fun hH => ?_); clear hK K
 exact ca21_fff H0  w2 _ (by kernel_rfl) FE HH HQ
theorem ca21_1ff (H : ca21h x12 ii b3 n3 c3 p z r W)  (w : World) (listed : Array Bool) (hl : listed = #[true, true, true, true, true, true, true, true, true, false, false, false]) (BB : Hid (Below W.heap.size W w)) (HH : Hid (w.cell? ⟨x12, 3, none⟩ = some (.slice (some ⟨b3, 0, none⟩) n3 c3))) (HQ : Hid (ca21f Q x12 ii b3 n3 c3 p z r U W)) : ca21G Q x12 ii b3 n3 c3 p z r W 3 listed (ca21S U x12 ii b3 n3 c3 p z r  true true false false) w := by
 subst hl
 have H0 := H
 obtain ⟨j0, i3, nf, th3, t3, pf, C1, C2⟩ := H
 simp only [ca21G, ca21S, cond_true, cond_false]
 refine ar [9] ?_
 refine ac ca219 (fun K hK => ?_) AllReadyH.nil
 unfold ca219 oO
 go_simp
 refine (C2.out _ BB.out).mono ?_
 rintro e w2 ⟨rfl, hb⟩
 have SN := Hn (cell_keep HH.out hb : w2.cell? ⟨x12, 3, none⟩ = some (.slice (some ⟨b3, 0, none⟩) n3 c3))
 replace BB := Hn (bl_trans BB.out hb)
 replace HH := SN
 clear SN  hb
 go_wp2_with fail
 refine hK.out _ _ HH.out (fun hH => ?_); clear hK K
 refine tj 10 ca2110 (.pointer (some ⟨b3, ii * 4, none⟩)) hH (fun w0 hSw => ?_) ?_
 ·(unfold ca2110 oO; clear hSw; go_simp)
 unfold ca2110 oO
 simp only [Act.put, sA, sB, sC]
 exact ca21_7ff H0  w2 _ (by kernel_rfl) BB HH HQ
theorem ca21_17f (H : ca21h x12 ii b3 n3 c3 p z r W)  (w : World) (listed : Array Bool) (hl : listed = #[true, true, true, true, true, true, true, false, true, false, false, false]) (BB : Hid (Below W.heap.size W w)) (PF : Hid (w.rangeAt b3 (ii * 4) [.int .u64 p.x0, .int .u64 p.x1, .int .u64 p.x2, .int .u64 p.x3])) (HH : Hid (w.cell? ⟨x12, 3, none⟩ = some (.slice (some ⟨b3, 0, none⟩) n3 c3))) (HQ : Hid (ca21f Q x12 ii b3 n3 c3 p z r U W)) : ca21G Q x12 ii b3 n3 c3 p z r W 4 listed (ca21S U x12 ii b3 n3 c3 p z r  false true false false) w := by
 subst hl
 have H0 := H
 obtain ⟨j0, i3, nf, th3, t3, pf, C1, C2⟩ := H
 simp only [ca21G, ca21S, cond_true, cond_false]
 refine ar [7] ?_
 refine ac ca217 (fun K hK => ?_) AllReadyH.nil
 refine wp_ld4 _ rfl b3 (ii * 4) p rfl PF.out ?_
 clear PF
 unfold ca217 oO
 simp only [Act.put, sA, sB, sC]
 refine hK.out _ _ HH.out (fun hH => ?_); clear hK K
 exact ca21_1ff H0  w _ (by kernel_rfl) BB HH HQ
theorem ca21_ff (H : ca21h x12 ii b3 n3 c3 p z r W)  (w : World) (listed : Array Bool) (hl : listed = #[true, true, true, true, true, true, true, true, false, false, false, false]) (BB : Hid (Below W.heap.size W w)) (HH : Hid (w.cell? ⟨x12, 3, none⟩ = some (.slice (some ⟨b3, 0, none⟩) n3 c3))) (HQ : Hid (ca21f Q x12 ii b3 n3 c3 p z r U W)) : ca21G Q x12 ii b3 n3 c3 p z r W 4 listed (ca21S U x12 ii b3 n3 c3 p z r  true false false false) w := by
 subst hl
 have H0 := H
 obtain ⟨j0, i3, nf, th3, t3, pf, C1, C2⟩ := H
 simp only [ca21G, ca21S, cond_true, cond_false]
 refine ar [8] ?_
 refine ac ca218 (fun K hK => ?_) AllReadyH.nil
 unfold ca218 oO
 go_simp
 refine (C1.out _ BB.out).mono ?_
 rintro e w2 ⟨rfl, hb⟩
 have SN := Hn (cell_keep HH.out hb : w2.cell? ⟨x12, 3, none⟩ = some (.slice (some ⟨b3, 0, none⟩) n3 c3))
 replace BB := Hn (bl_trans BB.out hb)
 replace HH := SN
 clear SN  hb
 go_wp2_with fail
 refine hK.out _ _ HH.out (fun hH => ?_); clear hK K
 exact ca21_1ff H0  w2 _ (by kernel_rfl) BB HH HQ
theorem ca21_7f (H : ca21h x12 ii b3 n3 c3 p z r W)  (w : World) (listed : Array Bool) (hl : listed = #[true, true, true, true, true, true, true, false, false, false, false, false]) (BB : Hid (Below W.heap.size W w)) (PF : Hid (w.rangeAt b3 (ii * 4) [.int .u64 p.x0, .int .u64 p.x1, .int .u64 p.x2, .int .u64 p.x3])) (HH : Hid (w.cell? ⟨x12, 3, none⟩ = some (.slice (some ⟨b3, 0, none⟩) n3 c3))) (HQ : Hid (ca21f Q x12 ii b3 n3 c3 p z r U W)) : ca21G Q x12 ii b3 n3 c3 p z r W 5 listed (ca21S U x12 ii b3 n3 c3 p z r  false false false false) w := by
 subst hl
 have H0 := H
 obtain ⟨j0, i3, nf, th3, t3, pf, C1, C2⟩ := H
 simp only [ca21G, ca21S, cond_true, cond_false]
 refine ar [7, 8] ?_
 refine ac ca217 (fun K hK => ?_) (ac ca218 (fun K hK => ?_) AllReadyH.nil)
 ·refine wp_ld4 _ rfl b3 (ii * 4) p rfl PF.out ?_
  clear PF
  unfold ca217 oO
  simp only [Act.put, sA, sB, sC]
  refine hK.out _ _ HH.out (fun hH => ?_); clear hK K
  exact ca21_ff H0  w _ (by kernel_rfl) BB HH HQ
 ·unfold ca218 oO
  go_simp
  refine (C1.out _ BB.out).mono ?_
  rintro e w2 ⟨rfl, hb⟩
  have SN := Hn (cell_keep HH.out hb : w2.cell? ⟨x12, 3, none⟩ = some (.slice (some ⟨b3, 0, none⟩) n3 c3))
  replace BB := Hn (bl_trans BB.out hb)
  replace PF := Hn (range_bl PF.out hb)
  replace HH := SN
  clear SN  hb
  go_wp2_with fail
  refine hK.out _ _ HH.out (fun hH => ?_); clear hK K
  exact ca21_17f H0  w2 _ (by kernel_rfl) BB PF HH HQ
end
theorem ca21 (Q : Exit → Act → World → Prop) (x12 ii b3 n3 c3 : Nat) (p z r : E4) (u0 u1 u2 u3 u4 u5 u6 u7 u8 u9 aa ab ad ae ag ah ai aj ak al am an ao ap aq au av aw ax ay az aA aB aC aD aE aF aG aH aI aJ aK aL aM aN aO aP aQ aR aS aT aU aV aW aX aY aZ a1 a2 a3 a4 a5 a6 a7 a8 a9 ba bb bc bd be bg bh bi bj bk bl bm bn bo bp bq br bs bt bu bv bw bx bz bA bB bC bD bE bF bG bH bI bJ bK bL bM bN bO bP bQ bR bS bT bU bV bW bX bY bZ b2 b4 b5 b6 b7 b8 b9 ca cb cc cd ce cf cg ch ci cj ck cm cn cq cr cs ct cu cv cw cx cy cz cA cB cC cD cE cF cG cH cI cJ cK cL cM cN cO cP cQ cR cS cT cU cV cW cX cY cZ c2 c4 c5 c6 c7 c8 c9 da db dc dd de df dg dh di dj dk dl : Value) (W : World) (H : ca21h x12 ii b3 n3 c3 p z r W)
  (HQ : Hid (∀ (wz : World), (∃ wy, Below W.heap.size W wy ∧ wz = wy.setCells b3 (ii * 4) [.int .u64 r.x0, .int .u64 r.x1, .int .u64 r.x2, .int .u64 r.x3]) → Q .normal ⟨#[u0, u1, u2, u3, u4, u5, u6, u7, u8, u9, aa, ab, .pointer (some ⟨x12, 0, none⟩), ad, ae, .int .i64 (ii : Int), ag, ah, ai, aj, ak, al, am, an, ao, ap, aq, au, av, aw, ax, ay, az, aA, aB, aC, aD, aE, aF, aG, aH, aI, aJ, aK, aL, aM, aN, aO, aP, aQ, aR, aS, aT, aU, aV, aW, aX, aY, aZ, a1, a2, a3, a4, a5, a6, a7, a8, a9, ba, bb, bc, bd, be, bg, bh, bi, bj, bk, bl, bm, bn, bo, bp, bq, br, bs, bt, bu, bv, bw, bx, bz, bA, bB, bC, bD, bE, bF, bG, bH, bI, bJ, bK, bL, bM, .pointer (some ⟨x12, 3, none⟩), .slice (some ⟨b3, 0, none⟩) n3 c3, .int .i64 (ii : Int), .pointer (some ⟨x12, 3, none⟩), .slice (some ⟨b3, 0, none⟩) n3 c3, .int .i64 (ii : Int), .pointer (some ⟨b3, ii * 4, none⟩), .agg #[.int .u64 p.x0, .int .u64 p.x1, .int .u64 p.x2, .int .u64 p.x3], .agg #[.int .u64 z.x0, .int .u64 z.x1, .int .u64 z.x2, .int .u64 z.x3], .agg #[.int .u64 r.x0, .int .u64 r.x1, .int .u64 r.x2, .int .u64 r.x3], .pointer (some ⟨b3, ii * 4, none⟩), bY, bZ, b2, b4, b5, b6, b7, b8, b9, ca, cb, cc, cd, ce, cf, cg, ch, ci, cj, ck, cm, cn, cq, cr, cs, ct, cu, cv, cw, cx, cy, cz, cA, cB, cC, cD, cE, cF, cG, cH, cI, cJ, cK, cL, cM, cN, cO, cP, cQ, cR, cS, cT, cU, cV, cW, cX, cY, cZ, c2, c4, c5, c6, c7, c8, c9, da, db, dc, dd, de, df, dg, dh, di, dj, dk, dl], []⟩ wz)) : (Code.region 21 ca21o true).wp Tryz.prog Q ⟨#[u0, u1, u2, u3, u4, u5, u6, u7, u8, u9, aa, ab, .pointer (some ⟨x12, 0, none⟩), ad, ae, .int .i64 (ii : Int), ag, ah, ai, aj, ak, al, am, an, ao, ap, aq, au, av, aw, ax, ay, az, aA, aB, aC, aD, aE, aF, aG, aH, aI, aJ, aK, aL, aM, aN, aO, aP, aQ, aR, aS, aT, aU, aV, aW, aX, aY, aZ, a1, a2, a3, a4, a5, a6, a7, a8, a9, ba, bb, bc, bd, be, bg, bh, bi, bj, bk, bl, bm, bn, bo, bp, bq, br, bs, bt, bu, bv, bw, bx, bz, bA, bB, bC, bD, bE, bF, bG, bH, bI, bJ, bK, bL, bM, bN, bO, bP, bQ, bR, bS, bT, bU, bV, bW, bX, bY, bZ, b2, b4, b5, b6, b7, b8, b9, ca, cb, cc, cd, ce, cf, cg, ch, ci, cj, ck, cm, cn, cq, cr, cs, ct, cu, cv, cw, cx, cy, cz, cA, cB, cC, cD, cE, cF, cG, cH, cI, cJ, cK, cL, cM, cN, cO, cP, cQ, cR, cS, cT, cU, cV, cW, cX, cY, cZ, c2, c4, c5, c6, c7, c8, c9, da, db, dc, dd, de, df, dg, dh, di, dj, dk, dl], []⟩ W := by
 have H0 := H
 obtain ⟨j0, i3, nf, th3, t3, pf, C1, C2⟩ := H
 replace HQ : Hid (ca21f Q x12 ii b3 n3 c3 p z r (nth [u0, u1, u2, u3, u4, u5, u6, u7, u8, u9, aa, ab, undef, ad, ae, undef, ag, ah, ai, aj, ak, al, am, an, ao, ap, aq, au, av, aw, ax, ay, az, aA, aB, aC, aD, aE, aF, aG, aH, aI, aJ, aK, aL, aM, aN, aO, aP, aQ, aR, aS, aT, aU, aV, aW, aX, aY, aZ, a1, a2, a3, a4, a5, a6, a7, a8, a9, ba, bb, bc, bd, be, bg, bh, bi, bj, bk, bl, bm, bn, bo, bp, bq, br, bs, bt, bu, bv, bw, bx, bz, bA, bB, bC, bD, bE, bF, bG, bH, bI, bJ, bK, bL, bM, bN, bO, bP, bQ, bR, bS, bT, bU, bV, bW, bX, bY, bZ, b2, b4, b5, b6, b7, b8, b9, ca, cb, cc, cd, ce, cf, cg, ch, ci, cj, ck, cm, cn, cq, cr, cs, ct, cu, cv, cw, cx, cy, cz, cA, cB, cC, cD, cE, cF, cG, cH, cI, cJ, cK, cL, cM, cN, cO, cP, cQ, cR, cS, cT, cU, cV, cW, cX, cY, cZ, c2, c4, c5, c6, c7, c8, c9, da, db, dc, dd, de, df, dg, dh, di, dj, dk, dl]) W) := HQ
 refine wp_region_noPanic ?_
 refine wp_region_held_drew (S := fun x => x.cell? ⟨x12, 3, none⟩ = some (.slice (some ⟨b3, 0, none⟩) n3 c3)) (by kernel_rfl) (cell_keep t3 (bl_drew W)) (fun hH => ?_)
 have HH := Hn hH
 have BB : Hid (Below W.heap.size W W.drew) := Hn (bl_drew W)
 have PF : Hid (W.drew.rangeAt b3 (ii * 4) [.int .u64 p.x0, .int .u64 p.x1, .int .u64 p.x2, .int .u64 p.x3]) := Hn (range_bl pf (bl_drew W))
 refine tj 0 ca210 (.pointer (some ⟨x12, 3, none⟩)) hH (fun w0 hSw => ?_) ?_
 ·(unfold ca210 oO; clear hSw; go_simp)
 unfold ca210 oO
 simp only [Act.put, sA, sB, sC]
 refine tj 2 ca212 (.int .i64 (ii : Int)) hH (fun w0 hSw => ?_) ?_
 ·(unfold ca212 oO; clear hSw; go_simp)
 unfold ca212 oO
 simp only [Act.put, sA, sB, sC]
 refine tj 3 ca213 (.pointer (some ⟨x12, 3, none⟩)) hH (fun w0 hSw => ?_) ?_
 ·(unfold ca213 oO; clear hSw; go_simp)
 unfold ca213 oO
 simp only [Act.put, sA, sB, sC]
 refine tj 5 ca215 (.int .i64 (ii : Int)) hH (fun w0 hSw => ?_) ?_
 ·(unfold ca215 oO; clear hSw; go_simp)
 unfold ca215 oO
 simp only [Act.put, sA, sB, sC]
 refine tj 1 ca211 (.slice (some ⟨b3, 0, none⟩) n3 c3) hH (fun w0 hSw => ?_) ?_
 ·(unfold ca211 oO; have hS : w0.cell? ⟨x12, 3, none⟩ = some (.slice (some ⟨b3, 0, none⟩) n3 c3) := hSw; have a0 := hS; clear hS hSw; go_simp)
 unfold ca211 oO
 simp only [Act.put, sA, sB, sC]
 refine tj 4 ca214 (.slice (some ⟨b3, 0, none⟩) n3 c3) hH (fun w0 hSw => ?_) ?_
 ·(unfold ca214 oO; have hS : w0.cell? ⟨x12, 3, none⟩ = some (.slice (some ⟨b3, 0, none⟩) n3 c3) := hSw; have a0 := hS; clear hS hSw; go_simp)
 unfold ca214 oO
 simp only [Act.put, sA, sB, sC]
 refine tj 6 ca216 (.pointer (some ⟨b3, ii * 4, none⟩)) hH (fun w0 hSw => ?_) ?_
 ·(unfold ca216 oO; clear hSw; go_simp)
 unfold ca216 oO
 simp only [Act.put, sA, sB, sC]
 exact ca21_7f H0  W.drew _ (by kernel_rfl) BB PF HH HQ
end Ci
end Go.Proofs.YthngomhhafoamaaGreatDoor
