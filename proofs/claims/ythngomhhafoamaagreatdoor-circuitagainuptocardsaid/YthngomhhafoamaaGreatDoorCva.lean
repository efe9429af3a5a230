import Derived.Test.YthngomhhafoamaaGreatDoorXz
import Derived.Test.YthngomhhafoamaaGreatDoorKw
set_option linter.unusedVariables false
set_option linter.unusedSimpArgs false
set_option maxRecDepth 100000
set_option maxHeartbeats 16000000
namespace Go.Proofs.YthngomhhafoamaaGreatDoor
open Go.RowKit
open Cm (Wr Tm co bf Ls lf ins Eqm)
namespace Ci
theorem run_copy {P : Program} (w : World) (t ty e : TypeId) (i : TypeInfo) (z : Value) (size bytes : Nat) (ht : P.underlying t = some (.slice e)) (hi : P.info? e = some i) (hz : i.zero = some z) (hsize : i.size = size) (hby : i.bytes = bytes) (hzs : z.cells.size = size) (hsz : 0 < size)
  (A : Option Addr) (m c : Nat) (news : List Value) (hl : news.length = m * size) (hn : A = none → m = 0 ∧ c = 0) (hnews : ∀ a, A = some a → ∀ j u, news[j]? = some u → w.cell? (a.add j) = some u) (h1 : ∀ u ∈ news, u.oneCell' = true) (h63 : m ≤ maxLen) (hbytes : m * bytes ≤ 140737488355328) :
  ∃ v' w', (Builtin.append_ #[t, t] ty #[.slice none 0 0, .slice A m c]).run P w = .ok v' w' ∧ w'.ownsRow w.heap.size e size v' m news ∧ Below w.heap.size w w' ∧ ∀ k, v'.ownBlock = some k → k = w.heap.size := by
 cases A with
 | none =>
  obtain ⟨rfl, rfl⟩ := hn rfl
  have e1 : news = [] := List.eq_nil_of_length_eq_zero (by rw [hl, Nat.zero_mul])
  subst e1
  exact ⟨_, w, run_append_owned_none (P := P) (w := w) w.heap.size t ty e i size ht hi _ 0 [] (World.ownsRow_nil w w.heap.size e size), World.ownsRow_nil w w.heap.size e size, Below.refl _ _, fun k hk => by cases hk⟩
 | some a =>
  obtain ⟨v', w', hr, h2, h3, h4, h5⟩ := run_append_own_at (P := P) w w.heap.size t ty e i z size bytes ht hi hz hsize hby hzs hsz _ 0 [] (World.ownsRow_nil w w.heap.size e size) a m c news hl (hnews a rfl) h1 (by rw [Nat.zero_add]; exact h63) (by rw [Nat.zero_add]; exact hbytes) (Nat.le_refl _)
  rw [Nat.zero_add, List.nil_append] at h2
  refine ⟨v', w', hr, h2, Tr.below_grown h3 (Nat.le_refl _) (fun k hk => by cases hk), fun k hk => ?_⟩
  rcases h5 with h5 | h5
  ·rw [h5] at hk; cases hk
  ·rw [h5] at hk; exact (Option.some.inj hk).symm
theorem s4s_one (n : Nat) (g : Nat → E4) : ∀ u ∈ s4s n g, u.oneCell' = true := by
 induction n with
 | zero => intro u hu; cases hu
 | succ n ih =>
  rw [s4s_succ]
  intro u hu
  rcases List.mem_append.1 hu with h | h
  ·exact ih u h
  ·simp only [List.mem_cons, List.not_mem_nil, or_false] at h
   rcases h with rfl | rfl | rfl | rfl <;> rfl
def Ow (w : World) (s : Sl) : Prop := w.ownsRow 0 35 4 s.v s.n (s4s s.n s.g) ∧ (∀ k, k < s.n → (s.g k).ok) ∧ s.n ≤ 100000
def Ak (w : World) (p : Option Addr) (n c : Nat) (g : Nat → E4) : Prop := (⟨p, n, c, g⟩ : Sl).at w ∧ ∀ a, p = some a → a.block < w.heap.size
def pn (p : Option Addr) (rb : Nat) : Prop := ∀ a, p = some a → a.block ≠ rb
theorem kAk {w w2 : World} {p : Option Addr} {n c : Nat} {g : Nat → E4} (h : Hid (Ak w p n c g)) (hb : Below w.heap.size w w2) : Hid (Ak w2 p n c g) := Hn ⟨h.out.1.keep hb, fun a ha => Nat.lt_of_lt_of_le (h.out.2 a ha) hb.size⟩
theorem Ak.oth {w w2 : World} {p : Option Addr} {n c rb : Nat} {g : Nat → E4} (h : Ak w p n c g) (hg : w.grownBy w2 (some rb)) (hn : pn p rb) : Ak w2 p n c g := by
 obtain ⟨⟨⟨b, o, h1, h2⟩, ok⟩, h3⟩ := h
 refine ⟨⟨⟨b, o, h1, fun h0 => ?_⟩, ok⟩, fun a ha => Nat.lt_of_lt_of_le (h3 a ha) hg.size⟩
 have hb : b ≠ rb := hn _ (h1 h0)
 have k := h2 h0
 exact ⟨fun i hi => hg.cell (k.c0 i hi) (fun e => hb (Option.some.inj e)), fun i hi => hg.cell (k.c1 i hi) (fun e => hb (Option.some.inj e)), fun i hi => hg.cell (k.c2 i hi) (fun e => hb (Option.some.inj e)), fun i hi => hg.cell (k.c3 i hi) (fun e => hb (Option.some.inj e))⟩
theorem nTA {w : World} {p : Option Addr} {rb : Nat} (h : Hid (w.there rb 0 4)) (ht : ∀ a, p = some a → a.block = w.heap.size) : Hid (pn p rb) := Hn (fun a ha => by rw [ht a ha]; have := there_lt h.out; omega)
theorem nAT {w : World} {p : Option Addr} {n c rb : Nat} {g : Nat → E4} (h : Hid (Ak w p n c g)) (ht : rb = w.heap.size) : Hid (pn p rb) := Hn (fun a ha => by have := h.out.2 a ha; omega)
theorem wp_cpS {W w : World} {o : Oper} {a : Act} {K : Act → World → Prop} {Q : Exit → Act → World → Prop} (HH : Hid (Below W.heap.size W w)) (x0 : Operand) (ho : o.op = .call { callee := .builtin .append, args := #[.const (.slice none 0 0), x0], argTypes := #[25, 25] }) (s : Sl) (hr : Ow W s) (h0 : a.eval x0 = .slice s.p s.n s.c)
  (h : ∀ (p : Option Addr) (c : Nat) (wq : World), Below w.heap.size w wq → Hid (Below W.heap.size W wq) → Hid (Ak wq p s.n c s.g) → (∀ b, p = some b → b.block = w.heap.size) → K (a.put o.dst (.slice p s.n c)) wq) : o.wp Tryz.prog a w K Q := by
 obtain ⟨hro, hok, hn9⟩ := hr
 have hr2 := own_keepT hro HH.out
 obtain ⟨P, n, c, g⟩ := s
 simp only at h0 hok hn9 h hr2
 have hsh : (P = none → n = 0 ∧ c = 0) ∧ ∀ b, P = some b → ∀ j u, (s4s n g)[j]? = some u → w.cell? (b.add j) = some u := by
  rcases hr2.2 with ⟨h1, h2⟩ | ⟨gb, cp, cur, h1, _⟩
  ·simp only [Sl.v, Value.slice.injEq] at h1
   obtain ⟨rfl, rfl, rfl⟩ := h1
   exact ⟨fun _ => ⟨rfl, rfl⟩, fun b hb => by cases hb⟩
  ·have h1' := h1
   simp only [Sl.v, Value.slice.injEq] at h1'
   obtain ⟨rfl, _, rfl⟩ := h1'
   refine ⟨fun e => (by cases e), fun b hb j u hu => ?_⟩
   obtain rfl := Option.some.inj hb
   exact by have h5 := hr2.cells (g := gb) rfl j u hu; exact h5
 have HI : (Tryz.prog.info? 35) = some (Tryz.prog.info? 35).get! := by kernel_rfl
 obtain ⟨v', w', hrun, h2, h3, h4⟩ := run_copy (P := Tryz.prog) w 25 o.type 35 _ (.agg #[.int .u64 0, .int .u64 0, .int .u64 0, .int .u64 0]) 4 32 (by kernel_rfl) HI (by kernel_rfl) (by kernel_rfl) (by kernel_rfl) rfl (by decide) P n c (s4s n g) (s4s_len n g) hsh.1 hsh.2 (s4s_one n g) (by unfold maxLen; omega) (by omega)
 obtain ⟨p', c', e1, hat⟩ : ∃ p' c', v' = .slice p' n c' ∧ (⟨p', n, c', g⟩ : Sl).at w' := by
  rcases h2.2 with ⟨k1, k2⟩ | ⟨gb, cp, cur, k1, _⟩
  ·subst k2
   exact ⟨none, 0, k1, own_at (b0 := w.heap.size) (n := 0) (s := ⟨none, 0, 0, g⟩) ⟨by show World.ownsRow w' _ _ 4 (.slice none 0 0) 0 _; rw [← k1]; exact h2, fun k hk => by omega⟩ rfl⟩
  ·exact ⟨_, cp, k1, own_at (b0 := w.heap.size) (n := n) (s := ⟨some ⟨gb, 0, none⟩, n, cp, g⟩) ⟨by show World.ownsRow w' _ _ 4 (.slice (some ⟨gb, 0, none⟩) n cp) n _; rw [← k1]; exact h2, hok⟩ rfl⟩
 subst e1
 have hblk : ∀ b, p' = some b → b.block = w.heap.size := fun b hb => h4 _ (by rw [hb]; rfl)
 have hk := h p' c' w' h3 (Hn (bl_trans HH.out h3)) (Hn ⟨hat, fun b hb => by
  have h9 := (h2.lt b.block (by rw [hb]; rfl)).2
  exact h9⟩) hblk
 unfold Oper.wp execOp
 have hc : a.eval (.const (.slice none 0 0)) = .slice none 0 0 := rfl
 simp only [ho, resolve, invoke, builtin, Sem.run_bind, Sem.run_pure, Result.andThen_ok, List.map_toArray, List.map_cons, List.map_nil, hc, h0, hrun]
 exact hk
def pCva0 : String := "outright.go:318"
def al10 : Oper := oO 16 (Op.fieldAddr 30 (Operand.tmp 6) 0) 0 pCva0 #[]
def al11 : Oper := oO 17 (Op.load 25 (Operand.tmp 16)) 25 pCva0 #[DD 0]
def al12 : Oper := oO 18 (Op.call { callee := Callee.builtin Builtin.append, args := #[Operand.const (Value.slice none 0 0), Operand.tmp 17], argTypes := #[25, 25] }) 25 pCva0 #[DD 1]
def al13 : Oper := oO 19 (Op.fieldAddr 30 (Operand.tmp 6) 1) 0 pCva0 #[]
def al14 : Oper := oO 20 (Op.load 25 (Operand.tmp 19)) 25 pCva0 #[DD 3]
def al15 : Oper := oO 21 (Op.call { callee := Callee.builtin Builtin.append, args := #[Operand.const (Value.slice none 0 0), Operand.tmp 20], argTypes := #[25, 25] }) 25 pCva0 #[DD 4, CH 2]
def al16 : Oper := oO 22 (Op.fieldAddr 30 (Operand.tmp 6) 2) 0 pCva0 #[]
def al17 : Oper := oO 23 (Op.load 25 (Operand.tmp 22)) 25 pCva0 #[DD 6]
def al18 : Oper := oO 24 (Op.call { callee := Callee.builtin Builtin.append, args := #[Operand.const (Value.slice none 0 0), Operand.tmp 23], argTypes := #[25, 25] }) 25 pCva0 #[DD 7, CH 5]
def al19 : Oper := oO 25 (Op.fieldAddr 30 (Operand.tmp 6) 3) 0 pCva0 #[]
def al110 : Oper := oO 26 (Op.load 25 (Operand.tmp 25)) 25 pCva0 #[DD 9]
def al111 : Oper := oO 27 (Op.call { callee := Callee.builtin Builtin.append, args := #[Operand.const (Value.slice none 0 0), Operand.tmp 26], argTypes := #[25, 25] }) 25 pCva0 #[DD 10, CH 8]
def al112 : Oper := oO 28 (Op.build 30 #[(0, Operand.tmp 18), (1, Operand.tmp 21), (2, Operand.tmp 24), (3, Operand.tmp 27)]) 30 pCva0 #[DD 2, DD 5, DD 8, DD 11]
def al113 : Oper := oO 11 (Op.alloc 30) 0 pCva0 #[]
def al114 : Oper := oN (Op.store 30 (Operand.tmp 11) (Operand.tmp 28)) pCva0 #[DD 13, DD 12, CH 11, PH 0, PH 1, PH 2, PH 3, PH 4, PH 5, PH 6, PH 7, PH 8, PH 9, PH 10, PH 11, PH 12, PH 13]
def al1o : Array Oper := #[al10, al11, al12, al13, al14, al15, al16, al17, al18, al19, al110, al111, al112, al113, al114]
structure al1h (x6 : Nat) (l r o v : Sl) (W : World) : Prop where
 x60 : W.cell? ⟨x6, 0, none⟩ = some (.slice l.p l.n l.c)
 x61 : W.cell? ⟨x6, 1, none⟩ = some (.slice r.p r.n r.c)
 x62 : W.cell? ⟨x6, 2, none⟩ = some (.slice o.p o.n o.c)
 x63 : W.cell? ⟨x6, 3, none⟩ = some (.slice v.p v.n v.c)
 R1 : Ow W l
 R2 : Ow W r
 R3 : Ow W o
 R4 : Ow W v
def al1S (U : Nat → Value) (x6 : Nat) (l r o v : Sl) (p1 : Option Addr) (c1 : Nat) (p2 : Option Addr) (c2 : Nat) (p3 : Option Addr) (c3 : Nat) (p4 : Option Addr) (c4 : Nat) (rb : Nat) (f2 f5 f8 f11 f12 f13 : Bool) : Array Value := #[U 0, U 1, U 2, U 3, U 4, U 5, .pointer (some ⟨x6, 0, none⟩), U 7, U 8, U 9, U 10, bif f13 then .pointer (some ⟨rb, 0, none⟩) else U 11, U 12, U 13, U 14, U 15, .pointer (some ⟨x6, 0, none⟩), .slice l.p l.n l.c, bif f2 then .slice p1 l.n c1 else U 18, .pointer (some ⟨x6, 1, none⟩), .slice r.p r.n r.c, bif f5 then .slice p2 r.n c2 else U 21, .pointer (some ⟨x6, 2, none⟩), .slice o.p o.n o.c, bif f8 then .slice p3 o.n c3 else U 24, .pointer (some ⟨x6, 3, none⟩), .slice v.p v.n v.c, bif f11 then .slice p4 v.n c4 else U 27, bif f12 then .agg #[.slice p1 l.n c1, .slice p2 r.n c2, .slice p3 o.n c3, .slice p4 v.n c4] else U 28, U 29, U 30, U 31, U 32, U 33, U 34, U 35, U 36, U 37, U 38, U 39, U 40, U 41, U 42, U 43, U 44, U 45, U 46, U 47, U 48, U 49, U 50, U 51, U 52, U 53, U 54, U 55, U 56, U 57, U 58, U 59, U 60, U 61, U 62, U 63, U 64, U 65, U 66, U 67, U 68, U 69, U 70, U 71, U 72, U 73, U 74, U 75, U 76, U 77, U 78, U 79, U 80, U 81, U 82, U 83, U 84, U 85, U 86, U 87, U 88, U 89, U 90, U 91, U 92]
def al1G (Q : Exit → Act → World → Prop) (x6 : Nat) (l r o v : Sl) (W : World) (fuel : Nat) (listed : Array Bool) (a : Array Value) (w : World) : Prop := wpAnyH Tryz.prog Region.Mode.any al1o (NoPanic Q) (fun x => Below W.heap.size W x) fuel listed ⟨a, []⟩ w
def al1f (Q : Exit → Act → World → Prop) (x6 : Nat) (l r o v : Sl) (U : Nat → Value) (W : World) : Prop := ∀ (wz : World) (p1 : Option Addr) (c1 : Nat) (p2 : Option Addr) (c2 : Nat) (p3 : Option Addr) (c3 : Nat) (p4 : Option Addr) (c4 : Nat) (rb : Nat), Below W.heap.size W wz → Ak wz p1 l.n c1 l.g → Ak wz p2 r.n c2 r.g → Ak wz p3 o.n c3 o.g → Ak wz p4 v.n c4 v.g → W.heap.size ≤ rb → wz.rangeAt rb 0 [.slice p1 l.n c1, .slice p2 r.n c2, .slice p3 o.n c3, .slice p4 v.n c4] → Q .normal ⟨al1S U x6 l r o v p1 c1 p2 c2 p3 c3 p4 c4 rb true true true true true true, []⟩ wz
section
variable {Q : Exit → Act → World → Prop} {x6 : Nat} {l r o v : Sl} {U : Nat → Value} {W : World}
theorem al1_7fff (H : al1h x6 l r o v W) (p1 : Option Addr) (c1 : Nat) (p2 : Option Addr) (c2 : Nat) (p3 : Option Addr) (c3 : Nat) (p4 : Option Addr) (c4 : Nat) (rb : Nat) (w : World) (listed : Array Bool) (hl : listed = #[true, true, true, true, true, true, true, true, true, true, true, true, true, true, true]) (A1 : Hid (Ak w p1 l.n c1 l.g)) (N1 : Hid (pn p1 rb)) (A2 : Hid (Ak w p2 r.n c2 r.g)) (N2 : Hid (pn p2 rb)) (A3 : Hid (Ak w p3 o.n c3 o.g)) (N3 : Hid (pn p3 rb)) (A4 : Hid (Ak w p4 v.n c4 v.g)) (N4 : Hid (pn p4 rb)) (RB : Hid (W.heap.size ≤ rb)) (FR : Hid (w.rangeAt rb 0 [.slice p1 l.n c1, .slice p2 r.n c2, .slice p3 o.n c3, .slice p4 v.n c4])) (HH : Hid (Below W.heap.size W w)) (HQ : Hid (al1f Q x6 l r o v U W)) : al1G Q x6 l r o v W 0 listed (al1S U x6 l r o v p1 c1 p2 c2 p3 c3 p4 c4 rb true true true true true true) w := by
 subst hl
 have H0 := H
 obtain ⟨x60, x61, x62, x63, R1, R2, R3, R4⟩ := H
 simp only [al1G, al1S, cond_true, cond_false]
 refine wpAnyH_done (by kernel_rfl) ?_ _
 refine NoPanic.normal ?_
 exact HQ.out _ p1 c1 p2 c2 p3 c3 p4 c4 rb HH.out A1.out A2.out A3.out A4.out RB.out FR.out
theorem al1_3fff (H : al1h x6 l r o v W) (p1 : Option Addr) (c1 : Nat) (p2 : Option Addr) (c2 : Nat) (p3 : Option Addr) (c3 : Nat) (p4 : Option Addr) (c4 : Nat) (rb : Nat) (w : World) (listed : Array Bool) (hl : listed = #[true, true, true, true, true, true, true, true, true, true, true, true, true, true, false]) (A1 : Hid (Ak w p1 l.n c1 l.g)) (N1 : Hid (pn p1 rb)) (A2 : Hid (Ak w p2 r.n c2 r.g)) (N2 : Hid (pn p2 rb)) (A3 : Hid (Ak w p3 o.n c3 o.g)) (N3 : Hid (pn p3 rb)) (A4 : Hid (Ak w p4 v.n c4 v.g)) (N4 : Hid (pn p4 rb)) (TH : Hid (w.there rb 0 4)) (RB : Hid (W.heap.size ≤ rb)) (HH : Hid (Below W.heap.size W w)) (HQ : Hid (al1f Q x6 l r o v U W)) : al1G Q x6 l r o v W 1 listed (al1S U x6 l r o v p1 c1 p2 c2 p3 c3 p4 c4 rb true true true true true true) w := by
 subst hl
 have H0 := H
 obtain ⟨x60, x61, x62, x63, R1, R2, R3, R4⟩ := H
 simp only [al1G, al1S, cond_true, cond_false]
 refine ar [14] ?_
 refine ac al114 (fun K hK => ?_) AllReadyH.nil
 refine wp_storeE 30 _ _ rfl rb 0 ([.slice p1 l.n c1, .slice p2 r.n c2, .slice p3 o.n c3, .slice p4 v.n c4]) (by rfl) (by rfl) TH.out i4a (by simp [Value.oneCell']) rfl (fun w2 hw => ?_)
 have SN := Hn (by rw [hw]; exact HH.out.grown (gb_setCells rb [.slice p1 l.n c1, .slice p2 r.n c2, .slice p3 o.n c3, .slice p4 v.n c4] 0 _) HH.out.size (fun k hk => by obtain rfl := Option.some.inj hk; exact RB.out) : Below W.heap.size W w2)
 have FR := Hn (by rw [hw]; exact World.rangeAt_setCells_same _ rb 0 _ TH.out : w2.rangeAt rb 0 [.slice p1 l.n c1, .slice p2 r.n c2, .slice p3 o.n c3, .slice p4 v.n c4])
 replace A1 := Hn (by rw [hw]; exact A1.out.oth (gb_setCells rb [.slice p1 l.n c1, .slice p2 r.n c2, .slice p3 o.n c3, .slice p4 v.n c4] 0 _) N1.out : Ak w2 p1 l.n c1 l.g)
 replace A2 := Hn (by rw [hw]; exact A2.out.oth (gb_setCells rb [.slice p1 l.n c1, .slice p2 r.n c2, .slice p3 o.n c3, .slice p4 v.n c4] 0 _) N2.out : Ak w2 p2 r.n c2 r.g)
 replace A3 := Hn (by rw [hw]; exact A3.out.oth (gb_setCells rb [.slice p1 l.n c1, .slice p2 r.n c2, .slice p3 o.n c3, .slice p4 v.n c4] 0 _) N3.out : Ak w2 p3 o.n c3 o.g)
 replace A4 := Hn (by rw [hw]; exact A4.out.oth (gb_setCells rb [.slice p1 l.n c1, .slice p2 r.n c2, .slice p3 o.n c3, .slice p4 v.n c4] 0 _) N4.out : Ak w2 p4 v.n c4 v.g)
 replace HH := SN
 clear SN TH hw
 refine hK.out _ _ HH.out (fun hH => ?_); clear hK K
 exact al1_7fff H0 p1 c1 p2 c2 p3 c3 p4 c4 rb w2 _ (by kernel_rfl) A1 N1 A2 N2 A3 N3 A4 N4 RB FR HH HQ
theorem al1_1fff (H : al1h x6 l r o v W) (p1 : Option Addr) (c1 : Nat) (p2 : Option Addr) (c2 : Nat) (p3 : Option Addr) (c3 : Nat) (p4 : Option Addr) (c4 : Nat) (w : World) (listed : Array Bool) (hl : listed = #[true, true, true, true, true, true, true, true, true, true, true, true, true, false, false]) (A1 : Hid (Ak w p1 l.n c1 l.g)) (A2 : Hid (Ak w p2 r.n c2 r.g)) (A3 : Hid (Ak w p3 o.n c3 o.g)) (A4 : Hid (Ak w p4 v.n c4 v.g)) (HH : Hid (Below W.heap.size W w)) (HQ : Hid (al1f Q x6 l r o v U W)) : al1G Q x6 l r o v W 2 listed (al1S U x6 l r o v p1 c1 p2 c2 p3 c3 p4 c4 0 true true true true true false) w := by
 subst hl
 have H0 := H
 obtain ⟨x60, x61, x62, x63, R1, R2, R3, R4⟩ := H
 simp only [al1G, al1S, cond_true, cond_false]
 refine ar [13] ?_
 refine ac al113 (fun K hK => ?_) AllReadyH.nil
 refine wp_a1 HH rfl (fun rb w2 hbb SN TH RB htb => ?_)
 have N1 := nAT A1 htb
 have N2 := nAT A2 htb
 have N3 := nAT A3 htb
 have N4 := nAT A4 htb
 replace A1 := kAk A1 hbb
 replace A2 := kAk A2 hbb
 replace A3 := kAk A3 hbb
 replace A4 := kAk A4 hbb
 replace HH := SN
 clear SN hbb htb
 unfold al113 oO
 simp only [Act.put, sA, sB, sC]
 refine hK.out _ _ HH.out (fun hH => ?_); clear hK K
 exact al1_3fff H0 p1 c1 p2 c2 p3 c3 p4 c4 rb w2 _ (by kernel_rfl) A1 N1 A2 N2 A3 N3 A4 N4 TH RB HH HQ
theorem al1_27ff (H : al1h x6 l r o v W) (p1 : Option Addr) (c1 : Nat) (p2 : Option Addr) (c2 : Nat) (p3 : Option Addr) (c3 : Nat) (rb : Nat) (w : World) (listed : Array Bool) (hl : listed = #[true, true, true, true, true, true, true, true, true, true, true, false, false, true, false]) (A1 : Hid (Ak w p1 l.n c1 l.g)) (N1 : Hid (pn p1 rb)) (A2 : Hid (Ak w p2 r.n c2 r.g)) (N2 : Hid (pn p2 rb)) (A3 : Hid (Ak w p3 o.n c3 o.g)) (N3 : Hid (pn p3 rb)) (TH : Hid (w.there rb 0 4)) (RB : Hid (W.heap.size ≤ rb)) (HH : Hid (Below W.heap.size W w)) (HQ : Hid (al1f Q x6 l r o v U W)) : al1G Q x6 l r o v W 3 listed (al1S U x6 l r o v p1 c1 p2 c2 p3 c3 none 0 rb true true true false false true) w := by
 subst hl
 have H0 := H
 obtain ⟨x60, x61, x62, x63, R1, R2, R3, R4⟩ := H
 simp only [al1G, al1S, cond_true, cond_false]
 refine ar [11] ?_
 refine ac al111 (fun K hK => ?_) AllReadyH.nil
 refine wp_cpS HH _ rfl v R4 rfl (fun p4 c4 w2 hbb SN A4 htb => ?_)
 have N4 := nTA TH htb
 replace A1 := kAk A1 hbb
 replace A2 := kAk A2 hbb
 replace A3 := kAk A3 hbb
 replace TH := kTH TH hbb
 replace HH := SN
 clear SN hbb htb
 unfold al111 oO
 simp only [Act.put, sA, sB, sC]
 refine hK.out _ _ HH.out (fun hH => ?_); clear hK K
 refine tj 12 al112 (.agg #[.slice p1 l.n c1, .slice p2 r.n c2, .slice p3 o.n c3, .slice p4 v.n c4]) hH (fun w0 hSw => ?_) ?_
 ·(unfold al112 oO; clear hSw; go_simp)
 unfold al112 oO
 simp only [Act.put, sA, sB, sC]
 exact al1_3fff H0 p1 c1 p2 c2 p3 c3 p4 c4 rb w2 _ (by kernel_rfl) A1 N1 A2 N2 A3 N3 A4 N4 TH RB HH HQ
theorem al1_26ff (H : al1h x6 l r o v W) (p1 : Option Addr) (c1 : Nat) (p2 : Option Addr) (c2 : Nat) (rb : Nat) (w : World) (listed : Array Bool) (hl : listed = #[true, true, true, true, true, true, true, true, false, true, true, false, false, true, false]) (A1 : Hid (Ak w p1 l.n c1 l.g)) (N1 : Hid (pn p1 rb)) (A2 : Hid (Ak w p2 r.n c2 r.g)) (N2 : Hid (pn p2 rb)) (TH : Hid (w.there rb 0 4)) (RB : Hid (W.heap.size ≤ rb)) (HH : Hid (Below W.heap.size W w)) (HQ : Hid (al1f Q x6 l r o v U W)) : al1G Q x6 l r o v W 4 listed (al1S U x6 l r o v p1 c1 p2 c2 none 0 none 0 rb true true false false false true) w := by
 subst hl
 have H0 := H
 obtain ⟨x60, x61, x62, x63, R1, R2, R3, R4⟩ := H
 simp only [al1G, al1S, cond_true, cond_false]
 refine ar [8] ?_
 refine ac al18 (fun K hK => ?_) AllReadyH.nil
 refine wp_cpS HH _ rfl o R3 rfl (fun p3 c3 w2 hbb SN A3 htb => ?_)
 have N3 := nTA TH htb
 replace A1 := kAk A1 hbb
 replace A2 := kAk A2 hbb
 replace TH := kTH TH hbb
 replace HH := SN
 clear SN hbb htb
 unfold al18 oO
 simp only [Act.put, sA, sB, sC]
 refine hK.out _ _ HH.out (fun hH => ?_); clear hK K
 exact al1_27ff H0 p1 c1 p2 c2 p3 c3 rb w2 _ (by kernel_rfl) A1 N1 A2 N2 A3 N3 TH RB HH HQ
theorem al1_7ff (H : al1h x6 l r o v W) (p1 : Option Addr) (c1 : Nat) (p2 : Option Addr) (c2 : Nat) (p3 : Option Addr) (c3 : Nat) (w : World) (listed : Array Bool) (hl : listed = #[true, true, true, true, true, true, true, true, true, true, true, false, false, false, false]) (A1 : Hid (Ak w p1 l.n c1 l.g)) (A2 : Hid (Ak w p2 r.n c2 r.g)) (A3 : Hid (Ak w p3 o.n c3 o.g)) (HH : Hid (Below W.heap.size W w)) (HQ : Hid (al1f Q x6 l r o v U W)) : al1G Q x6 l r o v W 4 listed (al1S U x6 l r o v p1 c1 p2 c2 p3 c3 none 0 0 true true true false false false) w := by
 subst hl
 have H0 := H
 obtain ⟨x60, x61, x62, x63, R1, R2, R3, R4⟩ := H
 simp only [al1G, al1S, cond_true, cond_false]
 refine ar [11, 13] ?_
 refine ac al111 (fun K hK => ?_) (ac al113 (fun K hK => ?_) AllReadyH.nil)
 ·refine wp_cpS HH _ rfl v R4 rfl (fun p4 c4 w2 hbb SN A4 htb => ?_)
  replace A1 := kAk A1 hbb
  replace A2 := kAk A2 hbb
  replace A3 := kAk A3 hbb
  replace HH := SN
  clear SN hbb htb
  unfold al111 oO
  simp only [Act.put, sA, sB, sC]
  refine hK.out _ _ HH.out (fun hH => ?_); clear hK K
  refine tj 12 al112 (.agg #[.slice p1 l.n c1, .slice p2 r.n c2, .slice p3 o.n c3, .slice p4 v.n c4]) hH (fun w0 hSw => ?_) ?_
  ·(unfold al112 oO; clear hSw; go_simp)
  unfold al112 oO
  simp only [Act.put, sA, sB, sC]
  exact al1_1fff H0 p1 c1 p2 c2 p3 c3 p4 c4 w2 _ (by kernel_rfl) A1 A2 A3 A4 HH HQ
 ·refine wp_a1 HH rfl (fun rb w2 hbb SN TH RB htb => ?_)
  have N1 := nAT A1 htb
  have N2 := nAT A2 htb
  have N3 := nAT A3 htb
  replace A1 := kAk A1 hbb
  replace A2 := kAk A2 hbb
  replace A3 := kAk A3 hbb
  replace HH := SN
  clear SN hbb htb
  unfold al113 oO
  simp only [Act.put, sA, sB, sC]
  refine hK.out _ _ HH.out (fun hH => ?_); clear hK K
  exact al1_27ff H0 p1 c1 p2 c2 p3 c3 rb w2 _ (by kernel_rfl) A1 N1 A2 N2 A3 N3 TH RB HH HQ
theorem al1_26df (H : al1h x6 l r o v W) (p1 : Option Addr) (c1 : Nat) (rb : Nat) (w : World) (listed : Array Bool) (hl : listed = #[true, true, true, true, true, false, true, true, false, true, true, false, false, true, false]) (A1 : Hid (Ak w p1 l.n c1 l.g)) (N1 : Hid (pn p1 rb)) (TH : Hid (w.there rb 0 4)) (RB : Hid (W.heap.size ≤ rb)) (HH : Hid (Below W.heap.size W w)) (HQ : Hid (al1f Q x6 l r o v U W)) : al1G Q x6 l r o v W 5 listed (al1S U x6 l r o v p1 c1 none 0 none 0 none 0 rb true false false false false true) w := by
 subst hl
 have H0 := H
 obtain ⟨x60, x61, x62, x63, R1, R2, R3, R4⟩ := H
 simp only [al1G, al1S, cond_true, cond_false]
 refine ar [5] ?_
 refine ac al15 (fun K hK => ?_) AllReadyH.nil
 refine wp_cpS HH _ rfl r R2 rfl (fun p2 c2 w2 hbb SN A2 htb => ?_)
 have N2 := nTA TH htb
 replace A1 := kAk A1 hbb
 replace TH := kTH TH hbb
 replace HH := SN
 clear SN hbb htb
 unfold al15 oO
 simp only [Act.put, sA, sB, sC]
 refine hK.out _ _ HH.out (fun hH => ?_); clear hK K
 exact al1_26ff H0 p1 c1 p2 c2 rb w2 _ (by kernel_rfl) A1 N1 A2 N2 TH RB HH HQ
theorem al1_6ff (H : al1h x6 l r o v W) (p1 : Option Addr) (c1 : Nat) (p2 : Option Addr) (c2 : Nat) (w : World) (listed : Array Bool) (hl : listed = #[true, true, true, true, true, true, true, true, false, true, true, false, false, false, false]) (A1 : Hid (Ak w p1 l.n c1 l.g)) (A2 : Hid (Ak w p2 r.n c2 r.g)) (HH : Hid (Below W.heap.size W w)) (HQ : Hid (al1f Q x6 l r o v U W)) : al1G Q x6 l r o v W 5 listed (al1S U x6 l r o v p1 c1 p2 c2 none 0 none 0 0 true true false false false false) w := by
 subst hl
 have H0 := H
 obtain ⟨x60, x61, x62, x63, R1, R2, R3, R4⟩ := H
 simp only [al1G, al1S, cond_true, cond_false]
 refine ar [8, 13] ?_
 refine ac al18 (fun K hK => ?_) (ac al113 (fun K hK => ?_) AllReadyH.nil)
 ·refine wp_cpS HH _ rfl o R3 rfl (fun p3 c3 w2 hbb SN A3 htb => ?_)
  replace A1 := kAk A1 hbb
  replace A2 := kAk A2 hbb
  replace HH := SN
  clear SN hbb htb
  unfold al18 oO
  simp only [Act.put, sA, sB, sC]
  refine hK.out _ _ HH.out (fun hH => ?_); clear hK K
  exact al1_7ff H0 p1 c1 p2 c2 p3 c3 w2 _ (by kernel_rfl) A1 A2 A3 HH HQ
 ·refine wp_a1 HH rfl (fun rb w2 hbb SN TH RB htb => ?_)
  have N1 := nAT A1 htb
  have N2 := nAT A2 htb
  replace A1 := kAk A1 hbb
  replace A2 := kAk A2 hbb
  replace HH := SN
  clear SN hbb htb
  unfold al113 oO
  simp only [Act.put, sA, sB, sC]
  refine hK.out _ _ HH.out (fun hH => ?_); clear hK K
  exact al1_26ff H0 p1 c1 p2 c2 rb w2 _ (by kernel_rfl) A1 N1 A2 N2 TH RB HH HQ
theorem al1_26db (H : al1h x6 l r o v W) (rb : Nat) (w : World) (listed : Array Bool) (hl : listed = #[true, true, false, true, true, false, true, true, false, true, true, false, false, true, false]) (TH : Hid (w.there rb 0 4)) (RB : Hid (W.heap.size ≤ rb)) (HH : Hid (Below W.heap.size W w)) (HQ : Hid (al1f Q x6 l r o v U W)) : al1G Q x6 l r o v W 6 listed (al1S U x6 l r o v none 0 none 0 none 0 none 0 rb false false false false false true) w := by
 subst hl
 have H0 := H
 obtain ⟨x60, x61, x62, x63, R1, R2, R3, R4⟩ := H
 simp only [al1G, al1S, cond_true, cond_false]
 refine ar [2] ?_
 refine ac al12 (fun K hK => ?_) AllReadyH.nil
 refine wp_cpS HH _ rfl l R1 rfl (fun p1 c1 w2 hbb SN A1 htb => ?_)
 have N1 := nTA TH htb
 replace TH := kTH TH hbb
 replace HH := SN
 clear SN hbb htb
 unfold al12 oO
 simp only [Act.put, sA, sB, sC]
 refine hK.out _ _ HH.out (fun hH => ?_); clear hK K
 exact al1_26df H0 p1 c1 rb w2 _ (by kernel_rfl) A1 N1 TH RB HH HQ
theorem al1_6df (H : al1h x6 l r o v W) (p1 : Option Addr) (c1 : Nat) (w : World) (listed : Array Bool) (hl : listed = #[true, true, true, true, true, false, true, true, false, true, true, false, false, false, false]) (A1 : Hid (Ak w p1 l.n c1 l.g)) (HH : Hid (Below W.heap.size W w)) (HQ : Hid (al1f Q x6 l r o v U W)) : al1G Q x6 l r o v W 6 listed (al1S U x6 l r o v p1 c1 none 0 none 0 none 0 0 true false false false false false) w := by
 subst hl
 have H0 := H
 obtain ⟨x60, x61, x62, x63, R1, R2, R3, R4⟩ := H
 simp only [al1G, al1S, cond_true, cond_false]
 refine ar [5, 13] ?_
 refine ac al15 (fun K hK => ?_) (ac al113 (fun K hK => ?_) AllReadyH.nil)
 ·refine wp_cpS HH _ rfl r R2 rfl (fun p2 c2 w2 hbb SN A2 htb => ?_)
  replace A1 := kAk A1 hbb
  replace HH := SN
  clear SN hbb htb
  unfold al15 oO
  simp only [Act.put, sA, sB, sC]
  refine hK.out _ _ HH.out (fun hH => ?_); clear hK K
  exact al1_6ff H0 p1 c1 p2 c2 w2 _ (by kernel_rfl) A1 A2 HH HQ
 ·refine wp_a1 HH rfl (fun rb w2 hbb SN TH RB htb => ?_)
  have N1 := nAT A1 htb
  replace A1 := kAk A1 hbb
  replace HH := SN
  clear SN hbb htb
  unfold al113 oO
  simp only [Act.put, sA, sB, sC]
  refine hK.out _ _ HH.out (fun hH => ?_); clear hK K
  exact al1_26df H0 p1 c1 rb w2 _ (by kernel_rfl) A1 N1 TH RB HH HQ
theorem al1_6db (H : al1h x6 l r o v W)  (w : World) (listed : Array Bool) (hl : listed = #[true, true, false, true, true, false, true, true, false, true, true, false, false, false, false])  (HH : Hid (Below W.heap.size W w)) (HQ : Hid (al1f Q x6 l r o v U W)) : al1G Q x6 l r o v W 7 listed (al1S U x6 l r o v none 0 none 0 none 0 none 0 0 false false false false false false) w := by
 subst hl
 have H0 := H
 obtain ⟨x60, x61, x62, x63, R1, R2, R3, R4⟩ := H
 simp only [al1G, al1S, cond_true, cond_false]
 refine ar [2, 13] ?_
 refine ac al12 (fun K hK => ?_) (ac al113 (fun K hK => ?_) AllReadyH.nil)
 ·refine wp_cpS HH _ rfl l R1 rfl (fun p1 c1 w2 hbb SN A1 htb => ?_)
  replace HH := SN
  clear SN hbb htb
  unfold al12 oO
  simp only [Act.put, sA, sB, sC]
  refine hK.out _ _ HH.out (fun hH => ?_); clear hK K
  exact al1_6df H0 p1 c1 w2 _ (by kernel_rfl) A1 HH HQ
 ·refine wp_a1 HH rfl (fun rb w2 hbb SN TH RB htb => ?_)
  replace HH := SN
  clear SN hbb htb
  unfold al113 oO
  simp only [Act.put, sA, sB, sC]
  refine hK.out _ _ HH.out (fun hH => ?_); clear hK K
  exact al1_26db H0 rb w2 _ (by kernel_rfl) TH RB HH HQ
end
theorem al1 (Q : Exit → Act → World → Prop) (x6 : Nat) (l r o v : Sl) (u0 u1 u2 u3 u4 u5 u7 u8 u9 aa ab ad ae af ag ah ai aj ak al am an ao ap aq au av aw ax ay az aA aB aC aD aE aF aG aH aI aJ aK aL aM aN aO aP aQ aR aS aT aU aV aW aX aY aZ a1 a2 a3 a4 a5 a6 a7 a8 a9 ba bb bc bd be bg bh bi bj bk bl bm bn bo bp bq br bs bt bu bv bw bx bz bA bB : Value) (W : World) (H : al1h x6 l r o v W)
  (HQ : Hid (∀ (wz : World) (p1 : Option Addr) (c1 : Nat) (p2 : Option Addr) (c2 : Nat) (p3 : Option Addr) (c3 : Nat) (p4 : Option Addr) (c4 : Nat) (rb : Nat), Below W.heap.size W wz → Ak wz p1 l.n c1 l.g → Ak wz p2 r.n c2 r.g → Ak wz p3 o.n c3 o.g → Ak wz p4 v.n c4 v.g → W.heap.size ≤ rb → wz.rangeAt rb 0 [.slice p1 l.n c1, .slice p2 r.n c2, .slice p3 o.n c3, .slice p4 v.n c4] → Q .normal ⟨#[u0, u1, u2, u3, u4, u5, .pointer (some ⟨x6, 0, none⟩), u7, u8, u9, aa, .pointer (some ⟨rb, 0, none⟩), ad, ae, af, ag, .pointer (some ⟨x6, 0, none⟩), .slice l.p l.n l.c, .slice p1 l.n c1, .pointer (some ⟨x6, 1, none⟩), .slice r.p r.n r.c, .slice p2 r.n c2, .pointer (some ⟨x6, 2, none⟩), .slice o.p o.n o.c, .slice p3 o.n c3, .pointer (some ⟨x6, 3, none⟩), .slice v.p v.n v.c, .slice p4 v.n c4, .agg #[.slice p1 l.n c1, .slice p2 r.n c2, .slice p3 o.n c3, .slice p4 v.n c4], ax, ay, az, aA, aB, aC, aD, aE, aF, aG, aH, aI, aJ, aK, aL, aM, aN, aO, aP, aQ, aR, aS, aT, aU, aV, aW, aX, aY, aZ, a1, a2, a3, a4, a5, a6, a7, a8, a9, ba, bb, bc, bd, be, bg, bh, bi, bj, bk, bl, bm, bn, bo, bp, bq, br, bs, bt, bu, bv, bw, bx, bz, bA, bB], []⟩ wz)) : (Code.region 1 al1o true).wp Tryz.prog Q ⟨#[u0, u1, u2, u3, u4, u5, .pointer (some ⟨x6, 0, none⟩), u7, u8, u9, aa, ab, ad, ae, af, ag, ah, ai, aj, ak, al, am, an, ao, ap, aq, au, av, aw, ax, ay, az, aA, aB, aC, aD, aE, aF, aG, aH, aI, aJ, aK, aL, aM, aN, aO, aP, aQ, aR, aS, aT, aU, aV, aW, aX, aY, aZ, a1, a2, a3, a4, a5, a6, a7, a8, a9, ba, bb, bc, bd, be, bg, bh, bi, bj, bk, bl, bm, bn, bo, bp, bq, br, bs, bt, bu, bv, bw, bx, bz, bA, bB], []⟩ W := by
 have H0 := H
 obtain ⟨x60, x61, x62, x63, R1, R2, R3, R4⟩ := H
 replace HQ : Hid (al1f Q x6 l r o v (nth [u0, u1, u2, u3, u4, u5, undef, u7, u8, u9, aa, ab, ad, ae, af, ag, ah, ai, aj, ak, al, am, an, ao, ap, aq, au, av, aw, ax, ay, az, aA, aB, aC, aD, aE, aF, aG, aH, aI, aJ, aK, aL, aM, aN, aO, aP, aQ, aR, aS, aT, aU, aV, aW, aX, aY, aZ, a1, a2, a3, a4, a5, a6, a7, a8, a9, ba, bb, bc, bd, be, bg, bh, bi, bj, bk, bl, bm, bn, bo, bp, bq, br, bs, bt, bu, bv, bw, bx, bz, bA, bB]) W) := HQ
 refine wp_region_noPanic ?_
 refine wp_region_held_drew (S := fun x => Below W.heap.size W x) (by kernel_rfl) (bl_drew W) (fun hH => ?_)
 have HH := Hn hH
 refine tj 0 al10 (.pointer (some ⟨x6, 0, none⟩)) hH (fun w0 hSw => ?_) ?_
 ·(unfold al10 oO; clear hSw; go_simp)
 unfold al10 oO
 simp only [Act.put, sA, sB, sC]
 refine tj 3 al13 (.pointer (some ⟨x6, 1, none⟩)) hH (fun w0 hSw => ?_) ?_
 ·(unfold al13 oO; clear hSw; go_simp)
 unfold al13 oO
 simp only [Act.put, sA, sB, sC]
 refine tj 6 al16 (.pointer (some ⟨x6, 2, none⟩)) hH (fun w0 hSw => ?_) ?_
 ·(unfold al16 oO; clear hSw; go_simp)
 unfold al16 oO
 simp only [Act.put, sA, sB, sC]
 refine tj 9 al19 (.pointer (some ⟨x6, 3, none⟩)) hH (fun w0 hSw => ?_) ?_
 ·(unfold al19 oO; clear hSw; go_simp)
 unfold al19 oO
 simp only [Act.put, sA, sB, sC]
 refine tj 1 al11 (.slice l.p l.n l.c) hH (fun w0 hSw => ?_) ?_
 ·(unfold al11 oO; have hS : Below W.heap.size W w0 := hSw; have a0 := cell_keep x60 hS; clear hS hSw; go_simp)
 unfold al11 oO
 simp only [Act.put, sA, sB, sC]
 refine tj 4 al14 (.slice r.p r.n r.c) hH (fun w0 hSw => ?_) ?_
 ·(unfold al14 oO; have hS : Below W.heap.size W w0 := hSw; have a0 := cell_keep x61 hS; clear hS hSw; go_simp)
 unfold al14 oO
 simp only [Act.put, sA, sB, sC]
 refine tj 7 al17 (.slice o.p o.n o.c) hH (fun w0 hSw => ?_) ?_
 ·(unfold al17 oO; have hS : Below W.heap.size W w0 := hSw; have a0 := cell_keep x62 hS; clear hS hSw; go_simp)
 unfold al17 oO
 simp only [Act.put, sA, sB, sC]
 refine tj 10 al110 (.slice v.p v.n v.c) hH (fun w0 hSw => ?_) ?_
 ·(unfold al110 oO; have hS : Below W.heap.size W w0 := hSw; have a0 := cell_keep x63 hS; clear hS hSw; go_simp)
 unfold al110 oO
 simp only [Act.put, sA, sB, sC]
 exact al1_6db H0  W.drew _ (by kernel_rfl)  HH HQ
end Ci
end Go.Proofs.YthngomhhafoamaaGreatDoor
