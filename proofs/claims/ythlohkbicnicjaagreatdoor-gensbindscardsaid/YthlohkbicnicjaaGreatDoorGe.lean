import Derived.Test.YthlohkbicnicjaaGreatDoorGd
namespace Go.Proofs.YthlohkbicnicjaaGreatDoor
open Go.RowKit
/-- a slice -/
def isSl (v : Value) : Prop := ∃ (P : Option Addr) (l c : Nat), v = .slice P l c
theorem Uv.sl {B : Nat} {w : World} {v : Value} {p : Nat} (h : Uv B w (.agg #[v]) p) : isSl v := by
  obtain ⟨b, h1, _, _⟩ := h
  simp only [Value.agg.injEq, Array.mk.injEq, List.cons.injEq, and_true] at h1
  exact ⟨_, _, _, h1⟩
theorem rl_ne {w : World} {b g n m : Nat} {f : Nat → Value} {u : Nat → E4} (hm : 0 < m) (h : Rl w b 0 m u) (hn : 0 < n) (hg : Gs w g n f) (hs : isSl (f 0)) : g ≠ b := by
  rintro rfl
  have h1 := h.c0 0 hm
  have h2 := hg.c 0 hn
  obtain ⟨P, l, c, e⟩ := hs
  rw [Nat.zero_mul, Nat.add_zero] at h1
  rw [h1, e] at h2
  simp at h2
theorem Uv.far {B : Nat} {w : World} {v : Value} {p g n k : Nat} {f : Nat → Value} (h : Uv B w v p) (hn : 0 < n) (hg : Gs w g n f) (hs : isSl (f 0)) (x : Value) : Uv B (w.setCell ⟨g, k, none⟩ x) v p := by
  obtain ⟨b, h1, h2, h3⟩ := h
  exact ⟨b, h1, h2, h3.far x (rl_ne (by omega) h3 hn hg hs)⟩
/-- the cells of the set -/
def c5 (b0 b1 b2 g1 g2 n : Nat) : Nat → Value
  | 0 => .slice (some ⟨b0, 0, none⟩) 1 1 | 1 => .slice (some ⟨b1, 0, none⟩) 2 2 | 2 => .slice (some ⟨b2, 0, none⟩) 3 3 | 3 => .slice (some ⟨g1, 0, none⟩) n n | _ => .slice (some ⟨g2, 0, none⟩) n n
theorem there_one {w : World} {b k : Nat} {v : Value} (h : w.cell? ⟨b, k, none⟩ = some v) (hf : w.frozen? ⟨b, k, none⟩ = false) : w.there b k 1 := fun j hj => by
  obtain rfl : j = 0 := by omega
  exact ⟨by rw [Nat.add_zero, h]; rfl, by rw [Nat.add_zero]; exact hf⟩
/-- the set, with k of its generators -/
structure Sg (B : Nat) (w : World) (b0 b1 b2 g1 g2 s n k : Nat) : Prop where
  q0 : B ≤ b0
  q1 : B ≤ b1
  q2 : B ≤ b2
  p1 : B ≤ g1
  p2 : B ≤ g2
  p3 : B ≤ s
  r0 : Rl w b0 0 1 (uf 0)
  r1 : Rl w b1 0 2 (uf 1)
  r2 : Rl w b2 0 3 (uf 2)
  f : ∃ f1 f2 : Nat → Value, Gs w g1 n f1 ∧ Gs w g2 n f2 ∧ (∀ j, j < n → isSl (f1 j) ∧ isSl (f2 j)) ∧ ∀ j, j < k → Uv B w (.agg #[f1 j]) (3 + j) ∧ Uv B w (.agg #[f2 j]) (3 + n + j)
  gs : Gs w s 5 (c5 b0 b1 b2 g1 g2 n)
  d12 : g1 ≠ g2
  d1s : g1 ≠ s
  d2s : g2 ≠ s
theorem Sg.keep {B : Nat} {w w' : World} {b0 b1 b2 g1 g2 s n k : Nat} (h : Sg B w b0 b1 b2 g1 g2 s n k) (hb : Below w.heap.size w w') : Sg B w' b0 b1 b2 g1 g2 s n k := by
  obtain ⟨f1, f2, a1, a2, a3, a4⟩ := h.f
  exact ⟨h.q0, h.q1, h.q2, h.p1, h.p2, h.p3, h.r0.keep hb, h.r1.keep hb, h.r2.keep hb, ⟨f1, f2, a1.keep hb, a2.keep hb, a3, fun j hj => ⟨(a4 j hj).1.keep hb, (a4 j hj).2.keep hb⟩⟩, h.gs.keep hb, h.d12, h.d1s, h.d2s⟩
theorem Sg.step {B : Nat} {w : World} {b0 b1 b2 g1 g2 s n k : Nat} (h : Sg B w b0 b1 b2 g1 g2 s n k) (hk : k < n) {c1 c2 : Value} (u1 : Uv B w (.agg #[c1]) (3 + k)) (u2 : Uv B w (.agg #[c2]) (3 + n + k)) :
    Sg B ((w.setCell ⟨g1, k, none⟩ c1).setCell ⟨g2, k, none⟩ c2) b0 b1 b2 g1 g2 s n (k + 1) := by
  obtain ⟨f1, f2, a1, a2, a3, a4⟩ := h.f
  have n0 : 0 < n := by omega
  have s1 := (a3 0 n0).1
  have s2 := (a3 0 n0).2
  have a2' := a2.far (a := ⟨g1, k, none⟩) c1 h.d12
  have a1' := (a1.set k hk c1).far (a := ⟨g2, k, none⟩) c2 (Ne.symm h.d12)
  have a2'' := a2'.set k hk c2
  have tr : ∀ {v : Value} {p : Nat}, Uv B w v p → Uv B ((w.setCell ⟨g1, k, none⟩ c1).setCell ⟨g2, k, none⟩ c2) v p := fun hu => (hu.far n0 a1 s1 c1).far n0 a2' s2 c2
  have tl : ∀ {b m : Nat} {u : Nat → E4}, 0 < m → Rl w b 0 m u → Rl ((w.setCell ⟨g1, k, none⟩ c1).setCell ⟨g2, k, none⟩ c2) b 0 m u := fun hm hr => (hr.far c1 (rl_ne hm hr n0 a1 s1)).far c2 (rl_ne hm hr n0 a2 s2)
  refine ⟨h.q0, h.q1, h.q2, h.p1, h.p2, h.p3, tl (by omega) h.r0, tl (by omega) h.r1, tl (by omega) h.r2, ⟨_, _, a1', a2'', fun j hj => ?_, fun j hj => ?_⟩, (h.gs.far c1 h.d1s).far c2 h.d2s, h.d12, h.d1s, h.d2s⟩
  · by_cases ej : j = k
    · simp only [if_pos ej]; exact ⟨u1.sl, u2.sl⟩
    · simp only [if_neg ej]; exact a3 j hj
  · by_cases ej : j = k
    · subst ej
      simp only [if_pos]
      exact ⟨tr u1, tr u2⟩
    · simp only [if_neg ej]
      exact ⟨tr (a4 j (by omega)).1, tr (a4 j (by omega)).2⟩
theorem Sg.start {w0 w : World} {b0 b1 b2 g1 g2 s n : Nat} (q0 : w0.heap.size ≤ b0) (q1 : w0.heap.size ≤ b1) (q2 : w0.heap.size ≤ b2) (p1 : w0.heap.size ≤ g1) (p2 : w0.heap.size ≤ g2) (p3 : w0.heap.size ≤ s) (hu0 : Rl w b0 0 1 (uf 0)) (hu1 : Rl w b1 0 2 (uf 1)) (hu2 : Rl w b2 0 3 (uf 2)) (hm1 : Gs w g1 n (fun _ => .slice none 0 0)) (hm2 : Gs w g2 n (fun _ => .slice none 0 0)) (hal : Gs w s 5 (fun _ => .slice none 0 0)) (d12 : g1 ≠ g2) (d1a : g1 ≠ s) (d2a : g2 ≠ s) :
    Sg w0.heap.size (sw5 w s (c5 b0 b1 b2 g1 g2 n 0) (c5 b0 b1 b2 g1 g2 n 1) (c5 b0 b1 b2 g1 g2 n 2) (c5 b0 b1 b2 g1 g2 n 3) (c5 b0 b1 b2 g1 g2 n 4)) b0 b1 b2 g1 g2 s n 0 := by
  have sl : isSl (Value.slice none 0 0) := ⟨_, _, _, rfl⟩
  unfold sw5
  have tl : ∀ {b m : Nat} {u : Nat → E4} (v0 v1 v2 v3 v4 : Value), 0 < m → Rl w b 0 m u → Rl (((((w.setCell ⟨s, 0, none⟩ v0).setCell ⟨s, 1, none⟩ v1).setCell ⟨s, 2, none⟩ v2).setCell ⟨s, 3, none⟩ v3).setCell ⟨s, 4, none⟩ v4) b 0 m u := fun v0 v1 v2 v3 v4 hm hr => by
    have ne := rl_ne hm hr (by omega) hal sl
    exact ((((hr.far v0 ne).far v1 ne).far v2 ne).far v3 ne).far v4 ne
  refine ⟨q0, q1, q2, p1, p2, p3, tl _ _ _ _ _ (by omega) hu0, tl _ _ _ _ _ (by omega) hu1, tl _ _ _ _ _ (by omega) hu2, ⟨_, _, ((((hm1.far _ (Ne.symm d1a)).far _ (Ne.symm d1a)).far _ (Ne.symm d1a)).far _ (Ne.symm d1a)).far _ (Ne.symm d1a), ((((hm2.far _ (Ne.symm d2a)).far _ (Ne.symm d2a)).far _ (Ne.symm d2a)).far _ (Ne.symm d2a)).far _ (Ne.symm d2a), fun j hj => ⟨sl, sl⟩, fun j hj => absurd hj (by omega)⟩, ?_, d12, d1a, d2a⟩
  have q := ((((hal.set 0 (by omega) (c5 b0 b1 b2 g1 g2 n 0)).set 1 (by omega) (c5 b0 b1 b2 g1 g2 n 1)).set 2 (by omega) (c5 b0 b1 b2 g1 g2 n 2)).set 3 (by omega) (c5 b0 b1 b2 g1 g2 n 3)).set 4 (by omega) (c5 b0 b1 b2 g1 g2 n 4)
  refine ⟨q.lt, fun j hj => (q.c j hj).trans ?_, q.fr⟩
  match j, hj with
  | 0, _ => rfl | 1, _ => rfl | 2, _ => rfl | 3, _ => rfl | 4, _ => rfl
theorem Sg.under {B : Nat} {w : World} {b0 b1 b2 g1 g2 s n k : Nat} (h : Sg B w b0 b1 b2 g1 g2 s n k) {a : Addr} (ha : a.block < B) (v : Value) : Sg B (w.setCell a v) b0 b1 b2 g1 g2 s n k := by
  obtain ⟨f1, f2, a1, a2, a3, a4⟩ := h.f
  have q0 := h.q0; have q1 := h.q1; have q2 := h.q2; have p1 := h.p1; have p2 := h.p2; have p3 := h.p3
  have tr : ∀ {v' : Value} {p : Nat}, Uv B w v' p → Uv B (w.setCell a v) v' p := fun hu => by
    obtain ⟨b, h1, h2, h3⟩ := hu
    exact ⟨b, h1, h2, h3.far v (by omega)⟩
  exact ⟨h.q0, h.q1, h.q2, h.p1, h.p2, h.p3, h.r0.far v (by omega), h.r1.far v (by omega), h.r2.far v (by omega), ⟨f1, f2, a1.far v (by omega), a2.far v (by omega), a3, fun j hj => ⟨tr (a4 j hj).1, tr (a4 j hj).2⟩⟩, h.gs.far v (by omega), h.d12, h.d1s, h.d2s⟩
theorem Sg.less {B C : Nat} {w : World} {b0 b1 b2 g1 g2 s n k : Nat} (h : Sg B w b0 b1 b2 g1 g2 s n k) (hc : C ≤ B) : Sg C w b0 b1 b2 g1 g2 s n k := by
  obtain ⟨f1, f2, a1, a2, a3, a4⟩ := h.f
  exact ⟨Nat.le_trans hc h.q0, Nat.le_trans hc h.q1, Nat.le_trans hc h.q2, Nat.le_trans hc h.p1, Nat.le_trans hc h.p2, Nat.le_trans hc h.p3, h.r0, h.r1, h.r2, ⟨f1, f2, a1, a2, a3, fun j hj => ⟨(a4 j hj).1.less hc, (a4 j hj).2.less hc⟩⟩, h.gs, h.d12, h.d1s, h.d2s⟩
set_option maxRecDepth 100000 in
set_option maxHeartbeats 4000000 in
theorem setOf_no (n : Int) (v : Value) (w : World) (hn : n < 0 ∨ 64 < n) :
    Calls Tryz.prog 12 #[.int .i64 n, .int .i64 64, v] w fun e w' => e = .returned (.tuple #[.agg #[.slice none 0 0, .slice none 0 0, .slice none 0 0, .slice none 0 0, .slice none 0 0], .int .i64 1]) ∧ Below w.heap.size w w' := by
  by_cases h1 : n < 0
  · go_enter Tryz.func12, Tryz.ntmps12
    go_wp2_with fail
    refine bodyPost_ret (v := .tuple #[.agg #[.slice none 0 0, .slice none 0 0, .slice none 0 0, .slice none 0 0, .slice none 0 0], .int .i64 1]) (by simp [results, Tryz.results12, go_sem]) rfl ⟨rfl, bl_alloc w _⟩
  · have h2 : n > 64 := by omega
    go_enter Tryz.func12, Tryz.ntmps12
    go_wp2_with fail
    refine bodyPost_ret (v := .tuple #[.agg #[.slice none 0 0, .slice none 0 0, .slice none 0 0, .slice none 0 0, .slice none 0 0], .int .i64 1]) (by simp [results, Tryz.results12, go_sem]) rfl ⟨rfl, bl_alloc w _⟩
/-- the operations of a round -/
def so7 : Array Oper := #[{ dst := some 33, op := Op.fieldAddr 30 (Operand.tmp 8) 3, type := 0, pos := "gens.go:29", after := #[], guard := none },
  { dst := some 34, op := Op.load 28 (Operand.tmp 33), type := 28, pos := "gens.go:29", after := #[{ on := 0, ground := Ground.data }], guard := none },
  { dst := some 35, op := Op.move (Operand.tmp 9), type := 3, pos := "gens.go:29", after := #[], guard := none },
  { dst := some 36, op := Op.fieldAddr 30 (Operand.tmp 8) 4, type := 0, pos := "gens.go:29", after := #[{ on := 13, ground := Ground.gcOnly Departure.lateStores }], guard := none },
  { dst := some 37, op := Op.load 28 (Operand.tmp 36), type := 28, pos := "gens.go:29", after := #[{ on := 3, ground := Ground.data }, { on := 13, ground := Ground.gcOnly Departure.lateStores }], guard := none },
  { dst := some 38, op := Op.move (Operand.tmp 9), type := 3, pos := "gens.go:29", after := #[{ on := 13, ground := Ground.gcOnly Departure.lateStores }], guard := none },
  { dst := some 39, op := Op.move (Operand.tmp 2), type := 48, pos := "gens.go:29", after := #[], guard := none },
  { dst := some 40, op := Op.move (Operand.tmp 9), type := 3, pos := "gens.go:29", after := #[], guard := none },
  { dst := some 41, op := Op.call { callee := Callee.value (Operand.tmp 39), args := #[Operand.const (Value.int IntKind.i64 4), Operand.tmp 40], argTypes := #[3, 3] }, type := 27, pos := "gens.go:29", after := #[{ on := 6, ground := Ground.data }, { on := 7, ground := Ground.data }], guard := none },
  { dst := some 42, op := Op.move (Operand.tmp 2), type := 48, pos := "gens.go:29", after := #[], guard := none },
  { dst := some 43, op := Op.move (Operand.tmp 9), type := 3, pos := "gens.go:29", after := #[], guard := none },
  { dst := some 44, op := Op.call { callee := Callee.value (Operand.tmp 42), args := #[Operand.const (Value.int IntKind.i64 5), Operand.tmp 43], argTypes := #[3, 3] }, type := 27, pos := "gens.go:29", after := #[{ on := 9, ground := Ground.data }, { on := 10, ground := Ground.data }, { on := 8, ground := Ground.chain }], guard := none },
  { dst := some 45, op := Op.indexAddr 28 (Operand.tmp 34) (Operand.tmp 35), type := 0, pos := "gens.go:29", after := #[{ on := 1, ground := Ground.data }, { on := 2, ground := Ground.data }, { on := 0, ground := Ground.phase }, { on := 1, ground := Ground.phase }, { on := 2, ground := Ground.phase }, { on := 3, ground := Ground.textOnly Departure.lateStores }, { on := 4, ground := Ground.textOnly Departure.lateStores }, { on := 5, ground := Ground.textOnly Departure.lateStores }, { on := 6, ground := Ground.phase }, { on := 7, ground := Ground.phase }, { on := 8, ground := Ground.phase }, { on := 9, ground := Ground.textOnly Departure.lateStores }, { on := 10, ground := Ground.textOnly Departure.lateStores }, { on := 11, ground := Ground.phase }], guard := none },
  { dst := none, op := Op.store 27 (Operand.tmp 45) (Operand.tmp 41), type := 0, pos := "gens.go:29", after := #[{ on := 12, ground := Ground.data }, { on := 8, ground := Ground.data }, { on := 11, ground := Ground.chain }, { on := 0, ground := Ground.phase }, { on := 1, ground := Ground.phase }, { on := 2, ground := Ground.phase }, { on := 3, ground := Ground.textOnly Departure.lateStores }, { on := 4, ground := Ground.textOnly Departure.lateStores }, { on := 5, ground := Ground.textOnly Departure.lateStores }, { on := 6, ground := Ground.phase }, { on := 7, ground := Ground.phase }, { on := 8, ground := Ground.phase }, { on := 9, ground := Ground.textOnly Departure.lateStores }, { on := 10, ground := Ground.textOnly Departure.lateStores }, { on := 11, ground := Ground.phase }], guard := none },
  { dst := some 46, op := Op.indexAddr 28 (Operand.tmp 37) (Operand.tmp 38), type := 0, pos := "gens.go:29", after := #[{ on := 4, ground := Ground.data }, { on := 5, ground := Ground.data }, { on := 0, ground := Ground.phase }, { on := 1, ground := Ground.phase }, { on := 2, ground := Ground.phase }, { on := 3, ground := Ground.phase }, { on := 4, ground := Ground.phase }, { on := 5, ground := Ground.phase }, { on := 6, ground := Ground.phase }, { on := 7, ground := Ground.phase }, { on := 8, ground := Ground.phase }, { on := 9, ground := Ground.phase }, { on := 10, ground := Ground.phase }, { on := 11, ground := Ground.phase }, { on := 12, ground := Ground.phase }, { on := 13, ground := Ground.phase }], guard := none },
  { dst := none, op := Op.store 27 (Operand.tmp 46) (Operand.tmp 44), type := 0, pos := "gens.go:29", after := #[{ on := 14, ground := Ground.data }, { on := 11, ground := Ground.data }, { on := 13, ground := Ground.chain }, { on := 0, ground := Ground.phase }, { on := 1, ground := Ground.phase }, { on := 2, ground := Ground.phase }, { on := 3, ground := Ground.phase }, { on := 4, ground := Ground.phase }, { on := 5, ground := Ground.phase }, { on := 6, ground := Ground.phase }, { on := 7, ground := Ground.phase }, { on := 8, ground := Ground.phase }, { on := 9, ground := Ground.phase }, { on := 10, ground := Ground.phase }, { on := 11, ground := Ground.phase }, { on := 12, ground := Ground.phase }, { on := 13, ground := Ground.phase }], guard := none }]
set_option maxRecDepth 100000 in
set_option maxHeartbeats 8000000 in
theorem reg7 (Q : Exit → Act → World → Prop) (n X k b0 b1 b2 g1 g2 s : Nat) (x1 x3 x4 x5 x6 x7 x10 x11 x12 x13 x14 x15 x16 x17 x18 x19 x20 x21 x22 x23 x24 x25 x26 x27 x28 x29 x30 x31 x32 x33 x34 x35 x36 x37 x38 x39 x40 x41 x42 x43 x44 x45 x46 x47 x48 : Value) (w wr : World) (HX : Hid (w.cell? ⟨X, 0, none⟩ = some (.int .i64 (n : Int)))) (HN : Hid (n ≤ 64)) (hkn : k < n) (hG : Hid (Sg w.heap.size wr b0 b1 b2 g1 g2 s n k)) (hB : Hid (Below w.heap.size w wr))
    (HQ : Hid (∀ (y1 y2 : Nat) (wz : World), Sg w.heap.size wz b0 b1 b2 g1 g2 s n (k + 1) → Below w.heap.size w wz → Q .normal ⟨#[.int .i64 (n : Int), x1, .func (.func 13) #[] #[.pointer (some ⟨X, 0, none⟩)], x3, x4, x5, x6, x7, .pointer (some ⟨s, 0, none⟩), .int .i64 (k : Int), x10, x11, x12, x13, x14, x15, x16, x17, x18, x19, x20, x21, x22, x23, x24, x25, x26, x27, x28, x29, x30, x31, x32, .pointer (some ⟨s, 3, none⟩), .slice (some ⟨g1, 0, none⟩) n n, .int .i64 (k : Int), .pointer (some ⟨s, 4, none⟩), .slice (some ⟨g2, 0, none⟩) n n, .int .i64 (k : Int), .func (.func 13) #[] #[.pointer (some ⟨X, 0, none⟩)], .int .i64 (k : Int), .agg #[.slice (some ⟨y1, 0, none⟩) (3 + k + 1) (3 + k + 1)], .func (.func 13) #[] #[.pointer (some ⟨X, 0, none⟩)], .int .i64 (k : Int), .agg #[.slice (some ⟨y2, 0, none⟩) (3 + n + k + 1) (3 + n + k + 1)], .pointer (some ⟨g1, k, none⟩), .pointer (some ⟨g2, k, none⟩), x47, x48], []⟩ wz)) : (Code.region 7 so7 true).wp Tryz.prog Q ⟨#[.int .i64 (n : Int), x1, .func (.func 13) #[] #[.pointer (some ⟨X, 0, none⟩)], x3, x4, x5, x6, x7, .pointer (some ⟨s, 0, none⟩), .int .i64 (k : Int), x10, x11, x12, x13, x14, x15, x16, x17, x18, x19, x20, x21, x22, x23, x24, x25, x26, x27, x28, x29, x30, x31, x32, x33, x34, x35, x36, x37, x38, x39, x40, x41, x42, x43, x44, x45, x46, x47, x48], []⟩ wr := by
  have k0 : (0 : Int) ≤ (k : Int) := by omega
  have k1 : (k : Int) < (n : Int) := by omega
  have bd := bl_trans hB.out (drew_blW wr)
  have hD := hG.out.keep (drew_blW wr)
  have C1 := hidden (gclo4 k n X wr.drew hkn HN.out (cell_keep HX.out bd))
  refine wp_region_noPanic ?_
  refine wp_region_held_drew (S := (fun w' => Below w.heap.size w w' ∧ w'.cell? ⟨s, 3, none⟩ = some (.slice (some ⟨g1, 0, none⟩) n n) ∧ w'.cell? ⟨s, 4, none⟩ = some (.slice (some ⟨g2, 0, none⟩) n n))) (by kernel_rfl) ⟨bd, hD.gs.c 3 (by omega), hD.gs.c 4 (by omega)⟩ (fun hHeld => ?_)
  change wpAnyH Tryz.prog .any so7 _ _ 16 #[false, false, false, false, false, false, false, false, false, false, false, false, false, false, false, false] _ _
  refine wpAnyH_take (i := 0) (oi := { dst := some 33, op := Op.fieldAddr 30 (Operand.tmp 8) 3, type := 0, pos := "gens.go:29", after := #[], guard := none }) (v := ?_) rfl (by kernel_rfl) (by kernel_rfl) (by kernel_rfl) (fun _ _ _ h => h) (Or.inl ⟨by rfl, ?_⟩) hHeld ?_
  rotate_left 1
  · (intro w0 hSw; (try dsimp only at hSw); go_simp; try with_reducible rfl)
  simp only [Act.put, List.setIfInBounds_toArray, List.set_cons_zero, List.set_cons_succ]
  refine wpAnyH_take (i := 1) (oi := { dst := some 34, op := Op.load 28 (Operand.tmp 33), type := 28, pos := "gens.go:29", after := #[{ on := 0, ground := Ground.data }], guard := none }) (v := ?_) rfl (by kernel_rfl) (by kernel_rfl) (by kernel_rfl) (fun _ _ _ h => h) (Or.inl ⟨by rfl, ?_⟩) hHeld ?_
  rotate_left 1
  · (intro w0 hSw; (try dsimp only at hSw); go_simp; try with_reducible rfl)
  simp only [Act.put, List.setIfInBounds_toArray, List.set_cons_zero, List.set_cons_succ]
  refine wpAnyH_take (i := 2) (oi := { dst := some 35, op := Op.move (Operand.tmp 9), type := 3, pos := "gens.go:29", after := #[], guard := none }) (v := ?_) rfl (by kernel_rfl) (by kernel_rfl) (by kernel_rfl) (fun _ _ _ h => h) (Or.inl ⟨by rfl, ?_⟩) hHeld ?_
  rotate_left 1
  · (intro w0 hSw; (try dsimp only at hSw); go_simp; try with_reducible rfl)
  simp only [Act.put, List.setIfInBounds_toArray, List.set_cons_zero, List.set_cons_succ]
  refine wpAnyH_take (i := 3) (oi := { dst := some 36, op := Op.fieldAddr 30 (Operand.tmp 8) 4, type := 0, pos := "gens.go:29", after := #[{ on := 13, ground := Ground.gcOnly Departure.lateStores }], guard := none }) (v := ?_) rfl (by kernel_rfl) (by kernel_rfl) (by kernel_rfl) (fun _ _ _ h => h) (Or.inl ⟨by rfl, ?_⟩) hHeld ?_
  rotate_left 1
  · (intro w0 hSw; (try dsimp only at hSw); go_simp; try with_reducible rfl)
  simp only [Act.put, List.setIfInBounds_toArray, List.set_cons_zero, List.set_cons_succ]
  refine wpAnyH_take (i := 4) (oi := { dst := some 37, op := Op.load 28 (Operand.tmp 36), type := 28, pos := "gens.go:29", after := #[{ on := 3, ground := Ground.data }, { on := 13, ground := Ground.gcOnly Departure.lateStores }], guard := none }) (v := ?_) rfl (by kernel_rfl) (by kernel_rfl) (by kernel_rfl) (fun _ _ _ h => h) (Or.inl ⟨by rfl, ?_⟩) hHeld ?_
  rotate_left 1
  · (intro w0 hSw; (try dsimp only at hSw); go_simp; try with_reducible rfl)
  simp only [Act.put, List.setIfInBounds_toArray, List.set_cons_zero, List.set_cons_succ]
  refine wpAnyH_take (i := 5) (oi := { dst := some 38, op := Op.move (Operand.tmp 9), type := 3, pos := "gens.go:29", after := #[{ on := 13, ground := Ground.gcOnly Departure.lateStores }], guard := none }) (v := ?_) rfl (by kernel_rfl) (by kernel_rfl) (by kernel_rfl) (fun _ _ _ h => h) (Or.inl ⟨by rfl, ?_⟩) hHeld ?_
  rotate_left 1
  · (intro w0 hSw; (try dsimp only at hSw); go_simp; try with_reducible rfl)
  simp only [Act.put, List.setIfInBounds_toArray, List.set_cons_zero, List.set_cons_succ]
  refine wpAnyH_take (i := 6) (oi := { dst := some 39, op := Op.move (Operand.tmp 2), type := 48, pos := "gens.go:29", after := #[], guard := none }) (v := ?_) rfl (by kernel_rfl) (by kernel_rfl) (by kernel_rfl) (fun _ _ _ h => h) (Or.inl ⟨by rfl, ?_⟩) hHeld ?_
  rotate_left 1
  · (intro w0 hSw; (try dsimp only at hSw); go_simp; try with_reducible rfl)
  simp only [Act.put, List.setIfInBounds_toArray, List.set_cons_zero, List.set_cons_succ]
  refine wpAnyH_take (i := 7) (oi := { dst := some 40, op := Op.move (Operand.tmp 9), type := 3, pos := "gens.go:29", after := #[], guard := none }) (v := ?_) rfl (by kernel_rfl) (by kernel_rfl) (by kernel_rfl) (fun _ _ _ h => h) (Or.inl ⟨by rfl, ?_⟩) hHeld ?_
  rotate_left 1
  · (intro w0 hSw; (try dsimp only at hSw); go_simp; try with_reducible rfl)
  simp only [Act.put, List.setIfInBounds_toArray, List.set_cons_zero, List.set_cons_succ]
  refine wpAnyH_take (i := 9) (oi := { dst := some 42, op := Op.move (Operand.tmp 2), type := 48, pos := "gens.go:29", after := #[], guard := none }) (v := ?_) rfl (by kernel_rfl) (by kernel_rfl) (by kernel_rfl) (fun _ _ _ h => h) (Or.inl ⟨by rfl, ?_⟩) hHeld ?_
  rotate_left 1
  · (intro w0 hSw; (try dsimp only at hSw); go_simp; try with_reducible rfl)
  simp only [Act.put, List.setIfInBounds_toArray, List.set_cons_zero, List.set_cons_succ]
  refine wpAnyH_take (i := 10) (oi := { dst := some 43, op := Op.move (Operand.tmp 9), type := 3, pos := "gens.go:29", after := #[], guard := none }) (v := ?_) rfl (by kernel_rfl) (by kernel_rfl) (by kernel_rfl) (fun _ _ _ h => h) (Or.inl ⟨by rfl, ?_⟩) hHeld ?_
  rotate_left 1
  · (intro w0 hSw; (try dsimp only at hSw); go_simp; try with_reducible rfl)
  simp only [Act.put, List.setIfInBounds_toArray, List.set_cons_zero, List.set_cons_succ]
  refine wpAnyH_ready (rs := [8]) (by kernel_rfl) (by simp) ?_
  refine AllReadyH.cons (o := { dst := some 41, op := Op.call { callee := Callee.value (Operand.tmp 39), args := #[Operand.const (Value.int IntKind.i64 4), Operand.tmp 40], argTypes := #[3, 3] }, type := 27, pos := "gens.go:29", after := #[{ on := 6, ground := Ground.data }, { on := 7, ground := Ground.data }], guard := none }) rfl (fun K hK => ?_) AllReadyH.nil
  go_simp
  refine (C1.out).mono ?_
  rintro e w1 ⟨v1, rfl, hu1, hb1⟩
  have hE := hD.keep hb1
  have bd1 := bl_trans bd hb1
  have C2 := hidden (gclo5 k n X w1 hkn HN.out (cell_keep HX.out bd1))
  have SS := hidden (show (fun w' => Below w.heap.size w w' ∧ w'.cell? ⟨s, 3, none⟩ = some (.slice (some ⟨g1, 0, none⟩) n n) ∧ w'.cell? ⟨s, 4, none⟩ = some (.slice (some ⟨g2, 0, none⟩) n n)) w1 from ⟨bd1, hE.gs.c 3 (by omega), hE.gs.c 4 (by omega)⟩)
  have U1 := hidden (hu1.less (show w.heap.size ≤ wr.drew.heap.size from hB.out.size))
  clear hD bd C1 hu1 hb1
  go_wp2_with fail
  refine hK.out _ _ SS.out (fun hHeld2 => ?_)
  clear hK K hHeld
  refine wpAnyH_ready (rs := [11]) (by kernel_rfl) (by simp) ?_
  refine AllReadyH.cons (o := { dst := some 44, op := Op.call { callee := Callee.value (Operand.tmp 42), args := #[Operand.const (Value.int IntKind.i64 5), Operand.tmp 43], argTypes := #[3, 3] }, type := 27, pos := "gens.go:29", after := #[{ on := 9, ground := Ground.data }, { on := 10, ground := Ground.data }, { on := 8, ground := Ground.chain }], guard := none }) rfl (fun K hK => ?_) AllReadyH.nil
  go_simp
  refine (C2.out).mono ?_
  rintro e w2 ⟨v2, rfl, hu2, hb2⟩
  have hF := hE.keep hb2
  have bd2 := bl_trans bd1 hb2
  have U1' := U1.out.keep hb2
  have U2' := hu2.less (show w.heap.size ≤ w1.heap.size from bd1.size)
  obtain ⟨y1, rfl, yb1, yr1⟩ := U1'
  obtain ⟨y2, rfl, yb2, yr2⟩ := U2'
  have FF := hidden (hF.step hkn ⟨y1, rfl, yb1, yr1⟩ ⟨y2, rfl, yb2, yr2⟩)
  obtain ⟨f1, f2, a1, a2, a3, a4⟩ := hF.f
  have z1 := a1.c k hkn; have z2 := a2.c k hkn; have zf1 := a1.fr k hkn; have zf2 := a2.fr k hkn
  have ne12 := hF.d12
  have z2' : (w2.setCell ⟨g1, k, none⟩ (.slice (some ⟨y1, 0, none⟩) (3 + k + 1) (3 + k + 1))).cell? ⟨g2, k, none⟩ = some (f2 k) := (World.cell?_setCell_far _ _ _ _ ne12).trans z2
  have s3 := hF.gs.c 3 (by omega); have s4 := hF.gs.c 4 (by omega)
  have SS2 := hidden (show (fun w' => Below w.heap.size w w' ∧ w'.cell? ⟨s, 3, none⟩ = some (.slice (some ⟨g1, 0, none⟩) n n) ∧ w'.cell? ⟨s, 4, none⟩ = some (.slice (some ⟨g2, 0, none⟩) n n)) w2 from ⟨bd2, s3, s4⟩)
  have SS3 := hidden (show (fun w' => Below w.heap.size w w' ∧ w'.cell? ⟨s, 3, none⟩ = some (.slice (some ⟨g1, 0, none⟩) n n) ∧ w'.cell? ⟨s, 4, none⟩ = some (.slice (some ⟨g2, 0, none⟩) n n)) (w2.setCell ⟨g1, k, none⟩ (.slice (some ⟨y1, 0, none⟩) (3 + k + 1) (3 + k + 1))) from ⟨bd2.setCell (hF.p1) _, (World.cell?_setCell_far _ _ _ _ hF.d1s).trans s3, (World.cell?_setCell_far _ _ _ _ hF.d1s).trans s4⟩)
  have SS4 := hidden (show (fun w' => Below w.heap.size w w' ∧ w'.cell? ⟨s, 3, none⟩ = some (.slice (some ⟨g1, 0, none⟩) n n) ∧ w'.cell? ⟨s, 4, none⟩ = some (.slice (some ⟨g2, 0, none⟩) n n)) ((w2.setCell ⟨g1, k, none⟩ (.slice (some ⟨y1, 0, none⟩) (3 + k + 1) (3 + k + 1))).setCell ⟨g2, k, none⟩ (.slice (some ⟨y2, 0, none⟩) (3 + n + k + 1) (3 + n + k + 1))) from ⟨SS3.out.1.setCell (hF.p2) _, (World.cell?_setCell_far _ _ _ _ hF.d2s).trans SS3.out.2.1, (World.cell?_setCell_far _ _ _ _ hF.d2s).trans SS3.out.2.2⟩)
  have TH2 := hidden (there_one z2' (by rw [World.frozen?_setCell]; exact zf2))
  have FI : Hid ((Tryz.prog.info? 27).map (·.size) = some 1) := hidden (by kernel_rfl)
  clear hE bd1 C2 hu2 hb2 hF bd2 a1 a2 a3 a4 s3 s4 yr1 yr2 hHeld2
  go_wp2_with fail
  refine hK.out _ _ SS2.out (fun hHeld => ?_)
  clear hK K
  refine wpAnyH_take (i := 12) (oi := { dst := some 45, op := Op.indexAddr 28 (Operand.tmp 34) (Operand.tmp 35), type := 0, pos := "gens.go:29", after := #[{ on := 1, ground := Ground.data }, { on := 2, ground := Ground.data }, { on := 0, ground := Ground.phase }, { on := 1, ground := Ground.phase }, { on := 2, ground := Ground.phase }, { on := 3, ground := Ground.textOnly Departure.lateStores }, { on := 4, ground := Ground.textOnly Departure.lateStores }, { on := 5, ground := Ground.textOnly Departure.lateStores }, { on := 6, ground := Ground.phase }, { on := 7, ground := Ground.phase }, { on := 8, ground := Ground.phase }, { on := 9, ground := Ground.textOnly Departure.lateStores }, { on := 10, ground := Ground.textOnly Departure.lateStores }, { on := 11, ground := Ground.phase }], guard := none }) (v := ?_) rfl (by kernel_rfl) (by kernel_rfl) (by kernel_rfl) (fun _ _ _ h => h) (Or.inl ⟨by rfl, ?_⟩) hHeld ?_
  rotate_left 1
  · (intro w0 hSw; (try dsimp only at hSw); go_simp; try with_reducible rfl)
  simp only [Act.put, List.setIfInBounds_toArray, List.set_cons_zero, List.set_cons_succ]
  refine wpAnyH_ready (rs := [13]) (by kernel_rfl) (by simp) ?_
  refine AllReadyH.cons (o := { dst := none, op := Op.store 27 (Operand.tmp 45) (Operand.tmp 41), type := 0, pos := "gens.go:29", after := #[{ on := 12, ground := Ground.data }, { on := 8, ground := Ground.data }, { on := 11, ground := Ground.chain }, { on := 0, ground := Ground.phase }, { on := 1, ground := Ground.phase }, { on := 2, ground := Ground.phase }, { on := 3, ground := Ground.textOnly Departure.lateStores }, { on := 4, ground := Ground.textOnly Departure.lateStores }, { on := 5, ground := Ground.textOnly Departure.lateStores }, { on := 6, ground := Ground.phase }, { on := 7, ground := Ground.phase }, { on := 8, ground := Ground.phase }, { on := 9, ground := Ground.textOnly Departure.lateStores }, { on := 10, ground := Ground.textOnly Departure.lateStores }, { on := 11, ground := Ground.phase }], guard := none }) rfl (fun K hK => ?_) AllReadyH.nil
  go_wp2_with fail
  refine hK.out _ _ SS3.out (fun hHeld3 => ?_)
  clear hK K hHeld
  refine wpAnyH_take (i := 14) (oi := { dst := some 46, op := Op.indexAddr 28 (Operand.tmp 37) (Operand.tmp 38), type := 0, pos := "gens.go:29", after := #[{ on := 4, ground := Ground.data }, { on := 5, ground := Ground.data }, { on := 0, ground := Ground.phase }, { on := 1, ground := Ground.phase }, { on := 2, ground := Ground.phase }, { on := 3, ground := Ground.phase }, { on := 4, ground := Ground.phase }, { on := 5, ground := Ground.phase }, { on := 6, ground := Ground.phase }, { on := 7, ground := Ground.phase }, { on := 8, ground := Ground.phase }, { on := 9, ground := Ground.phase }, { on := 10, ground := Ground.phase }, { on := 11, ground := Ground.phase }, { on := 12, ground := Ground.phase }, { on := 13, ground := Ground.phase }], guard := none }) (v := ?_) rfl (by kernel_rfl) (by kernel_rfl) (by kernel_rfl) (fun _ _ _ h => h) (Or.inl ⟨by rfl, ?_⟩) hHeld3 ?_
  rotate_left 1
  · (intro w0 hSw; (try dsimp only at hSw); go_simp; try with_reducible rfl)
  simp only [Act.put, List.setIfInBounds_toArray, List.set_cons_zero, List.set_cons_succ]
  refine wpAnyH_ready (rs := [15]) (by kernel_rfl) (by simp) ?_
  refine AllReadyH.cons (o := { dst := none, op := Op.store 27 (Operand.tmp 46) (Operand.tmp 44), type := 0, pos := "gens.go:29", after := #[{ on := 14, ground := Ground.data }, { on := 11, ground := Ground.data }, { on := 13, ground := Ground.chain }, { on := 0, ground := Ground.phase }, { on := 1, ground := Ground.phase }, { on := 2, ground := Ground.phase }, { on := 3, ground := Ground.phase }, { on := 4, ground := Ground.phase }, { on := 5, ground := Ground.phase }, { on := 6, ground := Ground.phase }, { on := 7, ground := Ground.phase }, { on := 8, ground := Ground.phase }, { on := 9, ground := Ground.phase }, { on := 10, ground := Ground.phase }, { on := 11, ground := Ground.phase }, { on := 12, ground := Ground.phase }, { on := 13, ground := Ground.phase }], guard := none }) rfl (fun K hK => ?_) AllReadyH.nil
  refine Eq.mpr (if_pos (by rfl)) ?_
  refine wp_store_mid 27 _ _ rfl g2 k #[.slice (some ⟨y2, 0, none⟩) (3 + n + k + 1) (3 + n + k + 1)] rfl rfl TH2.out FI.out (by simp [Value.oneCell']) ?_
  refine hK.out _ _ SS4.out (fun hHeld4 => ?_)
  clear hK K hHeld3
  refine wpAnyH_done (by kernel_rfl) ?_ _
  refine NoPanic.normal ?_
  exact HQ.out y1 y2 _ FF.out SS4.out.1
set_option maxRecDepth 100000 in
set_option maxHeartbeats 8000000 in
theorem setOf_any (n X : Nat) (hn : n ≤ 64) (w : World) (hX : w.cell? ⟨X, 0, none⟩ = some (.int .i64 (n : Int))) :
    Calls Tryz.prog 12 #[.int .i64 (n : Int), .int .i64 64, fv X] w fun e w' => ∃ b0 b1 b2 g1 g2 s : Nat, e = .returned (.tuple #[.agg #[.slice (some ⟨b0, 0, none⟩) 1 1, .slice (some ⟨b1, 0, none⟩) 2 2, .slice (some ⟨b2, 0, none⟩) 3 3, .slice (some ⟨g1, 0, none⟩) n n, .slice (some ⟨g2, 0, none⟩) n n], .int .i64 0]) ∧ Sg w.heap.size w' b0 b1 b2 g1 g2 s n n ∧ Below w.heap.size w w' := by
  have HX := hidden hX
  have HN := hidden hn
  have nn0 : ¬ (n : Int) < 0 := by omega
  have nn1 : ¬ (n : Int) > 64 := by omega
  have nn2 : ¬ (64 : Int) < (n : Int) := by omega
  obtain ⟨i0, hi, hz0, hz1, hz2⟩ := info_parts finfoG
  have hmk := fun w => run_make (P := Tryz.prog) w 28 27 i0 (.agg #[.slice none 0 0]) (by kernel_rfl) hi hz0 .i64 .i64 (n : Int) (n : Int) (by omega) (Int.le_refl _) (by rw [hz2]; omega) (by omega)
  simp only [Int.toNat_natCast, hz1, Value.cells, Nat.mul_one] at hmk
  have HMK : Hid (HM3 n) := hidden hmk
  clear hmk hX hi hz0 hz1 hz2
  go_enter Tryz.func12, Tryz.ntmps12
  go_upto_region 3 with fail
  refine wp_region_noPanic ?_
  refine wp_region_held_drew (S := fun w' => Below (w.alloc (.cells #[.slice none 0 0, .slice none 0 0, .slice none 0 0, .slice none 0 0, .slice none 0 0] 30)).heap.size (w.alloc (.cells #[.slice none 0 0, .slice none 0 0, .slice none 0 0, .slice none 0 0, .slice none 0 0] 30)) w') (by kernel_rfl) (drew_blW _) (fun hHeld => ?_)
  refine wpAnyH_take (i := 0) (oi := { dst := some 18, op := Op.move (Operand.tmp 2), type := 48, pos := "gens.go:21", after := #[], guard := none }) (v := ?_) rfl (by kernel_rfl) (by kernel_rfl) (by kernel_rfl) (fun _ _ _ h => h) (Or.inl ⟨by rfl, ?_⟩) hHeld ?_
  rotate_left 1
  · (intro w0 hSw; (try dsimp only at hSw); go_simp; try with_reducible rfl)
  simp only [Act.put, List.setIfInBounds_toArray, List.set_cons_zero, List.set_cons_succ]
  refine wpAnyH_take (i := 2) (oi := { dst := some 20, op := Op.move (Operand.tmp 2), type := 48, pos := "gens.go:21", after := #[], guard := none }) (v := ?_) rfl (by kernel_rfl) (by kernel_rfl) (by kernel_rfl) (fun _ _ _ h => h) (Or.inl ⟨by rfl, ?_⟩) hHeld ?_
  rotate_left 1
  · (intro w0 hSw; (try dsimp only at hSw); go_simp; try with_reducible rfl)
  simp only [Act.put, List.setIfInBounds_toArray, List.set_cons_zero, List.set_cons_succ]
  refine wpAnyH_take (i := 4) (oi := { dst := some 22, op := Op.move (Operand.tmp 2), type := 48, pos := "gens.go:21", after := #[], guard := none }) (v := ?_) rfl (by kernel_rfl) (by kernel_rfl) (by kernel_rfl) (fun _ _ _ h => h) (Or.inl ⟨by rfl, ?_⟩) hHeld ?_
  rotate_left 1
  · (intro w0 hSw; (try dsimp only at hSw); go_simp; try with_reducible rfl)
  simp only [Act.put, List.setIfInBounds_toArray, List.set_cons_zero, List.set_cons_succ]
  refine wpAnyH_take (i := 6) (oi := { dst := some 24, op := Op.move (Operand.tmp 0), type := 3, pos := "gens.go:21", after := #[], guard := none }) (v := ?_) rfl (by kernel_rfl) (by kernel_rfl) (by kernel_rfl) (fun _ _ _ h => h) (Or.inl ⟨by rfl, ?_⟩) hHeld ?_
  rotate_left 1
  · (intro w0 hSw; (try dsimp only at hSw); go_simp; try with_reducible rfl)
  simp only [Act.put, List.setIfInBounds_toArray, List.set_cons_zero, List.set_cons_succ]
  refine wpAnyH_take (i := 8) (oi := { dst := some 26, op := Op.move (Operand.tmp 0), type := 3, pos := "gens.go:21", after := #[], guard := none }) (v := ?_) rfl (by kernel_rfl) (by kernel_rfl) (by kernel_rfl) (fun _ _ _ h => h) (Or.inl ⟨by rfl, ?_⟩) hHeld ?_
  rotate_left 1
  · (intro w0 hSw; (try dsimp only at hSw); go_simp; try with_reducible rfl)
  simp only [Act.put, List.setIfInBounds_toArray, List.set_cons_zero, List.set_cons_succ]
  refine so_0000 _ n X _ _ _ _ _ _ _ _ _ _ _ _ _ _ _ (w.alloc (.cells #[.slice none 0 0, .slice none 0 0, .slice none 0 0, .slice none 0 0, .slice none 0 0] 30)) (fun _ _ _ _ h => h) ?hq ?hc HMK.out _ hHeld
  case hc =>
    intro k hk w' hb
    refine (gclo123 k n X w' hk (cell_keep HX.out (bl_trans (bl_alloc w _) hb))).mono ?_
    rintro e w2 ⟨v, rfl, hu, h2⟩
    exact ⟨v, rfl, hu.less hb.size, h2⟩
  case hq =>
    intro b0 b1 b2 g1 g2 s wz hB q0 q1 q2 p1 p2 p3 u0 u1 u2 m1 m2 al d12 d1a d2a
    have SG := hidden (Sg.start q0 q1 q2 p1 p2 p3 u0 u1 u2 m1 m2 al d12 d1a d2a)
    have BB := hidden ((sw5_bel hB p3 (c5 b0 b1 b2 g1 g2 n 0) (c5 b0 b1 b2 g1 g2 n 1) (c5 b0 b1 b2 g1 g2 n 2) (c5 b0 b1 b2 g1 g2 n 3) (c5 b0 b1 b2 g1 g2 n 4)))
    clear hHeld hB u0 u1 u2 m1 m2 al
    refine NoPanic.normal ?_
    simp only [c5] at SG BB
    unfold fv
    generalize sw5 wz s _ _ _ _ _ = wy at SG BB ⊢
    go_wp2_with fail
    go_loopw [30] (fun kv w' => ∃ k : Nat, k ≤ n ∧ kv = .int .i64 (k : Int) ∧ Hid (Sg (w.alloc (.cells #[.slice none 0 0, .slice none 0 0, .slice none 0 0, .slice none 0 0, .slice none 0 0] 30)).heap.size w' b0 b1 b2 g1 g2 s n k) ∧ Hid (Below (w.alloc (.cells #[.slice none 0 0, .slice none 0 0, .slice none 0 0, .slice none 0 0, .slice none 0 0] 30)).heap.size (w.alloc (.cells #[.slice none 0 0, .slice none 0 0, .slice none 0 0, .slice none 0 0, .slice none 0 0] 30)) w')) (fun k _ => n - (intOf k).toNat)
    case atStart => exact ⟨0, by omega, rfl, SG, BB⟩
    case round =>
      clear SG BB
      obtain ⟨k, hk, rfl, hG, hB⟩ := hrel
      by_cases hkn : k < n
      · have k0 : (0 : Int) ≤ (k : Int) := by omega
        have k1 : (k : Int) < (n : Int) := by omega
        have w9 : IntKind.i64.wrap ((k : Int) + 1) = (k : Int) + 1 := IntWalk.i64_in _ (by omega)
        go_upto_region 7 with fail
        refine reg7 _ n X k b0 b1 b2 g1 g2 s _ _ _ _ _ _ _ _ _ _ _ _ _ _ _ _ _ _ _ _ _ _ _ _ _ _ _ _ _ _ _ _ _ _ _ _ _ _ _ _ _ _ _ _ _ _ wr (hidden (cell_keep HX.out (bl_alloc w _))) HN hkn hG hB (hidden ?_)
        intro y1 y2 wz FF BZ
        replace FF := hidden FF
        replace BZ := hidden BZ
        clear hG hB
        go_wp2_with fail
        go_roundw
        case rel => exact ⟨k + 1, by omega, by go_num, FF, BZ⟩
        case measure => simp [intOf]; omega
      · obtain rfl : k = n := by omega
        have hx := hG.out
        have x0 := hx.gs.c 0 (by omega); have x1 := hx.gs.c 1 (by omega); have x2 := hx.gs.c 2 (by omega); have x3 := hx.gs.c 3 (by omega); have x4 := hx.gs.c 4 (by omega)
        simp only [c5] at x0 x1 x2 x3 x4
        have rz : ∀ j, j < 5 → wr.cell? ⟨w.heap.size, j, none⟩ = some (.slice none 0 0) := fun j hj => cell_keep ((Gs.five w _).c j hj) hB.out
        have rf : ∀ j, j < 5 → wr.frozen? ⟨w.heap.size, j, none⟩ = false := fun j hj => ((bcell hB.out).2 _ _ (Gs.five w _).lt).trans ((Gs.five w _).fr j hj)
        have t0 := rz 0 (by omega); have tf0 := rf 0 (by omega)
        have t1 := rz 1 (by omega); have tf1 := rf 1 (by omega)
        have t2 := rz 2 (by omega); have tf2 := rf 2 (by omega)
        have t3 := rz 3 (by omega); have tf3 := rf 3 (by omega)
        have t4 := rz 4 (by omega); have tf4 := rf 4 (by omega)
        have lt0 : w.heap.size < (w.alloc (.cells #[.slice none 0 0, .slice none 0 0, .slice none 0 0, .slice none 0 0, .slice none 0 0] 30)).heap.size := by simp
        have GG := hidden (fun (v0 v1 v2 v3 v4 : Value) => ((((((hx.under (a := ⟨w.heap.size, 0, none⟩) lt0 v0).under (a := ⟨w.heap.size, 1, none⟩) lt0 v1).under (a := ⟨w.heap.size, 2, none⟩) lt0 v2).under (a := ⟨w.heap.size, 3, none⟩) lt0 v3).under (a := ⟨w.heap.size, 4, none⟩) lt0 v4)).less (Nat.le_of_lt lt0))
        have BE := hidden (bl_trans (bl_alloc w _) hB.out)
        clear hx rz rf hG hB
        go_wp2_with fail
        refine bodyPost_ret (v := .tuple #[.agg #[.slice (some ⟨b0, 0, none⟩) 1 1, .slice (some ⟨b1, 0, none⟩) 2 2, .slice (some ⟨b2, 0, none⟩) 3 3, .slice (some ⟨g1, 0, none⟩) k k, .slice (some ⟨g2, 0, none⟩) k k], .int .i64 0]) (by simp [results, Tryz.results12, go_sem, *]) rfl ⟨b0, b1, b2, g1, g2, s, rfl, GG.out _ _ _ _ _, ((((BE.out.setCell (Nat.le_refl _) _).setCell (Nat.le_refl _) _).setCell (Nat.le_refl _) _).setCell (Nat.le_refl _) _).setCell (Nat.le_refl _) _⟩
end Go.Proofs.YthlohkbicnicjaaGreatDoor
