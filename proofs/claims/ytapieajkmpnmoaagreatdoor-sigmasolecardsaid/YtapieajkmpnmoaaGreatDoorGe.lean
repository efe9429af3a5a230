import Derived.Test.YtapieajkmpnmoaaGreatDoorGd
namespace Go.Proofs.YtapieajkmpnmoaaGreatDoor
open Go.RowKit
/-- a slice -/
def isSl (v : Value) : Prop := ∃ (P : Option Addr) (l c : Nat), v = .slice P l c
theorem Uv.sl {B : Nat} {w : World} {v : Value} {p : Nat} (h : Uv B w (.agg #[v]) p) : isSl v := by
  obtain ⟨b, h1, _, _⟩ := h
  simp only [Value.agg.injEq, Array.mk.injEq, List.cons.injEq, and_true] at h1
  exact ⟨_, _, _, h1⟩
theorem rl_ne {w : World} {b g n m : Nat} {f : Nat → Value} {u : Nat → E4} (hm : 0 < m) (h : Rl w b 0 m u) (hn : 0 < n) (hg : Gs w g n f) (hs : isSl (f 0)) : g ≠ b := by
  rintro rfl
  have h1 := h.c0 0 hm
  have h2 := hg.c 0 hn
  obtain ⟨P, l, c, e⟩ := hs
  rw [Nat.zero_mul, Nat.add_zero] at h1
  rw [h1, e] at h2
  simp at h2
theorem Uv.far {B : Nat} {w : World} {v : Value} {p g n k : Nat} {f : Nat → Value} (h : Uv B w v p) (hn : 0 < n) (hg : Gs w g n f) (hs : isSl (f 0)) (x : Value) : Uv B (w.setCell ⟨g, k, none⟩ x) v p := by
  obtain ⟨b, h1, h2, h3⟩ := h
  exact ⟨b, h1, h2, h3.far x (rl_ne (by omega) h3 hn hg hs)⟩
/-- the cells of the set -/
def c5 (b0 b1 b2 g1 g2 n : Nat) : Nat → Value
  | 0 => .slice (some ⟨b0, 0, none⟩) 1 1 | 1 => .slice (some ⟨b1, 0, none⟩) 2 2 | 2 => .slice (some ⟨b2, 0, none⟩) 3 3 | 3 => .slice (some ⟨g1, 0, none⟩) n n | _ => .slice (some ⟨g2, 0, none⟩) n n
theorem there_one {w : World} {b k : Nat} {v : Value} (h : w.cell? ⟨b, k, none⟩ = some v) (hf : w.frozen? ⟨b, k, none⟩ = false) : w.there b k 1 := fun j hj => by
  obtain rfl : j = 0 := by omega
  exact ⟨by rw [Nat.add_zero, h]; rfl, by rw [Nat.add_zero]; exact hf⟩
/-- the set, with k of its generators -/
structure Sg (B : Nat) (w : World) (b0 b1 b2 g1 g2 s n k : Nat) : Prop where
  q0 : B ≤ b0
  q1 : B ≤ b1
  q2 : B ≤ b2
  p1 : B ≤ g1
  p2 : B ≤ g2
  p3 : B ≤ s
  r0 : Rl w b0 0 1 (uf 0)
  r1 : Rl w b1 0 2 (uf 1)
  r2 : Rl w b2 0 3 (uf 2)
  f : ∃ f1 f2 : Nat → Value, Gs w g1 n f1 ∧ Gs w g2 n f2 ∧ (∀ j, j < n → isSl (f1 j) ∧ isSl (f2 j)) ∧ ∀ j, j < k → Uv B w (.agg #[f1 j]) (3 + j) ∧ Uv B w (.agg #[f2 j]) (3 + n + j)
  gs : Gs w s 5 (c5 b0 b1 b2 g1 g2 n)
  d12 : g1 ≠ g2
  d1s : g1 ≠ s
  d2s : g2 ≠ s
theorem Sg.keep {B : Nat} {w w' : World} {b0 b1 b2 g1 g2 s n k : Nat} (h : Sg B w b0 b1 b2 g1 g2 s n k) (hb : Below w.heap.size w w') : Sg B w' b0 b1 b2 g1 g2 s n k := by
  obtain ⟨f1, f2, a1, a2, a3, a4⟩ := h.f
  exact ⟨h.q0, h.q1, h.q2, h.p1, h.p2, h.p3, h.r0.keep hb, h.r1.keep hb, h.r2.keep hb, ⟨f1, f2, a1.keep hb, a2.keep hb, a3, fun j hj => ⟨(a4 j hj).1.keep hb, (a4 j hj).2.keep hb⟩⟩, h.gs.keep hb, h.d12, h.d1s, h.d2s⟩
theorem Sg.step {B : Nat} {w : World} {b0 b1 b2 g1 g2 s n k : Nat} (h : Sg B w b0 b1 b2 g1 g2 s n k) (hk : k < n) {c1 c2 : Value} (u1 : Uv B w (.agg #[c1]) (3 + k)) (u2 : Uv B w (.agg #[c2]) (3 + n + k)) :
    Sg B ((w.setCell ⟨g1, k, none⟩ c1).setCell ⟨g2, k, none⟩ c2) b0 b1 b2 g1 g2 s n (k + 1) := by
  obtain ⟨f1, f2, a1, a2, a3, a4⟩ := h.f
  have n0 : 0 < n := by omega
  have s1 := (a3 0 n0).1
  have s2 := (a3 0 n0).2
  have a2' := a2.far (a := ⟨g1, k, none⟩) c1 h.d12
  have a1' := (a1.set k hk c1).far (a := ⟨g2, k, none⟩) c2 (Ne.symm h.d12)
  have a2'' := a2'.set k hk c2
  have tr : ∀ {v : Value} {p : Nat}, Uv B w v p → Uv B ((w.setCell ⟨g1, k, none⟩ c1).setCell ⟨g2, k, none⟩ c2) v p := fun hu => (hu.far n0 a1 s1 c1).far n0 a2' s2 c2
  have tl : ∀ {b m : Nat} {u : Nat → E4}, 0 < m → Rl w b 0 m u → Rl ((w.setCell ⟨g1, k, none⟩ c1).setCell ⟨g2, k, none⟩ c2) b 0 m u := fun hm hr => (hr.far c1 (rl_ne hm hr n0 a1 s1)).far c2 (rl_ne hm hr n0 a2 s2)
  refine ⟨h.q0, h.q1, h.q2, h.p1, h.p2, h.p3, tl (by omega) h.r0, tl (by omega) h.r1, tl (by omega) h.r2, ⟨_, _, a1', a2'', fun j hj => ?_, fun j hj => ?_⟩, (h.gs.far c1 h.d1s).far c2 h.d2s, h.d12, h.d1s, h.d2s⟩
  · by_cases ej : j = k
    · simp only [if_pos ej]; exact ⟨u1.sl, u2.sl⟩
    · simp only [if_neg ej]; exact a3 j hj
  · by_cases ej : j = k
    · subst ej
      simp only [if_pos]
      exact ⟨tr u1, tr u2⟩
    · simp only [if_neg ej]
      exact ⟨tr (a4 j (by omega)).1, tr (a4 j (by omega)).2⟩
theorem Sg.start {w0 w : World} {b0 b1 b2 g1 g2 s n : Nat} (q0 : w0.heap.size ≤ b0) (q1 : w0.heap.size ≤ b1) (q2 : w0.heap.size ≤ b2) (p1 : w0.heap.size ≤ g1) (p2 : w0.heap.size ≤ g2) (p3 : w0.heap.size ≤ s) (hu0 : Rl w b0 0 1 (uf 0)) (hu1 : Rl w b1 0 2 (uf 1)) (hu2 : Rl w b2 0 3 (uf 2)) (hm1 : Gs w g1 n (fun _ => .slice none 0 0)) (hm2 : Gs w g2 n (fun _ => .slice none 0 0)) (hal : Gs w s 5 (fun _ => .slice none 0 0)) (d12 : g1 ≠ g2) (d1a : g1 ≠ s) (d2a : g2 ≠ s) :
    Sg w0.heap.size (sw5 w s (c5 b0 b1 b2 g1 g2 n 0) (c5 b0 b1 b2 g1 g2 n 1) (c5 b0 b1 b2 g1 g2 n 2) (c5 b0 b1 b2 g1 g2 n 3) (c5 b0 b1 b2 g1 g2 n 4)) b0 b1 b2 g1 g2 s n 0 := by
  have sl : isSl (Value.slice none 0 0) := ⟨_, _, _, rfl⟩
  unfold sw5
  have tl : ∀ {b m : Nat} {u : Nat → E4} (v0 v1 v2 v3 v4 : Value), 0 < m → Rl w b 0 m u → Rl (((((w.setCell ⟨s, 0, none⟩ v0).setCell ⟨s, 1, none⟩ v1).setCell ⟨s, 2, none⟩ v2).setCell ⟨s, 3, none⟩ v3).setCell ⟨s, 4, none⟩ v4) b 0 m u := fun v0 v1 v2 v3 v4 hm hr => by
    have ne := rl_ne hm hr (by omega) hal sl
    exact ((((hr.far v0 ne).far v1 ne).far v2 ne).far v3 ne).far v4 ne
  refine ⟨q0, q1, q2, p1, p2, p3, tl _ _ _ _ _ (by omega) hu0, tl _ _ _ _ _ (by omega) hu1, tl _ _ _ _ _ (by omega) hu2, ⟨_, _, ((((hm1.far _ (Ne.symm d1a)).far _ (Ne.symm d1a)).far _ (Ne.symm d1a)).far _ (Ne.symm d1a)).far _ (Ne.symm d1a), ((((hm2.far _ (Ne.symm d2a)).far _ (Ne.symm d2a)).far _ (Ne.symm d2a)).far _ (Ne.symm d2a)).far _ (Ne.symm d2a), fun j hj => ⟨sl, sl⟩, fun j hj => absurd hj (by omega)⟩, ?_, d12, d1a, d2a⟩
  have q := ((((hal.set 0 (by omega) (c5 b0 b1 b2 g1 g2 n 0)).set 1 (by omega) (c5 b0 b1 b2 g1 g2 n 1)).set 2 (by omega) (c5 b0 b1 b2 g1 g2 n 2)).set 3 (by omega) (c5 b0 b1 b2 g1 g2 n 3)).set 4 (by omega) (c5 b0 b1 b2 g1 g2 n 4)
  refine ⟨q.lt, fun j hj => (q.c j hj).trans ?_, q.fr⟩
  match j, hj with
  | 0, _ => rfl | 1, _ => rfl | 2, _ => rfl | 3, _ => rfl | 4, _ => rfl
theorem Sg.under {B : Nat} {w : World} {b0 b1 b2 g1 g2 s n k : Nat} (h : Sg B w b0 b1 b2 g1 g2 s n k) {a : Addr} (ha : a.block < B) (v : Value) : Sg B (w.setCell a v) b0 b1 b2 g1 g2 s n k := by
  obtain ⟨f1, f2, a1, a2, a3, a4⟩ := h.f
  have q0 := h.q0; have q1 := h.q1; have q2 := h.q2; have p1 := h.p1; have p2 := h.p2; have p3 := h.p3
  have tr : ∀ {v' : Value} {p : Nat}, Uv B w v' p → Uv B (w.setCell a v) v' p := fun hu => by
    obtain ⟨b, h1, h2, h3⟩ := hu
    exact ⟨b, h1, h2, h3.far v (by omega)⟩
  exact ⟨h.q0, h.q1, h.q2, h.p1, h.p2, h.p3, h.r0.far v (by omega), h.r1.far v (by omega), h.r2.far v (by omega), ⟨f1, f2, a1.far v (by omega), a2.far v (by omega), a3, fun j hj => ⟨tr (a4 j hj).1, tr (a4 j hj).2⟩⟩, h.gs.far v (by omega), h.d12, h.d1s, h.d2s⟩
theorem Sg.less {B C : Nat} {w : World} {b0 b1 b2 g1 g2 s n k : Nat} (h : Sg B w b0 b1 b2 g1 g2 s n k) (hc : C ≤ B) : Sg C w b0 b1 b2 g1 g2 s n k := by
  obtain ⟨f1, f2, a1, a2, a3, a4⟩ := h.f
  exact ⟨Nat.le_trans hc h.q0, Nat.le_trans hc h.q1, Nat.le_trans hc h.q2, Nat.le_trans hc h.p1, Nat.le_trans hc h.p2, Nat.le_trans hc h.p3, h.r0, h.r1, h.r2, ⟨f1, f2, a1, a2, a3, fun j hj => ⟨(a4 j hj).1.less hc, (a4 j hj).2.less hc⟩⟩, h.gs, h.d12, h.d1s, h.d2s⟩
end Go.Proofs.YtapieajkmpnmoaaGreatDoor
