import Derived.Test.YtbkiobfjabadeaaDoorYg
namespace Go.Proofs.YtbkiobfjabadeaaDoor
open Go.RowKit
set_option linter.unusedVariables false
/-- unlike blocks -/
def Dj (a b : Value) : Prop := ∀ k, a.ownBlock = some k → b.ownBlock ≠ some k
theorem Dj.symm {a b : Value} (h : Dj a b) : Dj b a := fun k hk e => h k e hk
theorem Dj.kept {w w' : World} {base s : Nat} {e : TypeId} {u v : Value} {n : Nat} {xs : List Value} (h : Dj u v) (ho : w.ownsRow base e s v n xs) (hg : w.grownBy w' u.ownBlock) : w'.ownsRow base e s v n xs :=
  ho.kept hg (by
    cases hv : v.ownBlock with
    | none => exact .inl rfl
    | some k => exact .inr (fun e => h k e.symm hv))
/-- the same block, or one that was made since -/
def Nx (u v : Value) (N : Nat) : Prop := v.ownBlock = u.ownBlock ∨ ∀ j, v.ownBlock = some j → N ≤ j
theorem Dj.next {u u' v : Value} {N : Nat} (h : Dj u v) (hn : Nx u u' N) (hl : ∀ j, v.ownBlock = some j → j < N) : Dj u' v := fun k hk e => by
  rcases hn with hn | hn
  · exact h k (hn ▸ hk) e
  · have := hn k hk
    have := hl k e
    omega
theorem grown_then {w w1 w2 : World} {u v : Value} (h1 : w.grownBy w1 u.ownBlock) (hn : Nx u v w.heap.size) (h2 : w1.grownBy w2 v.ownBlock) : w.grownBy w2 u.ownBlock :=
  ⟨h2.os.trans h1.os, h2.tape.trans h1.tape, h2.output.trans h1.output, Nat.le_trans h1.size h2.size, fun k hk hr => (h2.block k (Nat.lt_of_lt_of_le hk h1.size) (fun e => by
    rcases hn with hn | hn
    · exact hr (e.trans hn)
    · have := hn k e.symm
      omega)).trans (h1.block k hk hr)⟩
theorem Nx.then {u v x : Value} {N M : Nat} (h1 : Nx u v N) (h2 : Nx v x M) (hN : N ≤ M) : Nx u x N := by
  rcases h2 with h2 | h2
  · rcases h1 with h1 | h1
    · exact .inl (h2.trans h1)
    · exact .inr (fun j hj => h1 j (h2 ▸ hj))
  · exact .inr (fun j hj => Nat.le_trans hN (h2 j hj))
theorem bl_grown {w w' : World} {r : Option Nat} {base : Nat} (hg : w.grownBy w' r) (hb : base ≤ w.heap.size) (hr : ∀ k, r = some k → base ≤ k) : Below base w w' := below_grown hg hb hr
theorem Tb.keepB {w w' : World} {base : Nat} (h : Tb w) (hb : Below base w w') (h0 : 0 < base) : Tb w' := by
  have e : ∀ j, w'.cell? ⟨0, j, none⟩ = w.cell? ⟨0, j, none⟩ := fun j => World.cell?_of_block (a := ⟨0, j, none⟩) (hb.block 0 h0)
  unfold Tb at h ⊢
  simp only [e]
  exact h

set_option maxRecDepth 100000 in
set_option maxHeartbeats 8000000 in
theorem appendLeast_any (B n m : Nat) (u V : Value) (xs : List Value) (g : Nat → E4) (w0 w : World) (h0 : 0 < w0.heap.size) (hT : Tb w0) (hV : In w0 V m g) (hb : Below w0.heap.size w0 w) (hB : w0.heap.size ≤ B) (hBw : B ≤ w.heap.size) (ho : w.ownsRow B 28 4 u n xs) (hg : ∀ k, k < m → (g k).ok) (hl : n + m ≤ 2097152) :
    Calls Tryd.prog 20 #[u, V] w fun e w' => ∃ (p : Option Addr) (c : Nat), e = .returned (.slice p (n + m) c) ∧ w'.ownsRow B 28 4 (.slice p (n + m) c) (n + m) (xs ++ svs m (fun k => lst (g k).n)) ∧ w.grownBy w' u.ownBlock ∧ Nx u (.slice p (n + m) c) w.heap.size := by
  obtain ⟨P, c, rfl, -, -, hr⟩ := hV
  have HS := hidden hr
  have HM := hidden hl
  have HG := hidden hg
  have HT := hidden hT
  have H0 := hidden h0
  have HB := hidden hb
  have HBB := hidden (⟨hB, hBw⟩ : _ ∧ _)
  have HO := hidden ho
  have nn0 : (0 : Int) ≤ (m : Int) := by omega
  obtain ⟨i0, hi, hz0, hz1, hz2⟩ := info_parts info27
  have HI := hidden hi
  have HZ0 := hidden hz0
  have HZ1 := hidden hz1
  have HZ2 := hidden hz2
  have HU : Hid (Tryd.prog.underlying 29 = some (.slice 28)) := hidden (by kernel_rfl)
  clear hi hz0 hz1 hz2 hr hl hg hT h0 hb hB hBw ho
  go_enter Tryd.func20, Tryd.ntmps20
  go_wp2_with fail
  go_loopw [0, 9] (fun ov iv' w' => ∃ k : Nat, k ≤ m ∧ iv' = .int .i64 k ∧ Hid (w'.ownsRow B 28 4 ov (n + k) (xs ++ svs k (fun k => lst (g k).n))) ∧ Hid (w.grownBy w' u.ownBlock) ∧ Hid (Nx u ov w.heap.size)) (fun _ i _ => m - (intOf i).toNat)
  case atStart => exact ⟨0, by omega, rfl, hidden (by simpa [svs] using HO.out), hidden ⟨rfl, rfl, rfl, Nat.le_refl _, fun _ _ _ => rfl⟩, hidden (.inl rfl)⟩
  case round =>
    obtain ⟨k, hk, rfl, hO, hG, hN⟩ := hrel
    by_cases hkn : k < m
    · have k0 : (0 : Int) ≤ (k : Int) := by omega
      have k1 : (k : Int) < (m : Int) := by omega
      have w9 : IntKind.i64.wrap ((k : Int) + 1) = (k : Int) + 1 := IntWalk.i64_in _ (by have := HM.out; omega)
      have BW := hidden (below_transI HB.out (bl_grown hG.out HB.out.size (fun j hj => Nat.le_trans HBB.out.1 (HO.out.lt j hj).1)))
      obtain ⟨sb, so, rfl, h2⟩ := HS.out (by omega)
      have rx := h2.keep BW.out
      have x0 := rx.c0 k hkn
      have x1 := rx.c1 k hkn
      have x2 := rx.c2 k hkn
      have x3 := rx.c3 k hkn
      have zok := HG.out k hkn
      obtain ⟨z, hz⟩ : ∃ z, g k = z := ⟨_, rfl⟩
      rw [hz] at x0 x1 x2 x3 zok
      obtain ⟨X, hX⟩ : ∃ X, lst z.n = X := ⟨_, rfl⟩
      have LE := hidden (fun w T => fix (Least_any z w T zok) hX)
      have T0 := hidden (HT.out.keep BW.out)
      have SV : Hid (svs (k + 1) (fun k => lst (g k).n) = svs k (fun k => lst (g k).n) ++ [.int .u64 X.x0, .int .u64 X.x1, .int .u64 X.x2, .int .u64 X.x3]) := hidden (by rw [svs_succ]; simp only [hz, hX])
      have N9 : Hid (k < m ∧ n + m ≤ 2097152) := hidden ⟨hkn, HM.out⟩
      have BS := hidden (Nat.le_trans HBB.out.2 hG.out.size)
      simp only [E4.v] at LE
      clear rx h2 hz hX zok
      go_upto_region 4 with fail
      have BA := hidden (bl_alloc wr (.cells #[.int .u64 z.x0, .int .u64 z.x1, .int .u64 z.x2, .int .u64 z.x3] 28))
      have M1 := hidden ((Mw.start wr).new [.int .u64 z.x0, .int .u64 z.x1, .int .u64 z.x2, .int .u64 z.x3] 28)
      generalize wr.alloc (.cells #[.int .u64 z.x0, .int .u64 z.x1, .int .u64 z.x2, .int .u64 z.x3] 28) = w2 at *
      have rz := (M1.out.r (wr.heap.size, [.int .u64 z.x0, .int .u64 z.x1, .int .u64 z.x2, .int .u64 z.x3]) (by simp)).1
      have y0 := rz 0 _ rfl
      have y1 := rz 1 _ rfl
      have y2 := rz 2 _ rfl
      have y3 := rz 3 _ rfl
      simp only [Nat.zero_add] at y0 y1 y2 y3
      clear rz x0 x1 x2 x3
      go_wp2_with (first | (go_at_call 31; refine (LE.out _ (T0.out.keep BA.out)).mono ?_; rintro e w3 ⟨rfl, hb3⟩; have B3 := hidden (bl_trans BA.out hb3); have O2 := hidden (own_keepX hO.out B3.out); clear hb3 LE y0 y1 y2 y3) | (at_builtin; refine wpList_append_own_at _ rfl _ _ 29 rfl B 28 i0 (.agg #[.int .u64 0, .int .u64 0, .int .u64 0, .int .u64 0]) 4 32 HU.out HI.out HZ0.out HZ1.out HZ2.out rfl (by decide) _ _ _ rfl (O2.out.alloc _) ⟨w3.heap.size, 0, none⟩ 1 1 [.int .u64 X.x0, .int .u64 X.x1, .int .u64 X.x2, .int .u64 X.x3] rfl rfl (cells_new w3 [.int .u64 X.x0, .int .u64 X.x1, .int .u64 X.x2, .int .u64 X.x3] 28) (by simp [Value.oneCell']) (by have := N9.out; unfold maxLen; omega) (by have := N9.out; omega) (by have := BS.out; have := B3.out.size; simp; omega) ?_; intro v' w4 ho4 hg4 hn4 ha4; have O4 := hidden ho4; have G4 := hidden hg4; have A4 := hidden ha4; clear ho4 hg4 hn4 ha4))
      go_roundw
      case rel =>
        have hx1 := hG.out.size
        have hx2 := B3.out.size
        have N4 : Nx u0 v' wr.heap.size := by
          rcases A4.out with h | h
          · exact .inl h
          · exact .inr (fun j hj => by rw [h] at hj; have := Option.some.inj hj; simp at this; omega)
        refine ⟨k + 1, by omega, by go_num, hidden (by rw [SV.out, ← List.append_assoc]; exact O4.out), hidden (grown_then hG.out hN.out (grown_trans (gbI (bl_trans B3.out (bl_alloc w3 _)) _) G4.out)), hidden (hN.out.then N4 hx1)⟩
      case measure => simp [intOf]; omega
    · have hkn : m = k := by omega
      subst hkn
      have lq : ¬ (m : Int) < (m : Int) := by omega
      obtain ⟨p, d, rfl, -⟩ := own_shape4 hO.out
      go_wp2_with fail
      refine bodyPost_ret (v := .slice p (n + m) d) (by simp [results, Tryd.results20, go_sem]) rfl ⟨p, d, rfl, hO.out, hG.out, hN.out⟩
end Go.Proofs.YtbkiobfjabadeaaDoor
