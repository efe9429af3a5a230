import Derived.Test.YtnbhkhhghhfjoaaDoorCmp
namespace Go.Proofs.YtnbhkhhghhfjoaaDoor
open Go.RowKit
set_option linter.unusedVariables false
set_option linter.unusedSimpArgs false
open Cm (Wr Tm co bf Ls lf ins Eqm)
namespace Ci
set_option maxRecDepth 100000
set_option maxHeartbeats 4000000
/-- a system under way: m values, K gates, n requirements -/
def Ty (w : World) (t m K n : Nat) (w' : World) : Prop := ∃ base v vs Q, List.length Q = n ∧ Sy base w' t m K v vs Q ∧ w.heap.size ≤ base ∧ Below w.heap.size w w'
theorem Ty.bl {w : World} {t m K n : Nat} {x : World} (h : Ty w t m K n x) : Below w.heap.size w x := by
  obtain ⟨base, v, vs, Q, hq, sy, hb, bl⟩ := h
  exact bl
theorem Ty.keep {w : World} {t m K n : Nat} {x y : World} (h : Ty w t m K n x) (k : Below x.heap.size x y) : Ty w t m K n y := by
  obtain ⟨base, v, vs, Q, hq, sy, hb, bl⟩ := h
  exact ⟨base, v, vs, Q, hq, sy.keep k, hb, bl.trans (k.mono bl.size)⟩
theorem ty_fz {w x y : World} {base t m K : Nat} {v : Value} {vs : List Value} {Q : List (List Tm)} (sy : Sy base x t m K v vs Q) (hb : w.heap.size ≤ base) (bl : Below w.heap.size w x) (hf : Fz t v x y) : Below w.heap.size w y :=
  bl.trans (hf.below bl.size (Nat.le_trans hb sy.bs) (fun k hk => Nat.le_trans hb (sy.vb k hk).1))
theorem ty_gates {w : World} {t m K n : Nat} {x : World} (h : Ty w t m K n x) : Calls Tryd.prog 6 #[.pointer (some ⟨t, 0, none⟩)] x fun e w' => e = .returned (.int .i64 (K : Int)) ∧ w' = x := by
  obtain ⟨base, v, vs, Q, hq, sy, hb, bl⟩ := h
  exact Gates_any sy
theorem ty_requires {w : World} {t m K n : Nat} {x : World} (h : Ty w t m K n x) : Calls Tryd.prog 7 #[.pointer (some ⟨t, 0, none⟩)] x fun e w' => e = .returned (.int .i64 (n : Int)) ∧ w' = x := by
  obtain ⟨base, v, vs, Q, hq, sy, hb, bl⟩ := h
  subst hq
  exact Requires_any sy
theorem ty_gate {w : World} {t m K n : Nat} {x : World} (h : Ty w t m K n x) (hK : K < 1024) : Calls Tryd.prog 8 #[.pointer (some ⟨t, 0, none⟩)] x fun e w' => e = .returned (tup 2 K 3 K 4 K 0) ∧ Ty w t m (K + 1) n w' := by
  obtain ⟨base, v, vs, Q, hq, sy, hb, bl⟩ := h
  refine (Gate_ok sy hK).mono fun e w' ⟨he, h1, h2⟩ => ⟨he, base, v, vs, Q, hq, h1, hb, bl.grown h2 bl.size (fun k hk => by obtain rfl := Option.some.inj hk; exact Nat.le_trans hb h1.bs)⟩
theorem ty_gatefull {w : World} {t m K n : Nat} {x : World} (h : Ty w t m K n x) (hK : 1024 ≤ K) : Calls Tryd.prog 8 #[.pointer (some ⟨t, 0, none⟩)] x fun e w' => e = .returned (tup 0 0 0 0 0 0 201) ∧ Below x.heap.size x w' := by
  obtain ⟨base, v, vs, Q, hq, sy, hb, bl⟩ := h
  exact Gate_full sy hK
theorem ty_req {w : World} {t m K n : Nat} {x : World} (hT : Tb w) (h : Ty w t m K n x) (P : Option Addr) (k c : Nat) (f : Nat → Trm) (hk : k ≤ 2932031007401) (hf : ∀ j, j < k → (f j).a.ok) (hL : Lt x P k f) (hw : nm m K (lf Sm.L (glL k f)).length (ft (lf Sm.L (glL k f))) = true) (hn : n < 4096) :
    Calls Tryd.prog 11 #[.pointer (some ⟨t, 0, none⟩), .slice P k c] x fun e w' => e = .returned (.int .i64 0) ∧ Ty w t m K (n + 1) w' := by
  obtain ⟨base, v, vs, Q, hq, sy, hb, bl⟩ := h
  refine (Require_ok sy (hT.keep bl) P k c f (by omega) hf hL hw (by omega)).mono fun e w' ⟨he, v', u, h1, h2, _⟩ => ⟨he, base, v', _, _, by rw [List.length_append, hq]; rfl, h1, hb, ty_fz sy hb bl h2⟩
theorem ty_reqfull {w : World} {t m K n : Nat} {x : World} (hT : Tb w) (h : Ty w t m K n x) (P : Option Addr) (k c : Nat) (f : Nat → Trm) (hk : k ≤ 2932031007401) (hf : ∀ j, j < k → (f j).a.ok) (hL : Lt x P k f) (hw : nm m K (lf Sm.L (glL k f)).length (ft (lf Sm.L (glL k f))) = true) (hn : 4096 ≤ n) :
    Calls Tryd.prog 11 #[.pointer (some ⟨t, 0, none⟩), .slice P k c] x fun e w' => e = .returned (.int .i64 201) ∧ Below x.heap.size x w' := by
  obtain ⟨base, v, vs, Q, hq, sy, hb, bl⟩ := h
  exact Require_full sy (hT.keep bl) P k c f (by omega) hf hL hw (by omega)
theorem ty_reqwire {w : World} {t m K n : Nat} {x : World} (hT : Tb w) (h : Ty w t m K n x) (P : Option Addr) (k c : Nat) (f : Nat → Trm) (hk : k ≤ 2932031007401) (hf : ∀ j, j < k → (f j).a.ok) (hL : Lt x P k f) (hw : nm m K (lf Sm.L (glL k f)).length (ft (lf Sm.L (glL k f))) = false) :
    Calls Tryd.prog 11 #[.pointer (some ⟨t, 0, none⟩), .slice P k c] x fun e w' => e = .returned (.int .i64 200) ∧ Below x.heap.size x w' := by
  obtain ⟨base, v, vs, Q, hq, sy, hb, bl⟩ := h
  exact Require_wire sy (hT.keep bl) P k c f (by omega) hf hL hw
theorem ty_mulfull {w : World} {t m K n : Nat} {x : World} (hT : Tb w) (h : Ty w t m K n x) (P : Option Addr) (k c : Nat) (f : Nat → Trm) (hk : k ≤ 2932031007401) (hf : ∀ j, j < k → (f j).a.ok) (hL : Lt x P k f) (hw : nm m K (lf Sm.L (glL k f)).length (ft (lf Sm.L (glL k f))) = true) (hn : 4094 < n ∨ 1024 ≤ K) :
    Calls Tryd.prog 10 #[.pointer (some ⟨t, 0, none⟩), .slice P k c, .slice P k c] x fun e w' => e = .returned (tup 0 0 0 0 0 0 201) ∧ Below x.heap.size x w' := by
  obtain ⟨base, v, vs, Q, hq, sy, hb, bl⟩ := h
  by_cases h1 : 4094 < n
  · exact Multiply_full2 sy (hT.keep bl) P P k c k c f f hk hk hf hf hL hL hw hw (by omega)
  · exact Multiply_full1 sy (hT.keep bl) P P k c k c f f hk hk hf hf hL hL hw hw (by omega) (by omega)
theorem ty_mul {w : World} {t m K n : Nat} {x : World} (hT : Tb w) (h : Ty w t m K n x) (P : Option Addr) (k c : Nat) (f : Nat → Trm) (hk : k ≤ 2932031007401) (hf : ∀ j, j < k → (f j).a.ok) (hL : Lt x P k f) (hw : nm m K (lf Sm.L (glL k f)).length (ft (lf Sm.L (glL k f))) = true) (hn : n ≤ 4094) (hK : K < 1024) :
    Calls Tryd.prog 10 #[.pointer (some ⟨t, 0, none⟩), .slice P k c, .slice P k c] x fun e w' => e = .returned (tup 2 K 3 K 4 K 0) ∧ Ty w t m (K + 1) (n + 2) w' := by
  obtain ⟨base, v, vs, Q, hq, sy, hb, bl⟩ := h
  refine (Multiply_ok sy (hT.keep bl) P P k c k c f f hk hk hf hf hL hL hw hw (by omega) hK).mono fun e w' ⟨he, v', vs', h1, h2⟩ => ⟨he, base, v', vs', _, by rw [List.length_append, hq]; rfl, h1, hb, ty_fz sy hb bl h2⟩
theorem ty_new {w x : World} {m : Nat} {y : World} (bl : Below w.heap.size w x) (h : Nu x x.heap.size m m y) : Ty w x.heap.size m m m y := by
  obtain ⟨Pv, cv, vs, sy, hb⟩ := h
  exact ⟨x.heap.size, _, vs, _, enl_len m, sy, bl.size, bl.trans (hb.mono bl.size)⟩
/-- nothing asks for no wire -/
theorem nm_nil (m K : Nat) (f : Nat → Trm) : nm m K (lf Sm.L (glL 0 f)).length (ft (lf Sm.L (glL 0 f))) = true := rfl
theorem lf_of (q : Wr) : lf Sm.L (glL 1 (ft [(q, 1)])) = [(q, 1)] := by
  have e : glL 1 (ft [(q, 1)]) = [(q, 1)] := by simp [glL, ft, tmOf, lst1]
  rw [e]
  exact (Cm.lf_only L0 (ls_of q) (fun _ => rfl)).symm
theorem nm_of (m K : Nat) (q : Wr) : nm m K (lf Sm.L (glL 1 (ft [(q, 1)]))).length (ft (lf Sm.L (glL 1 (ft [(q, 1)])))) = hs m K q := by
  rw [lf_of]
  cases h : hs m K q with
  | true => exact nm_true (fun x hx => by rw [List.mem_singleton.1 hx]; exact h)
  | false => exact nm_false (x := (q, 1)) (by simp) h
theorem hs_last (m : Nat) : hs m 1024 (4, 1023) = true := by unfold hs ct; simp
theorem hs_nine (m K : Nat) : hs m K (9, 0) = false := by unfold hs; simp
theorem hs_one (m K : Nat) : hs m K (1, 0) = true := by unfold hs ct; simp
theorem nm_const (m K : Nat) (k : E4) : nm m K (lf Sm.L (glL (lf Sm.L (glM k 1 oneT)).length (ft (lf Sm.L (glM k 1 oneT))))).length (ft (lf Sm.L (glL (lf Sm.L (glM k 1 oneT)).length (ft (lf Sm.L (glM k 1 oneT)))))) = true := by
  refine nm_lf (fun x hx => ?_)
  rw [glL_ft] at hx
  obtain ⟨y, hy, rfl⟩ := List.mem_map.1 hx
  obtain ⟨z, hz, e⟩ := lf_mem hy
  have : z.1 = (1, 0) := by
    simp only [glM, List.mem_map, List.mem_range] at hz
    obtain ⟨i, _, rfl⟩ := hz
    rfl
  show hs m K y.1 = true
  rw [e, this]
  exact hs_one m K
theorem const_len (k : E4) : (lf Sm.L (glM k 1 oneT)).length ≤ 1 := by
  have := lf_len_le (glM k 1 oneT)
  have e : (glM k 1 oneT).length = 1 := by simp [glM]
  omega
/-- gates, as memory has them -/
def gOf (w : World) (s : Nat) : Nat := match w.cell? ⟨s, 1, none⟩ with | some (.int _ k) => k.toNat | _ => 0
def rOf (w : World) (s : Nat) : Nat := match w.cell? ⟨s, 2, none⟩ with | some (.slice _ n _) => n | _ => 0
theorem ty_g {w : World} {t m K n : Nat} {x : World} (h : Ty w t m K n x) : gOf x t = K := by
  obtain ⟨base, v, vs, Q, hq, sy, hb, bl⟩ := h
  unfold gOf
  rw [sy.c1]
  simp
theorem ty_r {w : World} {t m K n : Nat} {x : World} (h : Ty w t m K n x) : rOf x t = n := by
  obtain ⟨base, v, vs, Q, hq, sy, hb, bl⟩ := h
  unfold rOf
  obtain ⟨P, c, hv, _, _⟩ := sy.shape
  rw [sy.c2, hv]
  exact hq
end Ci
end Go.Proofs.YtnbhkhhghhfjoaaDoor
