import Derived.Test.YtcenphihmggfkaaDoorStv
namespace Go.Proofs.YtcenphihmggfkaaDoor
open Go.RowKit
def nf5 (n nb : Nat) : Nat → Nat
  | 2 => nb
  | _ => n
def pf5 (p0 p1 p2 p3 p4 : Option Addr) : Nat → Option Addr
  | 0 => p0
  | 1 => p1
  | 2 => p2
  | 3 => p3
  | _ => p4
def bf5 (b0 b1 b2 b3 b4 : Nat) : Nat → Nat
  | 0 => b0
  | 1 => b1
  | 2 => b2
  | 3 => b3
  | _ => b4
def gf5 (f h : Nat → Int) : Nat → Nat → E4
  | 4 => tp h
  | _ => tp f
/-- the five lists that the law hands to apart -/
theorem tapes_apart {w0 : World} {g L n nb : Nat} {h f : Nat → Int} {w : World} {bo bg bc bb ba bm bl : Nat} {po pc pb pa pl : Option Addr} (t : Ts w0 g L h [(bo, n, tp h), (bg, n, tp h), (bc, n, tp f), (bb, nb, tp f), (ba, n, tp f), (bm, n, tp f), (bl, n, tp f)] w)
    (hn : n ≤ 4096) (hnb : nb ≤ 4096) (p0 : 0 < n → pl = some ⟨bl, 0, none⟩) (p1 : 0 < n → pa = some ⟨ba, 0, none⟩) (p2 : 0 < nb → pb = some ⟨bb, 0, none⟩) (p3 : 0 < n → pc = some ⟨bc, 0, none⟩) (p4 : 0 < n → po = some ⟨bo, 0, none⟩)
    (z0 : n = 0 → pl = none ∨ ∃ x, pl = some ⟨x, 0, none⟩) (z1 : n = 0 → pa = none ∨ ∃ x, pa = some ⟨x, 0, none⟩) (z2 : nb = 0 → pb = none ∨ ∃ x, pb = some ⟨x, 0, none⟩) (z3 : n = 0 → pc = none ∨ ∃ x, pc = some ⟨x, 0, none⟩) (z4 : n = 0 → po = none ∨ ∃ x, po = some ⟨x, 0, none⟩) (ty : TypeId) :
    As3 w0 w.heap.size 5 (nf5 n nb) (pf5 pl pa pb pc po) (bf5 bl ba bb bc bo) ∧
    AsW w0 w.heap.size 5 (nf5 n nb) (pf5 pl pa pb pc po) (bf5 bl ba bb bc bo) (gf5 f h) (w.alloc (.cells #[.slice pl n n, .slice pa n n, .slice pb nb nb, .slice pc n n, .slice po n n] ty)) := by
  have i5 : ∀ i, i < 5 → i = 0 ∨ i = 1 ∨ i = 2 ∨ i = 3 ∨ i = 4 := by omega
  have ro := t.rows (bo, n, tp h) (by simp)
  have rc := t.rows (bc, n, tp f) (by simp)
  have rb := t.rows (bb, nb, tp f) (by simp)
  have ra := t.rows (ba, n, tp f) (by simp)
  have rl := t.rows (bl, n, tp f) (by simp)
  simp only at ro rc rb ra rl
  have pw := t.pw
  simp only [List.pairwise_cons, List.mem_cons, List.not_mem_nil, or_false, forall_eq_or_imp, forall_eq] at pw
  obtain ⟨⟨_, oc, ob, oa, _, ol⟩, _, ⟨cb, ca, _, cl⟩, ⟨bba, _, bbl⟩, ⟨_, al⟩, _⟩ := pw
  have g0 := t.g0
  refine ⟨⟨by omega, fun i hi => ?_, fun i hi hp => ?_, fun i hi hz => ?_, fun i j hi hj h1 h2 hne => ?_, fun i hi hp => ?_, fun i hi hp => ?_⟩, ⟨bl_trans t.bel (bl_alloc _ _), fun i hi => ?_, fun i hi hp => ?_⟩⟩
  · rcases i5 i hi with rfl | rfl | rfl | rfl | rfl <;> simp only [nf5] <;> omega
  · rcases i5 i hi with rfl | rfl | rfl | rfl | rfl
    · exact p0 hp
    · exact p1 hp
    · exact p2 hp
    · exact p3 hp
    · exact p4 hp
  · rcases i5 i hi with rfl | rfl | rfl | rfl | rfl
    · exact z0 hz
    · exact z1 hz
    · exact z2 hz
    · exact z3 hz
    · exact z4 hz
  · rcases i5 i hi with rfl | rfl | rfl | rfl | rfl <;> rcases i5 j hj with rfl | rfl | rfl | rfl | rfl <;> simp only [nf5, bf5] at h1 h2 ⊢ <;> first | exact absurd rfl hne | exact oc h1 h2 | exact (oc h2 h1).symm | exact ob h1 h2 | exact (ob h2 h1).symm | exact oa h1 h2 | exact (oa h2 h1).symm | exact ol h1 h2 | exact (ol h2 h1).symm | exact cb h1 h2 | exact (cb h2 h1).symm | exact ca h1 h2 | exact (ca h2 h1).symm | exact cl h1 h2 | exact (cl h2 h1).symm | exact bba h1 h2 | exact (bba h2 h1).symm | exact bbl h1 h2 | exact (bbl h2 h1).symm | exact al h1 h2 | exact (al h2 h1).symm
  · rcases i5 i hi with rfl | rfl | rfl | rfl | rfl <;> simp only [nf5, bf5] at hp ⊢
    · have := (rl hp).2.lt; omega
    · have := (ra hp).2.lt; omega
    · have := (rb hp).2.lt; omega
    · have := (rc hp).2.lt; omega
    · have := (ro hp).2.lt; omega
  · rcases i5 i hi with rfl | rfl | rfl | rfl | rfl <;> simp only [nf5, bf5] at hp ⊢
    · have := (rl hp).1; omega
    · have := (ra hp).1; omega
    · have := (rb hp).1; omega
    · have := (rc hp).1; omega
    · have := (ro hp).1; omega
  · rcases i5 i hi with rfl | rfl | rfl | rfl | rfl <;> (rw [World.cell?_alloc_mark]; rfl)
  · rcases i5 i hi with rfl | rfl | rfl | rfl | rfl
    · exact (rl hp).2.keep (bl_alloc _ _)
    · exact (ra hp).2.keep (bl_alloc _ _)
    · exact (rb hp).2.keep (bl_alloc _ _)
    · exact (rc hp).2.keep (bl_alloc _ _)
    · exact (ro hp).2.keep (bl_alloc _ _)
end Go.Proofs.YtcenphihmggfkaaDoor
