import Derived.Test.YtagfneojcgcigaaDoorUk
namespace Go.Proofs.YtagfneojcgcigaaDoor.Tr
open Go.RowKit
/-- calls as cells -/
def opc (rs : List Oq) : List Value := rs.flatMap fun o => [.int .i64 o.k, .int .i64 o.a, .string (sb o.l), .slice o.m.P o.ps.length o.m.c]
theorem opc_len (rs : List Oq) : (opc rs).length = rs.length * 4 := by
  induction rs with
  | nil => rfl
  | cons x r ih => simp only [opc, List.flatMap_cons, List.length_append, List.length_cons, List.length_nil] at ih ⊢; omega
theorem opc_app (a b : List Oq) : opc (a ++ b) = opc a ++ opc b := by simp [opc]
def oD : Oq := ⟨0, 0, [], [], ⟨none, 0, fun _ => none, fun _ => 0⟩⟩
theorem opc_at : ∀ (rs : List Oq) (t : Nat), t < rs.length → (opc rs)[t * 4]? = some (.int .i64 (rs.getD t oD).k) ∧ (opc rs)[t * 4 + 1]? = some (.int .i64 (rs.getD t oD).a) ∧ (opc rs)[t * 4 + 2]? = some (.string (sb (rs.getD t oD).l)) ∧ (opc rs)[t * 4 + 3]? = some (.slice (rs.getD t oD).m.P (rs.getD t oD).ps.length (rs.getD t oD).m.c)
  | x :: r, 0, _ => by simp [opc]
  | x :: r, t + 1, h => by
    have ih := opc_at r t (by simpa using h)
    have e : opc (x :: r) = [.int .i64 x.k, .int .i64 x.a, .string (sb x.l), .slice x.m.P x.ps.length x.m.c] ++ opc r := by simp [opc]
    have k : ∀ j, (opc (x :: r))[4 + j]? = (opc r)[j]? := fun j => by rw [e, List.getElem?_append_right (by simp)]; simp
    rw [show (t + 1) * 4 = 4 + t * 4 by omega, show 4 + t * 4 + 1 = 4 + (t * 4 + 1) by omega, show 4 + t * 4 + 2 = 4 + (t * 4 + 2) by omega, show 4 + t * 4 + 3 = 4 + (t * 4 + 3) by omega, k, k, k, k]
    simpa using ih
theorem own_ow4 {w : World} {base g n c : Nat} {e : TypeId} {rs : List Oq} (h : w.ownsRow base e 4 (.slice (some ⟨g, 0, none⟩) n c) n (opc rs)) (hn : rs.length = n) : Ow4 w g 0 n (fun t => rs.getD t oD) := by
  subst hn
  refine ⟨fun t ht => ?_, fun t ht => ?_, fun t ht => ?_, fun t ht => ?_⟩
  · rw [Nat.zero_add, h.cellAt _ (by omega)]; exact (opc_at rs t ht).1
  · rw [Nat.zero_add, h.cellAt _ (by omega)]; exact (opc_at rs t ht).2.1
  · rw [Nat.zero_add, h.cellAt _ (by omega)]; exact (opc_at rs t ht).2.2.1
  · rw [Nat.zero_add, h.cellAt _ (by omega)]; exact (opc_at rs t ht).2.2.2
/-- where a run of the law stands -/
structure Ls (w : World) (base s : Nat) (PL : Option Addr) (d m : Nat) (g : Nat → E4) (vH vW : Value) (es : List (En × Em)) (rs : List Oq) : Prop where
  x : B3 w s 54 (.slice PL m d) vH (.bool true)
  md : m ≤ d
  l : Lf w s PL m g
  h : Hr w base vH es
  v : w.ownsRow base 32 4 vW rs.length (opc rs)
  f1 : vW.ownBlock = none ∨ vW.ownBlock ≠ vH.ownBlock
  f2 : ∀ y ∈ es, PtIn (fun k => vW.ownBlock ≠ some k) y.2.P y.1.ps y.2.q
  en : es.map (fun y => y.1) = rs.map Oq.en
  sl : s < base
  bz : base ≤ w.heap.size
theorem Ls.keep {w w' : World} {base s : Nat} {PL : Option Addr} {d m : Nat} {g : Nat → E4} {vH vW : Value} {es : List (En × Em)} {rs : List Oq} (h : Ls w base s PL d m g vH vW es rs) (hz : w.heap.size ≤ w'.heap.size) (hb : ∀ k, k < w.heap.size → w'.heap[k]? = w.heap[k]?) : Ls w' base s PL d m g vH vW es rs :=
  ⟨h.x.blk (hb s h.x.lt), h.md, h.l.keep (fun k hk => hb k (by have := h.x.lt; omega)), h.h.keep hz (fun k hk => hb k (h.h.list.lt k hk).2) (B := fun _ => True) (fun y hy => (h.h.far y hy).mono (fun _ _ => trivial)) (fun _ _ _ hk => hb _ hk), own_blk h.v (fun k hk => hb k (h.v.lt k hk).2), h.f1, h.f2, h.en, h.sl, Nat.le_trans h.bz hz⟩
theorem Ls.stay {w w' : World} {base s : Nat} {PL : Option Addr} {d m : Nat} {g : Nat → E4} {vH vW : Value} {es : List (En × Em)} {rs : List Oq} (h : Ls w base s PL d m g vH vW es rs) (hb : Below w.heap.size w w') : Ls w' base s PL d m g vH vW es rs := h.keep hb.size (fun k hk => hb.block k hk)
theorem Ls.said {w w' : World} {base s : Nat} {PL PL' : Option Addr} {d d' m m' : Nat} {g g' : Nat → E4} {vH vW vn : Value} {es : List (En × Em)} {rs : List Oq} {y : En × Em} {o : Oq} (h : Ls w base s PL d m g vH vW es rs)
    (hx : B3 w' s 54 (.slice PL' m' d') vn (.bool true)) (hd : m' ≤ d') (hl : Lf w' s PL' m' g') (hh : Hr w' base vn (es ++ [y])) (hy : PtIn (fun k => w.heap.size ≤ k) y.2.P y.1.ps y.2.q) (hv : vn.ownBlock = vH.ownBlock ∨ ∃ g, vn.ownBlock = some g ∧ w.heap.size ≤ g) (ht : Bt (fun k => k = s ∨ vH.ownBlock = some k) w w') (he : y.1 = o.en)
    {w2 : World} {ob : Obj} {vm : Value} (hz : w'.heap.size ≤ w2.heap.size) (hb : ∀ k, k < w'.heap.size → w2.heap[k]? = w'.heap[k]? ∨ w.heap.size ≤ k ∧ PtIn (fun j => j ≠ k) y.2.P y.1.ps y.2.q ∧ vn.ownBlock ≠ some k) {w3 : World} (hg : (w2.alloc ob).grownBy w3 vW.ownBlock) (how : w3.ownsRow base 32 4 vm (rs.length + 1) (opc rs ++ [.int .i64 o.k, .int .i64 o.a, .string (sb o.l), .slice o.m.P o.ps.length o.m.c])) (hat : vm.ownBlock = vW.ownBlock ∨ vm.ownBlock = some (w2.alloc ob).heap.size) : Ls w3 base s PL' d' m' g' vn vm (es ++ [y]) (rs ++ [o]) := by
  have hvb : ∀ k, vW.ownBlock = some k → base ≤ k ∧ k < w.heap.size := fun k hk => h.v.lt k hk
  have hws := h.sl
  have hnn : vn.ownBlock ≠ vW.ownBlock ∨ vW.ownBlock = none := by
    by_cases e0 : vW.ownBlock = none
    · exact Or.inr e0
    · refine Or.inl fun e => ?_
      rcases hv with hv | ⟨j, hj, hz2⟩
      · rcases h.f1 with h1 | h1
        · exact e0 h1
        · exact h1 (e.symm.trans hv)
      · have := (hvb j (e.symm.trans hj)).2
        omega
  have k3 : ∀ k, k < w2.heap.size → vW.ownBlock ≠ some k → w3.heap[k]? = w2.heap[k]? := fun k hk hn => grown_blk hg hk (fun e => hn e.symm)
  have hs3 : w2.heap.size + 1 ≤ w3.heap.size := by have := hg.size; simp at this; omega
  have ww := ht.size
  have sm : s < w.heap.size := h.x.lt
  have low : ∀ k, k < w.heap.size → w2.heap[k]? = w'.heap[k]? := fun k hk => by
    rcases hb k (by omega) with e | e
    · exact e
    · omega
  have vns : ∀ k, vn.ownBlock = some k → w2.heap[k]? = w'.heap[k]? := fun k hk => by
    rcases hb k (hh.list.lt k hk).2 with e | e
    · exact e
    · exact absurd hk e.2.2
  have sW : vW.ownBlock ≠ some s := fun e => by have := (hvb s e).1; omega
  have hh2 : Hr w2 base vn (es ++ [y]) := by
    refine hh.keep hz vns (B := fun k => w2.heap[k]? = w'.heap[k]?) (fun z hz3 => ?_) (fun k hk _ _ => hk)
    have far := hh.far z hz3
    rcases List.mem_append.1 hz3 with hz4 | hz4
    · exact (h.h.far z hz4).mono (fun k hk => low k hk.2.1)
    · simp only [List.mem_singleton] at hz4
      subst hz4
      refine ⟨fun h0 a ha => ?_, fun i hi a ha => ?_⟩
      · rcases hb a.block (far.1 h0 a ha).2.1 with e | e
        · exact e
        · exact absurd rfl (e.2.1.1 h0 a ha)
      · rcases hb a.block (far.2 i hi a ha).2.1 with e | e
        · exact e
        · exact absurd rfl (e.2.1.2 i hi a ha)
  have f2' : ∀ z ∈ es ++ [y], PtIn (fun k => vW.ownBlock ≠ some k) z.2.P z.1.ps z.2.q := fun z hz3 => by
    rcases List.mem_append.1 hz3 with hz4 | hz4
    · exact h.f2 z hz4
    · simp only [List.mem_singleton] at hz4
      subst hz4
      exact hy.mono (fun k hk e => by have := (hvb k e).2; omega)
  refine ⟨(hx.blk (low s sm)).blk (k3 s (by omega) sW), hd, (hl.keep (w' := w2) (fun k hk => low k (by omega))).keep (fun k hk => k3 k (by omega) (fun e => by have := (hvb k e).1; omega)), ?_, ?_, ?_, ?_, ?_, hws, by have := h.bz; omega⟩
  · refine hh2.keep (by omega) (fun k hk => k3 k (hh2.list.lt k hk).2 (fun e => ?_)) f2' (fun k hk _ hlt => k3 k hlt hk)
    rcases hnn with h1 | h1
    · exact h1 (hk.trans e.symm)
    · rw [h1] at e; cases e
  · rw [List.length_append, opc_app]
    simpa [opc] using how
  · rcases hat with h1 | h1
    · rw [h1]
      rcases hnn with h2 | h2
      · exact Or.inr (fun e => h2 e.symm)
      · exact Or.inl h2
    · refine Or.inr fun e => ?_
      have := (hh2.list.lt _ (e.symm.trans h1)).2
      simp at this
      omega
  · intro z hz3
    rcases hat with h1 | h1
    · rw [h1]; exact f2' z hz3
    · exact (hh2.far z hz3).mono (fun k hk e => by have h5 := Option.some.inj (h1.symm.trans e); have := hk.2.1; simp at h5; omega)
  · rw [List.map_append, List.map_append, h.en]
    simp [he]
end Go.Proofs.YtagfneojcgcigaaDoor.Tr
