import Derived.Test.YtagfneojcgcigaaDoorRows
import Derived.Test.YtagfneojcgcigaaDoorTg
import Derived.WalkKit
import Derived.ProofKit
import Derived.OpenShut
import Derived.ChangeSlices
import Derived.Carry
namespace Go.Proofs.YtagfneojcgcigaaDoor.Tr
open Go.ChangeShapes Go.WideShapes Go.ChangeAt Go.RowKit
theorem one_leU {H : Type} (d : DataW H) : 1 ≤ Rows.uptoBulk d := by
  cases d with
  | lit l => cases l <;> simp [Rows.uptoBulk]
  | nil => simp [Rows.uptoBulk]
  | ptr d => simp [Rows.uptoBulk]
  | slice elems spare => simp [Rows.uptoBulk]
  | agg parts => simp [Rows.uptoBulk]
  | iface t d => simp [Rows.uptoBulk]
  | map entries => simp [Rows.uptoBulk]
  | held h => simp [Rows.uptoBulk]
theorem length_leU {H : Type} (l : List (DataW H)) : l.length ≤ Rows.uptoBulkAll l := by
  induction l with
  | nil => simp [Rows.uptoBulkAll]
  | cons x r ih => have := one_leU x; simp only [Rows.uptoBulkAll, List.length_cons]; omega
theorem slice_leU {H : Type} (elems spare : List (DataW H)) : elems.length + spare.length + 1 ≤ Rows.uptoBulk (.slice elems spare) := by
  have h1 := length_leU elems
  have h2 := length_leU spare
  simp only [Rows.uptoBulk]
  omega
theorem bulk_sum {H : Type} : ∀ (ps : List (List UInt8)) (es : List (DataW H)), ps.length = es.length → (∀ i, i < ps.length → (ps.getD i []).length + 1 ≤ Rows.uptoBulk (es.getD i .nil)) → (ps.map fun p => 8 + p.length).sum ≤ 8 * Rows.uptoBulkAll es
  | [], [], _, _ => by simp
  | [], _ :: _, h, _ => by simp at h
  | _ :: _, [], h, _ => by simp at h
  | p :: ps, e :: es, h, hi => by
    have h0 := hi 0 (by simp)
    have ih := bulk_sum ps es (by simpa using h) (fun i hl => by have := hi (i + 1) (by simpa using hl); simpa using this)
    simp only [List.getD_cons_zero] at h0
    simp only [List.map_cons, List.sum_cons, Rows.uptoBulkAll]
    omega
section
variable {H : Type} {enc : TypeId × Value → H} {w : World} {base : Nat} {sp : Nat → Bool} {held : Bool}
theorem undP : Tryd.prog.underlying 30 = some (.slice 55) := by kernel_rfl
theorem undY : Tryd.prog.underlying 55 = some (.slice 5) := by kernel_rfl
theorem undb : Tryd.prog.underlying 5 = some (.int .u8) := by kernel_rfl
theorem unds : Tryd.prog.underlying 9 = some .string := by kernel_rfl
theorem celb : Tryd.prog.cellsOf 5 = 1 := by kernel_rfl
theorem celY : Tryd.prog.cellsOf 55 = 1 := by kernel_rfl
theorem openBy {fuel : Nat} {cs : List Value} {x : DataW H × List MemPlace} (h : DataW.trod enc Tryd.prog w base sp held fuel 55 cs = some x) :
    ∃ (P : Option Addr) (bs : List UInt8) (c : Nat), cs = [.slice P bs.length c] ∧ By w P c bs ∧ bs.length + 1 ≤ Rows.uptoBulk x.1 := by
  rcases open_ints undY undb celb h with ⟨hcs, hx⟩ | ⟨a, len, cap, zs, hcs, _, hl, hm, hz, hx, hcell, hwz⟩
  · subst hx
    exact ⟨none, [], 0, hcs, ⟨fun _ => ⟨rfl, rfl⟩, fun a ha => (by cases ha)⟩, by simp [Rows.uptoBulk]⟩
  · subst hx
    have hlz : len ≤ zs.length := by rw [hz]; split <;> omega
    have hlen : ((zs.take len).map fun z => UInt8.ofNat z.toNat).length = len := by simp; omega
    refine ⟨some a, (zs.take len).map fun z => UInt8.ofNat z.toNat, cap, by rw [hlen]; exact hcs, ⟨fun h => (by cases h), fun a' ha j u hu => ?_⟩, ?_⟩
    · obtain rfl := Option.some.inj ha
      have hj : j < len := by
        have := (List.getElem?_eq_some_iff.1 hu).1
        rw [cb_len, hlen] at this
        exact this
      rw [hcell j (by omega), ← hu]
      have hmem : zs.getD j 0 ∈ zs := by
        rw [List.getD_eq_getElem?_getD, List.getElem?_eq_getElem (by omega)]
        exact List.getElem_mem _
      have hb := bounds_u8 (hwz _ hmem)
      have e1 : zs[j]? = some (zs.getD j 0) := by simp [List.getElem?_eq_getElem (show j < zs.length by omega)]
      simp only [cb, List.map_map, List.getElem?_map, List.getElem?_take_of_lt hj, e1, Option.map_some, Function.comp, UInt8.toNat_ofNat', Option.some.injEq, Value.int.injEq, true_and]
      omega
    · have := slice_leU (H := H) (lits .u8 (zs.take len)) (lits .u8 (zs.drop len))
      have e2 : (lits (H := H) .u8 (zs.take len)).length = len := by simp [lits]; omega
      rw [hlen]
      show len + 1 ≤ Rows.uptoBulk (.slice (lits .u8 (zs.take len)) (lits .u8 (zs.drop len)))
      omega
theorem openPt {v : Value} {d : DataW H} {p : List MemPlace} (h : DataW.Trod enc Tryd.prog w base sp held 30 v d p) (hv : ∃ a0 len cap, v = .slice a0 len cap) :
    ∃ (P : Option Addr) (ps : List (List UInt8)) (cap : Nat) (q : Nat → Option Addr) (c : Nat → Nat), v = .slice P ps.length cap ∧ (P = none → cap = 0) ∧ ps.length ≤ cap ∧ Pt w P ps q c ∧ (ps.map fun p => 8 + p.length).sum ≤ 8 * Rows.uptoBulk d := by
  obtain ⟨a0, len, cap, rfl⟩ := hv
  obtain ⟨fuel, hf⟩ := h
  rcases DataW.trod_slice undP hf with ⟨hcs, hx⟩ | ⟨a, len', cap', elems, rest, n, _, hcs, hx, _, hl, hm, hlen, hel, _, _⟩
  · simp [Value.cells] at hcs
    obtain ⟨rfl, rfl, rfl⟩ := hcs
    exact ⟨none, [], 0, fun _ => none, fun _ => 0, rfl, fun _ => rfl, Nat.le_refl _, ⟨fun h => absurd h (by simp), fun i hi => absurd hi (by simp)⟩, by simp⟩
  · simp [Value.cells] at hcs
    obtain ⟨rfl, rfl, rfl⟩ := hcs
    simp only [Prod.mk.injEq] at hx
    obtain ⟨b, off, spot⟩ := a
    have key : ∀ k, ∃ z : Option Addr × List UInt8 × Nat, k < len → w.cell? ((⟨b, off, spot⟩ : Addr).add k) = some (.slice z.1 z.2.1.length z.2.2) ∧ By w z.1 z.2.2 z.2.1 ∧ z.2.1.length + 1 ≤ Rows.uptoBulk ((elems.map (·.1)).getD k .nil) := by
      intro k
      by_cases hk : k < len
      · have h1 := hel k hk
        obtain ⟨y, hy⟩ : ∃ y, elems[k]? = some y := ⟨elems[k]'(by omega), by simp [hlen, hk]⟩
        rw [hy, Option.bind_eq_some_iff, celY, Nat.mul_one] at h1
        obtain ⟨cs, hc, ht⟩ := h1
        obtain ⟨P, bs, c, rfl, hby, hbu⟩ := openBy ht
        refine ⟨(P, bs, c), fun _ => ⟨cell_of_cells?_one hc, hby, ?_⟩⟩
        simpa [hy] using hbu
      · exact ⟨(none, [], 0), fun h => absurd h hk⟩
    obtain ⟨g, hg⟩ := Classical.axiomOfChoice key
    have e0 : ((List.range len).map fun k => (g k).2.1).length = len := by simp
    have e1 : ∀ i, i < len → ((List.range len).map fun k => (g k).2.1).getD i [] = (g i).2.1 := fun i hi => by simp [List.getElem?_range hi]
    refine ⟨_, (List.range len).map fun k => (g k).2.1, cap, fun k => (g k).1, fun k => (g k).2.2, by rw [e0], fun h => (by cases h), by rw [e0]; exact hl, ⟨fun h0 => ?_, fun i hi => ?_⟩, ?_⟩
    · rw [e0] at h0 ⊢
      have hs : spot = none := by simpa [Addr.add] using World.cell?_spot (hg 0 h0).1
      subst hs
      refine ⟨b, off, rfl, fun i hi => ?_⟩
      have := (hg i hi).1
      rw [Addr.add_lit] at this
      rw [e1 i hi]
      exact this
    · rw [e0] at hi
      rw [e1 i hi]
      exact (hg i hi).2.1
    · have := bulk_sum ((List.range len).map fun k => (g k).2.1) (elems.map (·.1)) (by simp [hlen]) (fun i hi => by
        rw [e0] at hi
        rw [e1 i hi]
        exact (hg i hi).2.2)
      rw [hx.1]
      simp only [Rows.uptoBulk]
      omega
end
end Go.Proofs.YtagfneojcgcigaaDoor.Tr
