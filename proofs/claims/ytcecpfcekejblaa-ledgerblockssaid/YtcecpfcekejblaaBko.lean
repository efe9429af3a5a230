import Derived.Test.YtcecpfcekejblaaWo
import Derived.Test.YtcecpfcekejblaaArr
import Derived.Test.YtcecpfcekejblaaBkk
namespace Go.Proofs.Ytcecpfcekejblaa
open Go.ChangeShapes Go.WideShapes Go.ChangeAt Go.RowKit
section
variable {H : Type} {enc : TypeId × Value → H} {w : World} {base : Nat} {sp : Nat → Bool} {held : Bool}
theorem undP : Try.prog.underlying 25 = some (.slice 24) := by kernel_rfl
theorem bytY : Try.prog.bytesOf 24 = 24 := by kernel_rfl
theorem undW : Try.prog.underlying 23 = some (.array 64 5) := by kernel_rfl
theorem celW : Try.prog.cellsOf 23 = 64 := by kernel_rfl
theorem openPsW {fuel : Nat} {cs : List Value} {x : DataW H × List MemPlace} (h : DataW.trod enc Try.prog w base sp held fuel 25 cs = some x) (hz : Sz Try.prog 25 x.1) :
    ∃ (P : Option Addr) (ps : List (List UInt8)) (cap : Nat) (q : Nat → Option Addr) (c : Nat → Nat), cs = [.slice P ps.length cap] ∧ Pt w P ps q c ∧ Bd ps := by
  rcases DataW.trod_slice undP h with ⟨hcs, hx⟩ | ⟨a, len, cap, elems, rest, n, _, hcs, hx, _, hl, hm, hlen, hel, _, _⟩
  · exact ⟨none, [], 0, fun _ => none, fun _ => 0, hcs, ⟨fun h => absurd h (by simp), fun i hi => absurd hi (by simp)⟩, by simp, fun r hr => absurd hr (by simp)⟩
  · obtain ⟨b, off, spot⟩ := a
    subst hx
    have key : ∀ k, ∃ z : Option Addr × List UInt8 × Nat, k < len → w.cell? ((⟨b, off, spot⟩ : Addr).add k) = some (.slice z.1 z.2.1.length z.2.2) ∧ By w z.1 z.2.2 z.2.1 ∧ z.2.1.length ≤ 140737488351232 := by
      intro k
      by_cases hk : k < len
      · have h1 := hel k hk
        obtain ⟨y, hy⟩ : ∃ y, elems[k]? = some y := ⟨elems[k]'(by omega), by simp [hlen, hk]⟩
        rw [hy, Option.bind_eq_some_iff, celY, Nat.mul_one] at h1
        obtain ⟨cs, hc, ht⟩ := h1
        obtain ⟨P, bs, c, rfl, hby, hbu⟩ := openByW ht (Sz.elem hz undP (List.mem_map.2 ⟨y, List.mem_of_getElem? hy, rfl⟩))
        exact ⟨(P, bs, c), fun _ => ⟨cell_of_cells?_one hc, hby, hbu⟩⟩
      · exact ⟨(none, [], 0), fun h => absurd h hk⟩
    obtain ⟨g, hg⟩ := Classical.axiomOfChoice key
    have e0 : ((List.range len).map fun k => (g k).2.1).length = len := by simp
    have e1 : ∀ i, i < len → ((List.range len).map fun k => (g k).2.1).getD i [] = (g i).2.1 := fun i hi => by simp [List.getElem?_range hi]
    refine ⟨_, (List.range len).map fun k => (g k).2.1, cap, fun k => (g k).1, fun k => (g k).2.2, by rw [e0]; exact hcs, ⟨fun h0 => ?_, fun i hi => ?_⟩, ?_⟩
    · rw [e0] at h0 ⊢
      have hs : spot = none := by simpa [Addr.add] using World.cell?_spot (hg 0 h0).1
      subst hs
      refine ⟨b, off, rfl, fun i hi => ?_⟩
      have := (hg i hi).1
      rw [Addr.add_lit] at this
      rw [e1 i hi]
      exact this
    · rw [e0] at hi
      rw [e1 i hi]
      exact (hg i hi).2.1
    · have h1 := Sz.len hz undP
      rw [bytY, List.length_map, List.length_map, hlen] at h1
      unfold reachBytes at h1
      refine ⟨by rw [e0]; omega, fun r hr => ?_⟩
      rw [e0] at hr
      rw [e1 r hr]
      exact (hg r hr).2.2
theorem openPsV {v : Value} {d : DataW H} {p : List MemPlace} (h : DataW.Trod enc Try.prog w base sp held 25 v d p) (hv : ∃ a0 len cap, v = .slice a0 len cap) (hz : Sz Try.prog 25 d) :
    ∃ (P : Option Addr) (ps : List (List UInt8)) (cap : Nat) (q : Nat → Option Addr) (c : Nat → Nat), v = .slice P ps.length cap ∧ Pt w P ps q c ∧ Bd ps := by
  obtain ⟨a0, len, cap, rfl⟩ := hv
  obtain ⟨fuel, hf⟩ := h
  obtain ⟨P, ps, c0, q, c, hcs, h1, h2⟩ := openPsW hf hz
  simp only [Value.cells, List.cons.injEq, and_true] at hcs
  exact ⟨P, ps, c0, q, c, by simpa using hcs, h1, h2⟩
/-- integers as bytes -/
theorem ints_cb (zs : List Int) (h : ∀ z ∈ zs, (Lit.int .u8 z).wf = true) : (zs.map fun z => Value.int .u8 z) = cb (zs.map fun z => UInt8.ofNat z.toNat) := by
  unfold cb
  rw [List.map_map]
  refine List.map_congr_left fun z hz => ?_
  have hb := bounds_u8 (h z hz)
  simp only [Function.comp, UInt8.toNat_ofNat']
  congr 1
  omega
end
end Go.Proofs.Ytcecpfcekejblaa
