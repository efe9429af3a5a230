import Derived.Test.YtaejdgpffipaeaaGreatDoorRows
import Derived.Test.YtaejdgpffipaeaaGreatDoorWy
import Derived.WalkKit
import Derived.ProofKit
import Derived.OpenShut
import Derived.ChangeSlices
import Derived.Carry
import Derived.SizedLaws
namespace Go.Proofs.YtaejdgpffipaeaaGreatDoor.Tr
open Go.ChangeShapes Go.WideShapes Go.ChangeAt Go.RowKit
theorem one_leU {H : Type} (d : DataW H) : 1 ≤ Rows.uptoBulk d := by
 cases d with
 | lit l => cases l <;> simp [Rows.uptoBulk]
 | nil => simp [Rows.uptoBulk]
 | ptr d => simp [Rows.uptoBulk]
 | slice elems spare => simp [Rows.uptoBulk]
 | agg parts => simp [Rows.uptoBulk]
 | iface t d => simp [Rows.uptoBulk]
 | map entries => simp [Rows.uptoBulk]
 | held h => simp [Rows.uptoBulk]
theorem length_leU {H : Type} (l : List (DataW H)) : l.length ≤ Rows.uptoBulkAll l := by
 induction l with
 | nil => simp [Rows.uptoBulkAll]
 | cons x r ih => have := one_leU x; simp only [Rows.uptoBulkAll, List.length_cons]; omega
theorem slice_leU {H : Type} (elems spare : List (DataW H)) : elems.length + spare.length + 1 ≤ Rows.uptoBulk (.slice elems spare) := by
 have h1 := length_leU elems
 have h2 := length_leU spare
 simp only [Rows.uptoBulk]
 omega
def Sz {H : Type} (P : Program) (t : TypeId) (d : DataW H) : Prop := ∀ n ∈ d.weights P t, n ≤ reachBytes
theorem mem_all {H : Type} {P : Program} {e : TypeId} : ∀ {l : List (DataW H)} {y : DataW H}, y ∈ l → ∀ n ∈ y.weights P e, n ∈ DataW.weightsAll P e l
 | x :: r, y, h, n, hn => by
  simp only [DataW.weightsAll, List.mem_append]
  rcases List.mem_cons.1 h with rfl | h
  ·exact Or.inl hn
  ·exact Or.inr (mem_all h n hn)
theorem Sz.len {H : Type} {P : Program} {t e : TypeId} {es sp : List (DataW H)} (h : Sz P t (.slice es sp)) (hu : P.underlying t = some (.slice e)) : (es.length + sp.length) * P.bytesOf e ≤ reachBytes := h _ (by simp [DataW.weights, hu])
section
variable {H : Type} {enc : TypeId × Value → H} {w : World} {base : Nat} {sp : Nat → Bool} {held : Bool}
theorem undY : Tryz.prog.underlying 23 = some (.slice 5) := by kernel_rfl
theorem undb : Tryz.prog.underlying 5 = some (.int .u8) := by kernel_rfl
theorem undu : Tryz.prog.underlying 46 = some (.int .u64) := by kernel_rfl
theorem undi : Tryz.prog.underlying 3 = some (.int .i64) := by kernel_rfl
theorem celb : Tryz.prog.cellsOf 5 = 1 := by kernel_rfl
theorem celY : Tryz.prog.cellsOf 23 = 1 := by kernel_rfl
theorem bytb : Tryz.prog.bytesOf 5 = 1 := by kernel_rfl
theorem openBy {fuel : Nat} {cs : List Value} {x : DataW H × List MemPlace} (h : DataW.trod enc Tryz.prog w base sp held fuel 23 cs = some x) :
  ∃ (P : Option Addr) (bs : List UInt8) (c : Nat), cs = [.slice P bs.length c] ∧ By w P c bs ∧ bs.length + 1 ≤ Rows.uptoBulk x.1 ∧ bs.length ≤ c := by
 rcases open_ints undY undb celb h with ⟨hcs, hx⟩ | ⟨a, len, cap, zs, hcs, _, hl, hm, hz, hx, hcell, hwz⟩
 ·subst hx
  exact ⟨none, [], 0, hcs, ⟨fun _ => ⟨rfl, rfl⟩, fun a ha => (by cases ha)⟩, by simp [Rows.uptoBulk], Nat.le_refl _⟩
 ·subst hx
  have hlz : len ≤ zs.length := by rw [hz]; split <;> omega
  have hlen : ((zs.take len).map fun z => UInt8.ofNat z.toNat).length = len := by simp; omega
  refine ⟨some a, (zs.take len).map fun z => UInt8.ofNat z.toNat, cap, by rw [hlen]; exact hcs, ⟨fun h => (by cases h), fun a' ha j u hu => ?_⟩, ?_, by rw [hlen]; exact hl⟩
  ·obtain rfl := Option.some.inj ha
   have hj : j < len := by
    have := (List.getElem?_eq_some_iff.1 hu).1
    rw [cb_len, hlen] at this
    exact this
   rw [hcell j (by omega), ← hu]
   have hmem : zs.getD j 0 ∈ zs := by
    rw [List.getD_eq_getElem?_getD, List.getElem?_eq_getElem (by omega)]
    exact List.getElem_mem _
   have hb := bounds_u8 (hwz _ hmem)
   have e1 : zs[j]? = some (zs.getD j 0) := by simp [List.getElem?_eq_getElem (show j < zs.length by omega)]
   simp only [cb, List.map_map, List.getElem?_map, List.getElem?_take_of_lt hj, e1, Option.map_some, Function.comp, UInt8.toNat_ofNat', Option.some.injEq, Value.int.injEq, true_and]
   omega
  ·have := slice_leU (H := H) (lits .u8 (zs.take len)) (lits .u8 (zs.drop len))
   have e2 : (lits (H := H) .u8 (zs.take len)).length = len := by simp [lits]; omega
   rw [hlen]
   show len + 1 ≤ Rows.uptoBulk (.slice (lits .u8 (zs.take len)) (lits .u8 (zs.drop len)))
   omega
theorem openByW {fuel : Nat} {cs : List Value} {x : DataW H × List MemPlace} (h : DataW.trod enc Tryz.prog w base sp held fuel 23 cs = some x) (hz : Sz Tryz.prog 23 x.1) :
  ∃ (P : Option Addr) (bs : List UInt8) (c : Nat), cs = [.slice P bs.length c] ∧ By w P c bs ∧ bs.length ≤ 140737488351232 := by
 obtain ⟨P, bs, c, hcs, hby, _⟩ := openBy h
 refine ⟨P, bs, c, hcs, hby, ?_⟩
 rcases open_ints undY undb celb h with ⟨hc2, hx⟩ | ⟨a, len, cap, zs, hc2, _, hl, hm, hzl, hx, _, _⟩
 ·have e := hcs.symm.trans hc2
  simp only [List.cons.injEq, Value.slice.injEq, and_true] at e
  omega
 ·have e := hcs.symm.trans hc2
  simp only [List.cons.injEq, Value.slice.injEq, and_true] at e
  subst hx
  have h1 := Sz.len hz undY
  rw [bytb] at h1
  have h2 : (lits (H := H) .u8 (zs.take len)).length + (lits (H := H) .u8 (zs.drop len)).length = zs.length := by simp [lits]; omega
  have hlz : len ≤ zs.length := by rw [hzl]; split <;> omega
  rw [h2] at h1
  unfold reachBytes at h1
  omega
theorem openY {v : Value} {d : DataW H} {p : List MemPlace} (h : DataW.Trod enc Tryz.prog w base sp held 23 v d p) (hv : ∃ a0 len cap, v = .slice a0 len cap) :
  ∃ (P : Option Addr) (bs : List UInt8) (c : Nat), v = .slice P bs.length c ∧ By w P c bs ∧ bs.length + 1 ≤ Rows.uptoBulk d ∧ (Sz Tryz.prog 23 d → bs.length ≤ 140737488351232) ∧ bs.length ≤ c := by
 obtain ⟨a0, len, cap, rfl⟩ := hv
 obtain ⟨fuel, hf⟩ := h
 obtain ⟨P, bs, c, hcs, hby, hbu, hbc⟩ := openBy hf
 have hcs' := hcs
 simp only [Value.cells, List.cons.injEq, and_true] at hcs'
 refine ⟨P, bs, c, by simpa using hcs', hby, hbu, fun hz => ?_, hbc⟩
 obtain ⟨P2, bs2, c2, hcs2, _, hl⟩ := openByW hf hz
 have e := hcs.symm.trans hcs2
 simp only [List.cons.injEq, Value.slice.injEq, and_true] at e
 omega
end
end Go.Proofs.YtaejdgpffipaeaaGreatDoor.Tr
