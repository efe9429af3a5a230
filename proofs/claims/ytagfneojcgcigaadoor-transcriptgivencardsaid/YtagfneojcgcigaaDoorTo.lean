import Derived.Test.YtagfneojcgcigaaDoorTn
namespace Go.Proofs.YtagfneojcgcigaaDoor.Tr
open Go.RowKit
/-- all blocks but those of S stay -/
structure Bt (S : Nat → Prop) (w w' : World) : Prop where
  os : w'.os = w.os
  tape : w'.tape = w.tape
  output : w'.output = w.output
  size : w.heap.size ≤ w'.heap.size
  block : ∀ k, k < w.heap.size → ¬ S k → w'.heap[k]? = w.heap[k]?
theorem Bt.refl (S : Nat → Prop) (w : World) : Bt S w w := ⟨rfl, rfl, rfl, Nat.le_refl _, fun _ _ _ => rfl⟩
theorem Bt.trans {S : Nat → Prop} {w w1 w2 : World} (h : Bt S w w1) (g : Bt S w1 w2) : Bt S w w2 :=
  ⟨g.os.trans h.os, g.tape.trans h.tape, g.output.trans h.output, Nat.le_trans h.size g.size, fun k hk hs => (g.block k (Nat.lt_of_lt_of_le hk h.size) hs).trans (h.block k hk hs)⟩
theorem Bt.of {S : Nat → Prop} {w w' : World} (h : Below w.heap.size w w') : Bt S w w' := ⟨h.os, h.tape, h.output, h.size, fun k hk _ => h.block k hk⟩
theorem Bt.set {S : Nat → Prop} {w : World} {b : Nat} (hb : S b) (j : Nat) (v : Value) : Bt S w (w.setCell ⟨b, j, none⟩ v) :=
  ⟨rfl, rfl, rfl, by simp, fun k _ hs => set_ne w b j k v (fun e => hs (e ▸ hb))⟩
theorem Bt.below {S : Nat → Prop} {w w' : World} {n : Nat} (h : Bt S w w') (hn : n ≤ w.heap.size) (hs : ∀ k, S k → n ≤ k) : Below n w w' :=
  ⟨h.os, h.tape, h.output, h.size, fun k hk => h.block k (by omega) (fun s => by have := hs k s; omega)⟩
theorem Bt.grown {S : Nat → Prop} {w w1 w' : World} {row : Option Nat} (h : Bt S w w1) (hg : w1.grownBy w' row) (hr : ∀ k, row = some k → w.heap.size ≤ k) : Bt S w w' :=
  ⟨hg.os.trans h.os, hg.tape.trans h.tape, hg.output.trans h.output, Nat.le_trans h.size hg.size, fun k hk hs => (hg.block k (Nat.lt_of_lt_of_le hk h.size) (fun e => by have := hr k e.symm; omega)).trans (h.block k hk hs)⟩
/-- every byte turned -/
def xr (p : List UInt8) : List UInt8 := p.map fun b => b ^^^ 59
theorem xr_len (p : List UInt8) : (xr p).length = p.length := by simp [xr]
/-- the first j bytes turned -/
def xj (p : List UInt8) (j : Nat) : List UInt8 := xr (p.take j) ++ p.drop j
theorem xj_zero (p : List UInt8) : xj p 0 = p := by simp [xj, xr]
theorem xj_all (p : List UInt8) : xj p p.length = xr p := by simp [xj]
theorem xj_len (p : List UInt8) (j : Nat) : (xj p j).length = p.length := by
  simp only [xj, List.length_append, xr_len, List.length_take, List.length_drop]; omega
theorem xj_at (p : List UInt8) (j : Nat) (h : j < p.length) : (xj p j)[j]? = some p[j] := by
  unfold xj
  rw [List.getElem?_append_right (by rw [xr_len, List.length_take]; omega), xr_len, List.length_take, List.getElem?_drop]
  rw [show j + (j - min j p.length) = j by omega]
  exact List.getElem?_eq_getElem h
theorem xj_set (p : List UInt8) (j : Nat) (h : j < p.length) : (xj p j).set j (p[j] ^^^ 59) = xj p (j + 1) := by
  unfold xj
  rw [List.set_append_right _ _ (by rw [xr_len, List.length_take]; omega), xr_len, List.length_take, show j - min j p.length = 0 by omega]
  rw [List.drop_eq_getElem_cons h, List.set_cons_zero, List.take_add_one, List.getElem?_eq_getElem h]
  show xr (p.take j) ++ _ = xr (p.take j ++ [p[j]]) ++ _
  unfold xr
  rw [List.map_append, List.append_assoc]
  rfl
theorem cb_set (bs : List UInt8) (j : Nat) (b : UInt8) : (cb bs).set j (.int .u8 (b.toNat : Int)) = cb (bs.set j b) := by
  simp [cb, List.map_set]
theorem Hd.setRow {w : World} {base : Nat} {vF vH : Value} {kF kH kR : Nat} {ex : List Value} {n : Nat → Nat} {r r' : Nat → List UInt8} {f cp : Nat → Nat} (h : Hd w base vF vH kF kH kR ex n r f cp) {i : Nat} (hi : i < kR) (j : Nat) (b : UInt8) (hr : ∀ t, t ≠ i → r' t = r t) (hr' : r' i = (r i).set j b) : Hd (w.setCell ⟨f i, j, none⟩ (.int .u8 (b.toNat : Int))) base vF vH kF kH kR ex n r' f cp := by
  have hs := (h.row i hi).stored j (.int .u8 (b.toNat : Int))
  have hb : ∀ k, k ≠ f i → (w.setCell ⟨f i, j, none⟩ (.int .u8 (b.toNat : Int))).heap[k]? = w.heap[k]? := fun k hk => set_ne _ _ _ _ _ hk
  refine ⟨own_blk h.full (fun g e => hb g (fun e2 => (h.off i hi).1 (e2 ▸ e))), own_blk h.head (fun g e => hb g (fun e2 => (h.off i hi).2 (e2 ▸ e))), fun t ht => ?_, h.off, h.ne, h.fh⟩
  by_cases e : t = i
  · subst e
    have := hs.1
    rw [cb_set, ← hr'] at this
    exact this
  · rw [hr t e]
    exact own_blk (h.row t ht) (fun g e1 => hb g (fun e2 => h.ne t i ht hi e ((Option.some.inj e1).trans e2)))
/-- copies, in a list -/
structure Ol (w : World) (base : Nat) (vO : Value) (k : Nat) (ps : Nat → List UInt8) (Q : Nat → Option Addr) (C : Nat → Nat) : Prop where
  list : w.ownsRow base 55 1 vO k ((List.range k).map fun i => .slice (Q i) (ps i).length (C i))
  each : ∀ i, i < k → By w (Q i) (C i) (ps i)
  far : ∀ i, i < k → ∀ a, Q i = some a → base ≤ a.block ∧ a.block < w.heap.size ∧ vO.ownBlock ≠ some a.block
theorem Ol.keep {w w' : World} {base : Nat} {vO : Value} {k : Nat} {ps : Nat → List UInt8} {Q : Nat → Option Addr} {C : Nat → Nat} (h : Ol w base vO k ps Q C) (hz : w.heap.size ≤ w'.heap.size) (hb : ∀ k, base ≤ k → k < w.heap.size → w'.heap[k]? = w.heap[k]?) : Ol w' base vO k ps Q C :=
  ⟨own_blk h.list (fun g e => have := h.list.lt g e; hb g this.1 this.2), fun i hi => ⟨(h.each i hi).nil, fun a ha j u hu => by
    have := (h.each i hi).lie a ha j u hu
    rw [← this]
    have hf := h.far i hi a ha
    exact World.cell?_of_block (by rw [show (a.add j).block = a.block by unfold Addr.add; split <;> rfl]; exact hb _ hf.1 hf.2.1)⟩, fun i hi a ha => have hf := h.far i hi a ha; ⟨hf.1, Nat.lt_of_lt_of_le hf.2.1 hz, hf.2.2⟩⟩
theorem bits_xor8 (b c : UInt8) : bits .xor .u8 (b.toNat : Int) (c.toNat : Int) = ((b ^^^ c).toNat : Int) := by
  have e1 : (BitVec.ofInt 8 (b.toNat : Int)).toNat = b.toNat := by simp
  have e2 : (BitVec.ofInt 8 (c.toNat : Int)).toNat = c.toNat := by simp
  have h8 : b.toNat ^^^ c.toNat < 2 ^ 8 := Nat.xor_lt_two_pow (by have := b.toNat_lt; omega) (by have := c.toNat_lt; omega)
  show IntKind.u8.wrap (((BitVec.ofInt 8 (b.toNat : Int)) ^^^ (BitVec.ofInt 8 (c.toNat : Int))).toNat : Int) = _
  rw [BitVec.toNat_xor, e1, e2, UInt8.toNat_xor]
  simp only [IntKind.wrap, IntKind.bits, IntKind.signed]
  simp
  omega
end Go.Proofs.YtagfneojcgcigaaDoor.Tr
