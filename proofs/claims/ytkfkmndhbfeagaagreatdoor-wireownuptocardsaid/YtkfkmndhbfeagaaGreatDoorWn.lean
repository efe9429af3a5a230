import Derived.Test.YtkfkmndhbfeagaaGreatDoorWd
import Derived.Laws.Small
namespace Go.Proofs.YtkfkmndhbfeagaaGreatDoor.Tr
open Go.RowKit
/-- all blocks but g are as they were -/
structure Kp (g : Nat) (w w' : World) : Prop where
  os : w'.os = w.os
  tape : w'.tape = w.tape
  output : w'.output = w.output
  size : w.heap.size ≤ w'.heap.size
  block : ∀ k, k < w.heap.size → k ≠ g → w'.heap[k]? = w.heap[k]?
theorem Kp.refl (g : Nat) (w : World) : Kp g w w := ⟨rfl, rfl, rfl, Nat.le_refl _, fun _ _ _ => rfl⟩
theorem Kp.of {g : Nat} {w w' : World} (h : Below w.heap.size w w') : Kp g w w' := ⟨h.os, h.tape, h.output, h.size, fun k hk _ => h.block k hk⟩
theorem Kp.grown {g : Nat} {w w' : World} (h : w.grownBy w' (some g)) : Kp g w w' := ⟨h.os, h.tape, h.output, h.size, fun k hk hne => h.block k hk (fun e => hne (Option.some.inj e))⟩
theorem Kp.trans {g : Nat} {w w1 w2 : World} (h : Kp g w w1) (k : Kp g w1 w2) : Kp g w w2 := ⟨k.os.trans h.os, k.tape.trans h.tape, k.output.trans h.output, Nat.le_trans h.size k.size, fun j hj hne => (k.block j (Nat.lt_of_lt_of_le hj h.size) hne).trans (h.block j hj hne)⟩
theorem Kp.below {g base : Nat} {w w' : World} (h : Kp g w w') (hb : base ≤ g) (hs : base ≤ w.heap.size) : Below base w w' := ⟨h.os, h.tape, h.output, h.size, fun k hk => h.block k (by omega) (by omega)⟩
theorem Kp.by {g b o c : Nat} {w w' : World} {bs : List UInt8} (h : Kp g w w') (hy : By w (some ⟨b, o, none⟩) c bs) (hb : b < w.heap.size) (hne : b ≠ g) : By w' (some ⟨b, o, none⟩) c bs :=
  ⟨hy.nil, fun a ha j u hu => by
    have := hy.lie a ha j u hu
    obtain rfl := Option.some.inj ha
    rw [← this]
    exact World.cell?_of_block (by rw [show ((⟨b, o, none⟩ : Addr).add j).block = b by unfold Addr.add; split <;> rfl]; exact h.block b hb hne)⟩
theorem Kp.own {g base size n : Nat} {w w' : World} {e : TypeId} {v : Value} {xs : List Value} (h : Kp g w w') (ho : w.ownsRow base e size v n xs) (hne : v.ownBlock ≠ some g) : w'.ownsRow base e size v n xs := by
  refine ⟨ho.1, ?_⟩
  rcases ho.2 with hn | ⟨k, cap, cur, rfl, hbg, hgg, rest⟩
  · exact .inl hn
  · refine .inr ⟨k, cap, cur, rfl, hbg, ?_, rest⟩
    rw [h.block k (Array.getElem?_eq_some_iff.1 hgg).1 (fun e => hne (by rw [e]; rfl))]
    exact hgg
theorem Kp.by' {g c : Nat} {P : Option Addr} {w w' : World} {bs : List UInt8} (h : Kp g w w') (hy : By w P c bs) (hf : ∀ a, P = some a → a.block ≠ g ∧ a.block < w.heap.size) : By w' P c bs :=
  ⟨hy.nil, fun a ha j u hu => by
    have := hy.lie a ha j u hu
    obtain ⟨h1, h2⟩ := hf a ha
    rw [← this]
    exact World.cell?_of_block (by rw [show (a.add j).block = a.block by unfold Addr.add; split <;> rfl]; exact h.block _ h2 h1)⟩
/-- a Reader in block g: what is left; its fault -/
structure Rd (w : World) (g : Nat) (P : Option Addr) (c : Nat) (bs : List UInt8) (e : Int) : Prop where
  at' : w.heap[g]? = some (.cells #[.slice P bs.length c, .int .i64 e, .bool true] 93 (0, 0))
  by' : By w P c bs
  fr : ∀ a, P = some a → a.block ≠ g ∧ a.block < w.heap.size
  cap : bs.length ≤ c
theorem Rd.c0 {w : World} {g c : Nat} {P : Option Addr} {bs : List UInt8} {e : Int} (h : Rd w g P c bs e) : w.cell? ⟨g, 0, none⟩ = some (.slice P bs.length c) := by rw [cell_of_row w g 0 _ _ (0, 0) h.at']; rfl
theorem Rd.c1 {w : World} {g c : Nat} {P : Option Addr} {bs : List UInt8} {e : Int} (h : Rd w g P c bs e) : w.cell? ⟨g, 1, none⟩ = some (.int .i64 e) := by rw [cell_of_row w g 1 _ _ (0, 0) h.at']; rfl
theorem Rd.c2 {w : World} {g c : Nat} {P : Option Addr} {bs : List UInt8} {e : Int} (h : Rd w g P c bs e) : w.cell? ⟨g, 2, none⟩ = some (.bool true) := by rw [cell_of_row w g 2 _ _ (0, 0) h.at']; rfl
theorem Rd.f {w : World} {g c : Nat} {P : Option Addr} {bs : List UInt8} {e : Int} (h : Rd w g P c bs e) (j : Nat) : w.frozen? ⟨g, j, none⟩ = false := frozen_of_row w g j _ _ h.at'
theorem Rd.glt {w : World} {g c : Nat} {P : Option Addr} {bs : List UInt8} {e : Int} (h : Rd w g P c bs e) : g < w.heap.size := (Array.getElem?_eq_some_iff.1 h.at').1
theorem Rd.keep {w w' : World} {g c : Nat} {P : Option Addr} {bs : List UInt8} {e : Int} (h : Rd w g P c bs e) (hb : Below w.heap.size w w') : Rd w' g P c bs e :=
  ⟨(hb.block g h.glt).trans h.at', h.by'.keep hb, fun a ha => ⟨(h.fr a ha).1, Nat.lt_of_lt_of_le (h.fr a ha).2 hb.size⟩, h.cap⟩
theorem grown_set (w : World) (g j : Nat) (u : Value) : w.grownBy (w.setCell ⟨g, j, none⟩ u) (some g) :=
  ⟨rfl, rfl, rfl, by simp, fun k _ hk => Go.heap_setCell_other _ _ _ _ (fun e => hk (by rw [e]))⟩
theorem Rd.fail {w : World} {g c : Nat} {P : Option Addr} {bs : List UInt8} {e : Int} (h : Rd w g P c bs e) (e' : Int) : Rd (w.setCell ⟨g, 1, none⟩ (.int .i64 e')) g P c bs e' :=
  ⟨by rw [heap_setCell_same w g 1 _ _ _ h.at']; rfl, (Kp.grown (grown_set w g 1 _)).by' h.by' h.fr, fun a ha => ⟨(h.fr a ha).1, by simpa using (h.fr a ha).2⟩, h.cap⟩
theorem By.drop {w : World} {b o c : Nat} {bs : List UInt8} (h : By w (some ⟨b, o, none⟩) c bs) (k d : Nat) : By w (some ⟨b, o + k, none⟩) d (bs.drop k) :=
  ⟨fun e => (by cases e), fun a ha j u hu => by
    obtain rfl := Option.some.inj ha
    have hu2 : (cb bs)[k + j]? = some u := by
      rw [← hu]
      simp [cb]
    have := h.lie _ rfl (k + j) u hu2
    rw [Addr.add_lit] at this ⊢
    rw [← this, Nat.add_assoc]⟩
theorem Rd.move {w : World} {g b o c : Nat} {bs : List UInt8} {e : Int} (h : Rd w g (some ⟨b, o, none⟩) c bs e) (k o' n d : Nat) (hn : n = bs.length - k) (hd : n ≤ d) (hy : By w (some ⟨b, o', none⟩) d (bs.drop k)) : Rd (w.setCell ⟨g, 0, none⟩ (.slice (some ⟨b, o', none⟩) n d)) g (some ⟨b, o', none⟩) d (bs.drop k) e := by
  have hf := h.fr _ rfl
  subst hn
  refine ⟨?_, (Kp.grown (grown_set w g 0 _)).by hy hf.2 hf.1, fun a ha => ?_, by simpa using hd⟩
  · rw [heap_setCell_same w g 0 _ _ _ h.at', List.length_drop]; rfl
  · obtain rfl := Option.some.inj ha
    exact ⟨hf.1, by simpa using hf.2⟩
end Go.Proofs.YtkfkmndhbfeagaaGreatDoor.Tr
