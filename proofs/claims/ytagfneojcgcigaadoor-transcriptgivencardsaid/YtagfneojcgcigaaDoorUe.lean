import Derived.Test.YtagfneojcgcigaaDoorUd
namespace Go.Proofs.YtagfneojcgcigaaDoor.Tr
open Go.RowKit
/-- a call that a Script heard -/
structure En where
  d : Bool
  l : List UInt8
  ps : List (List UInt8)
/-- where its parts lie -/
structure Em where
  P : Option Addr
  c : Nat
  q : Nat → Option Addr
  cc : Nat → Nat
/-- the blocks of parts -/
def PtIn (B : Nat → Prop) (P : Option Addr) (ps : List (List UInt8)) (q : Nat → Option Addr) : Prop := (0 < ps.length → ∀ a, P = some a → B a.block) ∧ ∀ i, i < ps.length → ∀ a, q i = some a → B a.block
theorem PtIn.mono {B B' : Nat → Prop} {P : Option Addr} {ps : List (List UInt8)} {q : Nat → Option Addr} (h : PtIn B P ps q) (hb : ∀ k, B k → B' k) : PtIn B' P ps q := ⟨fun h0 a ha => hb _ (h.1 h0 a ha), fun i hi a ha => hb _ (h.2 i hi a ha)⟩
theorem PtIn.and {B B' : Nat → Prop} {P : Option Addr} {ps : List (List UInt8)} {q : Nat → Option Addr} (h : PtIn B P ps q) (h' : PtIn B' P ps q) : PtIn (fun k => B k ∧ B' k) P ps q := ⟨fun h0 a ha => ⟨h.1 h0 a ha, h'.1 h0 a ha⟩, fun i hi a ha => ⟨h.2 i hi a ha, h'.2 i hi a ha⟩⟩
theorem By.moveQ {w w' : World} {P : Option Addr} {c : Nat} {bs : List UInt8} (h : By w P c bs) (hb : ∀ a, P = some a → w'.heap[a.block]? = w.heap[a.block]?) : By w' P c bs :=
  ⟨h.nil, fun a ha j u hu => by
    have := h.lie a ha j u hu
    rw [← this]
    exact World.cell?_of_block (by rw [show (a.add j).block = a.block by unfold Addr.add; split <;> rfl]; exact hb a ha)⟩
theorem Pt.move {w w' : World} {P : Option Addr} {ps : List (List UInt8)} {q : Nat → Option Addr} {c : Nat → Nat} {B : Nat → Prop} (h : Pt w P ps q c) (hi : PtIn B P ps q) (hb : ∀ k, B k → w'.heap[k]? = w.heap[k]?) : Pt w' P ps q c :=
  ⟨fun h0 => by
    obtain ⟨b, o, e, h1⟩ := h.lie h0
    refine ⟨b, o, e, fun i hi2 => ?_⟩
    rw [← h1 i hi2]
    exact World.cell?_of_block (a := ⟨b, o + i, none⟩) (hb b (hi.1 h0 ⟨b, o, none⟩ e)), fun i hi2 => (h.each i hi2).moveQ (fun a ha => hb _ (hi.2 i hi2 a ha))⟩
theorem Ow.pt {w : World} {base g : Nat} {ps : List (List UInt8)} {Q : Nat → Option Addr} {C : Nat → Nat} (h : Ow w base g ps.length ps.length (fun t => ps.getD t []) Q C) : Pt w (some ⟨g, 0, none⟩) ps Q C := by
  refine ⟨fun _ => ⟨g, 0, rfl, fun i hi => ?_⟩, fun i hi => own_byQ (h.row i hi)⟩
  rw [Nat.zero_add, h.list.cellAt i (by omega), List.getElem?_append_left (by rw [chd_len]; exact hi)]
  simp [chd, List.getElem?_range hi]
theorem Ow.inn {w : World} {base g : Nat} {ps : List (List UInt8)} {Q : Nat → Option Addr} {C : Nat → Nat} (h : Ow w base g ps.length ps.length (fun t => ps.getD t []) Q C) : PtIn (fun k => base ≤ k ∧ k < w.heap.size) (some ⟨g, 0, none⟩) ps Q :=
  ⟨fun _ a ha => by obtain rfl := Option.some.inj ha; exact h.list.lt g rfl, fun i hi a ha => own_farQ (h.row i hi) a ha⟩
/-- calls as cells -/
def sdc (es : List (En × Em)) : List Value := es.flatMap fun x => [.bool x.1.d, .string (sb x.1.l), .slice x.2.P x.1.ps.length x.2.c]
theorem sdc_len (es : List (En × Em)) : (sdc es).length = es.length * 3 := by
  induction es with
  | nil => rfl
  | cons x r ih => simp only [sdc, List.flatMap_cons, List.length_append, List.length_cons, List.length_nil] at ih ⊢; omega
theorem sdc_app (a b : List (En × Em)) : sdc (a ++ b) = sdc a ++ sdc b := by simp [sdc]
/-- what a Script heard -/
structure Hr (w : World) (base : Nat) (vH : Value) (es : List (En × Em)) : Prop where
  list : w.ownsRow base 50 3 vH es.length (sdc es)
  each : ∀ x ∈ es, Pt w x.2.P x.1.ps x.2.q x.2.cc
  far : ∀ x ∈ es, PtIn (fun k => base ≤ k ∧ k < w.heap.size ∧ vH.ownBlock ≠ some k) x.2.P x.1.ps x.2.q
theorem Hr.keep {w w' : World} {base : Nat} {vH : Value} {es : List (En × Em)} (h : Hr w base vH es) (hz : w.heap.size ≤ w'.heap.size) (h1 : ∀ k, vH.ownBlock = some k → w'.heap[k]? = w.heap[k]?) {B : Nat → Prop} (hB : ∀ x ∈ es, PtIn B x.2.P x.1.ps x.2.q) (h2 : ∀ k, B k → base ≤ k → k < w.heap.size → w'.heap[k]? = w.heap[k]?) : Hr w' base vH es :=
  ⟨own_blk h.list h1, fun x hx => (h.each x hx).move ((hB x hx).and (h.far x hx)) (fun k hk => h2 k hk.1 hk.2.1 hk.2.2.1), fun x hx => (h.far x hx).mono (fun _ hk => ⟨hk.1, Nat.lt_of_lt_of_le hk.2.1 hz, hk.2.2⟩)⟩
theorem Hr.stay {w w' : World} {base : Nat} {vH : Value} {es : List (En × Em)} (h : Hr w base vH es) (hb : Below w.heap.size w w') : Hr w' base vH es :=
  h.keep hb.size (fun k hk => hb.block k (h.list.lt k hk).2) (B := fun _ => True) (fun x hx => (h.far x hx).mono (fun _ _ => trivial)) (fun _ _ _ hk => hb.block _ hk)
theorem Hr.add {w w1 w2 : World} {o : Obj} {base : Nat} {vH vn : Value} {es : List (En × Em)} {x : En × Em} (h : Hr w base vH es) (hbs : base ≤ w.heap.size) (hb : Below w.heap.size w w1) (hp : Pt w1 x.2.P x.1.ps x.2.q x.2.cc) (hi : PtIn (fun k => w.heap.size ≤ k ∧ k < w1.heap.size) x.2.P x.1.ps x.2.q)
    (hg : (w1.alloc o).grownBy w2 vH.ownBlock) (ho : w2.ownsRow base 50 3 vn (es.length + 1) (sdc es ++ [.bool x.1.d, .string (sb x.1.l), .slice x.2.P x.1.ps.length x.2.c])) (hat : vn.ownBlock = vH.ownBlock ∨ vn.ownBlock = some (w1.alloc o).heap.size) : Hr w2 base vn (es ++ [x]) := by
  have hz : w1.heap.size + 1 ≤ w2.heap.size := by have := hg.size; simp at this; omega
  have h1 : ∀ j, j < w1.heap.size → vH.ownBlock ≠ some j → w2.heap[j]? = w1.heap[j]? := fun j hj hn => grown_blk hg hj (fun e => hn e.symm)
  have h2 : ∀ j, j < w.heap.size → vH.ownBlock ≠ some j → w2.heap[j]? = w.heap[j]? := fun j hj hn => (h1 j (Nat.lt_of_lt_of_le hj hb.size) hn).trans (hb.block j hj)
  have hn : ∀ j, j < w1.heap.size → vH.ownBlock ≠ some j → vn.ownBlock ≠ some j := fun j hj hne e => by
    rcases hat with h3 | h3
    · exact hne (h3.symm.trans e)
    · have := Option.some.inj (h3.symm.trans e)
      simp at this
      omega
  have hnew : ∀ j, w.heap.size ≤ j → vH.ownBlock ≠ some j := fun j hj e => by have := (h.list.lt j e).2; omega
  have hs := hb.size
  refine ⟨?_, fun y hy => ?_, fun y hy => ?_⟩
  · rw [List.length_append, sdc_app]
    simpa [sdc] using ho
  · rcases List.mem_append.1 hy with hy | hy
    · exact (h.each y hy).move (h.far y hy) (fun k hk => h2 k hk.2.1 hk.2.2)
    · simp only [List.mem_singleton] at hy
      subst hy
      exact hp.move hi (fun k hk => h1 k hk.2 (hnew k hk.1))
  · rcases List.mem_append.1 hy with hy | hy
    · exact (h.far y hy).mono (fun k hk => ⟨hk.1, by omega, hn k (by omega) hk.2.2⟩)
    · simp only [List.mem_singleton] at hy
      subst hy
      exact hi.mono (fun k hk => ⟨by omega, by omega, hn k hk.2 (hnew k hk.1)⟩)
set_option maxRecDepth 100000 in
set_option maxHeartbeats 4000000 in
theorem none_any (s : Nat) (x y : Value) (w : World) (hX : B3 w s 54 x y (.bool true)) :
    Calls Tryd.prog 16 #[.pointer (some ⟨s, 0, none⟩)] w fun e w' => e = .returned (.bool false) ∧ Below w.heap.size w w' := by
  have y0 := hX.c2
  clear hX
  go_enter Tryd.func16, Tryd.ntmps16
  go_wp2_with fail
  refine bodyPost_ret (v := .bool false) (by simp [results, Tryd.results16, go_sem]) rfl ⟨rfl, Below.refl _ _⟩
theorem info50 : (Tryd.prog.info? 50).map (fun i => (i.zero, i.size, i.bytes)) = some (some (.agg #[.bool false, .string .empty, .slice none 0 0]), 3, 48) := by kernel_rfl
theorem Bt.grownS {S : Nat → Prop} {w w1 w' : World} {row : Option Nat} (h : Bt S w w1) (hg : w1.grownBy w' row) (hr : ∀ k, row = some k → S k ∨ w.heap.size ≤ k) : Bt S w w' :=
  ⟨hg.os.trans h.os, hg.tape.trans h.tape, hg.output.trans h.output, Nat.le_trans h.size hg.size, fun k hk hs => (hg.block k (Nat.lt_of_lt_of_le hk h.size) (fun e => by rcases hr k e.symm with h1 | h1; (exact hs h1); omega)).trans (h.block k hk hs)⟩
theorem Hr.set {w : World} {base : Nat} {vH : Value} {es : List (En × Em)} (h : Hr w base vH es) {s : Nat} (hs : s < base) (j : Nat) (v : Value) : Hr (w.setCell ⟨s, j, none⟩ v) base vH es :=
  h.keep (by simp) (fun k hk => set_ne w s j k v (by have := (h.list.lt k hk).1; omega)) (B := fun _ => True) (fun x hx => (h.far x hx).mono (fun _ _ => trivial)) (fun k _ hk _ => set_ne w s j k v (by omega))
/-- what Absorb leaves -/
def AbsR (w : World) (base s : Nat) (vL vH : Value) (es : List (En × Em)) (l : List UInt8) (ps : List (List UInt8)) (e : Ending) (w' : World) : Prop := ∃ (vn : Value) (m : Em), e = .returned (.tuple #[]) ∧ B3 w' s 54 vL vn (.bool true) ∧ Hr w' base vn (es ++ [(⟨false, l, ps⟩, m)]) ∧ PtIn (fun k => w.heap.size ≤ k) m.P ps m.q ∧ (vn.ownBlock = vH.ownBlock ∨ ∃ g, vn.ownBlock = some g ∧ w.heap.size ≤ g) ∧ Bt (fun k => k = s ∨ vH.ownBlock = some k) w w'
set_option maxRecDepth 100000 in
set_option maxHeartbeats 8000000 in
theorem absorb_any (s base : Nat) (vL vH : Value) (es : List (En × Em)) (l : List UInt8) (ps : List (List UInt8)) (P : Option Addr) (cap : Nat) (q : Nat → Option Addr) (c : Nat → Nat) (w : World) (hX : B3 w s 54 vL vH (.bool true)) (hsb : s < base) (hbs : base ≤ w.heap.size) (hH : Hr w base vH es) (hn : es.length ≤ 2513169434879) (hP : Pt w P ps q c) (hs : Bd ps) :
    Calls Tryd.prog 6 #[.pointer (some ⟨s, 0, none⟩), .string (sb l), .slice P ps.length cap] w fun e w' => AbsR w base s vL vH es l ps e w' := by
  have C0 := hidden (none_any s vL vH w hX)
  have C1 := hidden (fun w' (hb : Below w.heap.size w w') => copies_any ps P cap q c w' (hP.keep hb) hs)
  have HX := hidden hX
  have HH := hidden hH
  have HSB := hidden hsb
  have HBS := hidden hbs
  have HNL := hidden hn
  obtain ⟨i0, hi, hz0, hz1, hz2⟩ := info_parts info50
  have HI := hidden hi
  have HZ0 := hidden hz0
  have HZ1 := hidden hz1
  have HZ2 := hidden hz2
  have HU : Hid (Tryd.prog.underlying 46 = some (.slice 50)) := hidden (by kernel_rfl)
  obtain ⟨PH, cH, hvH, -⟩ := own_shape4 hH.list
  have HVH := hidden hvH
  clear hX hsb hbs hH hn hP hs hi hz0 hz1 hz2 hvH
  go_enter Tryd.func6, Tryd.ntmps6
  go_upto_region 1 with (first | (go_at_call 16; refine C0.out.mono ?_; rintro e w1 ⟨rfl, hb⟩; have B1 := hidden hb; clear hb))
  have y0 : w1.drew.cell? ⟨s, 1, none⟩ = some vH := (HX.out.keep B1.out HX.out.lt).c1
  go_region_law (first | (refine step_append_at rfl (.tmp 12) (.tmp 17) 46 rfl base 50 i0 (.agg #[.bool false, .string .empty, .slice none 0 0]) 3 48 HU.out HI.out HZ0.out HZ1.out HZ2.out rfl (by decide) vH es.length (sdc es) (by simp [Act.eval]) (HH2.out.list.alloc _) ⟨w2.heap.size, 0, none⟩ 1 1 [.bool false, .string (sb l), .slice (some ⟨g, 0, none⟩) ps.length ps.length] (by simp [Act.eval]) rfl (cells_new w2 _ _) (by simp [Value.oneCell']) (by have := HNL.out; unfold maxLen; omega) (by have := HNL.out; omega) (by have := HBS.out; have := B1.out.size; have := B2.out.size; simp; omega) ?_; intro v6 w6 how6 hgr6 hat6; obtain ⟨g6, c6, rfl, hc6⟩ := own_some4 how6 (by omega); have nS : some s ≠ vH.ownBlock := (fun e => by have := (HH2.out.list.lt s e.symm).1; have := HSB.out; omega); have X6 := hidden (X2.out.blk (grown_blk hgr6 X2.out.lt nS)); have z0 := X6.out.c1; have z1 := X6.out.f 1) | (go_simp; go_at_call 17; refine (C1.out _ B1.out.drew).mono ?_; rintro e w2 ⟨g, Q, C, rfl, ho, hb⟩; have B2 : Hid (Below w1.heap.size w1 w2) := hidden (bl_trans (drew_blW w1) hb); have HH2 := hidden ((HH.out.stay B1.out).stay B2.out); have X2 := hidden ((HX.out.keep B1.out HX.out.lt).keep B2.out (HX.out.keep B1.out HX.out.lt).lt); have HOC := hidden ho; have BC := hidden hb; clear ho hb; have y1 := X2.out.c1; have y2 : ∀ o, (w2.alloc o).cell? ⟨s, 1, none⟩ = some vH := (fun o => cell_keep y1 (bl_alloc w2 o))))
  all_goals
    have H6 := hidden ((HH.out.stay B1.out).add (x := (⟨false, l, ps⟩, ⟨some ⟨g, 0, none⟩, ps.length, Q, C⟩)) (Nat.le_trans HBS.out B1.out.size) B2.out HOC.out.pt HOC.out.inn hgr6 how6 hat6)
    have H8 := hidden (H6.out.set HSB.out 1 (.slice (some ⟨g6, 0, none⟩) (es.length + 1) c6))
    have X8 := hidden (X6.out.set1 (.slice (some ⟨g6, 0, none⟩) (es.length + 1) c6))
    have T8 := hidden ((((((Bt.of (S := fun k => k = s ∨ vH.ownBlock = some k) B1.out).trans (Bt.of B2.out)).trans (Bt.of (bl_alloc w2 _))).grownS hgr6 (fun k hk => Or.inl (Or.inr hk))).trans (Bt.set (Or.inl rfl) 1 (.slice (some ⟨g6, 0, none⟩) (es.length + 1) c6))))
    have P8 : Hid (PtIn (fun k => w.heap.size ≤ k) (some ⟨g, 0, none⟩) ps Q) := hidden (HOC.out.inn.mono (fun k hk => Nat.le_trans B1.out.size hk.1))
    have O8 : Hid ((Value.slice (some ⟨g6, 0, none⟩) (es.length + 1) c6).ownBlock = vH.ownBlock ∨ ∃ g, (Value.slice (some ⟨g6, 0, none⟩) (es.length + 1) c6).ownBlock = some g ∧ w.heap.size ≤ g) := hidden (by
      rcases hat6 with h | h
      · exact Or.inl h
      · exact Or.inr ⟨_, h, by have := B1.out.size; have := B2.out.size; simp; omega⟩)
    refine bodyPost_end (v := .tuple #[]) (by simp [results, Tryd.results6, go_sem]) rfl ⟨_, _, rfl, X8.out, H8.out, P8.out, O8.out, T8.out⟩
end Go.Proofs.YtagfneojcgcigaaDoor.Tr
