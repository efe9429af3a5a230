import Derived.Test.YtagfneojcgcigaaDoorUl
namespace Go.Proofs.YtagfneojcgcigaaDoor.Tr
open Go.RowKit
/-- a script's calls -/
structure Sc (w : World) (P : Option Addr) (n : Nat) (f : Nat → Oq) : Prop where
  lie : 0 < n → ∃ b o : Nat, P = some ⟨b, o, none⟩ ∧ Ow4 w b o n f
  pt : ∀ t, t < n → Pt w (f t).m.P (f t).ps (f t).m.q (f t).m.cc
  fr : ∀ t, t < n → Bd (f t).ps
theorem Sc.keep {w w' : World} {P : Option Addr} {n : Nat} {f : Nat → Oq} (h : Sc w P n f) (hb : Below w.heap.size w w') : Sc w' P n f :=
  ⟨fun h0 => by obtain ⟨b, o, e, h1⟩ := h.lie h0; exact ⟨b, o, e, h1.keep hb⟩, fun t ht => (h.pt t ht).keep hb, h.fr⟩
theorem getD_len {ps : List (List UInt8)} (h : Bd ps) (r : Nat) (hr : r < ps.length) : (ps.getD r []).length ≤ 2 ^ 60 := by
  have := h.2 r hr
  omega
theorem len_frl {ps : List (List UInt8)} (h : Bd ps) : ps.length ≤ 2 ^ 60 := by
  have := h.1
  omega
theorem own_u8 {w : World} {base n c : Nat} {P : Option Addr} {bs : List UInt8} (h : w.ownsRow base 5 1 (.slice P n c) n (cb bs)) (hn : 0 < n) : ∃ g, P = some ⟨g, 0, none⟩ ∧ ∀ j, j < n → (∃ x : UInt8, w.cell? ⟨g, j, none⟩ = some (.int .u8 (x.toNat : Int))) ∧ w.frozen? ⟨g, j, none⟩ = false := by
  obtain ⟨g, c', hv, _⟩ := own_some h hn
  simp only [Value.slice.injEq] at hv
  obtain ⟨rfl, _, rfl⟩ := hv
  refine ⟨g, rfl, fun j hj => ⟨?_, h.frozenAt j⟩⟩
  have hl := h.1
  rw [cb_len] at hl
  exact ⟨_, by rw [h.cellAt j (by omega), cb_at bs j (by omega)]⟩
theorem Ow.sp {w : World} {base g : Nat} {ps : List (List UInt8)} {Q : Nat → Option Addr} {C : Nat → Nat} (h : Ow w base g ps.length ps.length (fun t => ps.getD t []) Q C) (hf : Bd ps) {S : Nat → Prop} (hS : ∀ t, t < ps.length → ∀ a, Q t = some a → S a.block) : Sp w S g ps.length 0 (fun t => (ps.getD t []).length) C Q := by
  refine ⟨fun i _ hi => ?_, fun i _ => h.list.frozenAt i, fun i hi hn => ?_, fun i hi => getD_len hf i hi⟩
  · rw [h.list.cellAt i (by omega), List.getElem?_append_left (by rw [chd_len]; exact hi)]
    simp [chd, List.getElem?_range hi]
  · obtain ⟨g', e, hr⟩ := own_u8 (h.row i hi) hn
    have hfar := h.far i hi _ e
    exact ⟨g', e, by show g' ≠ g; have : g < g' := hfar; omega, hS i hi _ e, hr⟩
theorem Hd.sp {w : World} {base : Nat} {vF : Value} {gH k M cH : Nat} {x : Value} {n : Nat → Nat} {r : Nat → List UInt8} {f cp : Nat → Nat} (h : Hd w base vF (.slice (some ⟨gH, 0, none⟩) M cH) k k k [x] n r f cp) (hM : M = k + 1) (hn : ∀ i, i < k → n i ≤ 2 ^ 60) {S : Nat → Prop} (hS : ∀ t, t < k → S (f t)) : Sp w S gH k 0 n cp (fun i => some ⟨f i, 0, none⟩) := by
  subst hM
  refine ⟨fun i _ hi => ?_, fun i _ => World.ownsRow.frozenAt (n := k + 1) h.head i, fun i hi _ => ⟨f i, rfl, fun e => (h.off i hi).2 (by rw [e]; rfl), hS i hi, fun j hj => ⟨?_, (h.row i hi).frozenAt j⟩⟩, hn⟩
  · rw [World.ownsRow.cellAt (n := k + 1) h.head i (by omega), List.getElem?_append_left (by rw [shd_len]; exact hi), shd_at _ _ _ _ _ hi]
  · have hl := (h.row i hi).1
    rw [cb_len] at hl
    exact ⟨_, by rw [(h.row i hi).cellAt j (by omega), cb_at (r i) j (by omega)]⟩
theorem Hd.pt {w : World} {base : Nat} {vF : Value} {gH k M cH : Nat} {x : Value} {n : Nat → Nat} {r : Nat → List UInt8} {f cp : Nat → Nat} {ps : List (List UInt8)} (h : Hd w base vF (.slice (some ⟨gH, 0, none⟩) M cH) k k k [x] n r f cp) (hM : M = k + 1) (hk : ps.length = k) (hn : ∀ i, i < k → (ps.getD i []).length = n i) (hr : ∀ i, i < k → r i = ps.getD i [] ++ mk8) : Pt w (some ⟨gH, 0, none⟩) ps (fun i => some ⟨f i, 0, none⟩) cp := by
  subst hM
  refine ⟨fun _ => ⟨gH, 0, rfl, fun i hi => ?_⟩, fun i hi => ?_⟩
  · have h9 := h.head
    rw [Nat.zero_add, World.ownsRow.cellAt (n := k + 1) h9 i (by omega), List.getElem?_append_left (by rw [shd_len]; omega), shd_at _ _ _ _ _ (by omega), hn i (by omega)]
  · have h9 := own_by' (h.row i (by omega))
    rw [hr i (by omega)] at h9
    exact h9.less _ ⟨mk8, rfl⟩
theorem en_fun {es : List (En × Em)} {rs : List Oq} (h : es.map (fun y => y.1) = rs.map Oq.en) : (fun t => (es.getD t xD).1) = fun t => (rs.getD t oD).en := by
  funext t
  have := congrArg (fun l => l[t]?) h
  simp only [List.getElem?_map] at this
  simp only [List.getD_eq_getElem?_getD]
  match e1 : es[t]?, e2 : rs[t]? with
  | some a, some b => rw [e1, e2] at this; simpa using this
  | none, none => rfl
  | some a, none => rw [e1, e2] at this; cases this
  | none, some b => rw [e1, e2] at this; cases this
theorem en_mem {es : List (En × Em)} {rs : List Oq} (h : es.map (fun y => y.1) = rs.map Oq.en) {x : En × Em} (hx : x ∈ es) : ∃ o ∈ rs, x.1 = o.en := by
  have : x.1 ∈ es.map (fun y => y.1) := List.mem_map.2 ⟨x, hx, rfl⟩
  rw [h] at this
  obtain ⟨o, ho, e⟩ := List.mem_map.1 this
  exact ⟨o, ho, e.symm⟩
theorem en_frl (o : Oq) (h : Bd o.ps) : Bd o.en.ps := by
  unfold Oq.en
  by_cases e : o.k = 2
  · simp only [if_pos e]; exact ⟨by simp, fun r hr => absurd hr (by simp)⟩
  · simp only [if_neg e]; exact h
section
variable {w w1 : World} {base s : Nat} {PL PW : Option Addr} {d m cW : Nat} {g : Nat → E4} {vH vW : Value} {es : List (En × Em)} {rs : List Oq} {P1 : Option Addr} {n : Nat} {f : Nat → Oq}
theorem Heard_ls (h : Ls w base s PL d m g vH vW es rs) (hS : Sc w P1 n f) (hr : rs.length ≤ 2513169434879) (ho : ∀ o ∈ rs, ∃ t, t < n ∧ o = f t) :
    Calls Tryd.prog 13 #[.pointer (some ⟨s, 0, none⟩)] w fun e w' => HrdR w es.length (fun t => (es.getD t xD).1) e w' := by
  have hl : es.length = rs.length := by have := congrArg List.length h.en; simpa using this
  refine Heard_any s base _ vH es w h.x h.h (by omega) (fun x hx => ?_)
  obtain ⟨o, ho2, e⟩ := en_mem h.en hx
  obtain ⟨t, ht, rfl⟩ := ho o ho2
  rw [e]
  exact en_frl _ (hS.fr t ht)
theorem heard_ls (h : Ls w base s PL d m g vH (.slice PW rs.length cW) es rs) (hS : Sc w P1 n f) (hr : rs.length ≤ 2513169434879) (ho : ∀ o ∈ rs, ∃ t, t < n ∧ o = f t) {gl : Nat} {gm : Nat → Nat} {Q : Nat → Nat → Option Addr} {C : Nat → Nat → Nat} (hz : Hz w1 w.heap.size gl es.length es.length (fun t => (es.getD t xD).1) gm Q C) (hb : Below w.heap.size w w1) :
    Calls Tryd.prog 14 #[.slice (some ⟨gl, 0, none⟩) es.length es.length, .slice PW rs.length cW] w1 fun e w' => e = .returned (.bool true) ∧ Below w1.heap.size w1 w' := by
  have hl : es.length = rs.length := by have := congrArg List.length h.en; simpa using this
  rw [hl] at hz ⊢
  rw [en_fun h.en] at hz
  have hv := own_stay h.v hb
  have mem : ∀ t, t < rs.length → ∃ u, u < n ∧ rs.getD t oD = f u := fun t ht => ho _ (getD_mem rs oD t ht)
  by_cases h0 : 0 < rs.length
  · obtain ⟨gw, cw, e, _⟩ := own_some4 hv h0
    simp only [Value.slice.injEq] at e
    obtain ⟨rfl, _, rfl⟩ := e
    exact heard_any rs.length (fun t => rs.getD t oD) _ gl gm Q C _ cW gw w1 hz (fun _ => rfl) (fun _ => own_ow4 hv rfl) (fun t ht => by obtain ⟨u, hu, e⟩ := mem t ht; rw [e]; exact (hS.pt u hu).keep hb) (fun t ht => by obtain ⟨u, hu, e⟩ := mem t ht; rw [e]; exact len_frl (hS.fr u hu)) (by omega)
  · exact heard_any rs.length (fun t => rs.getD t oD) _ gl gm Q C _ cW 0 w1 hz (fun h => absurd h h0) (fun h => absurd h h0) (fun t ht => absurd ht (by omega)) (fun t ht => absurd ht (by omega)) (by omega)
end
/-- copies of calls that are written over one by one -/
structure Hy (w : World) (base g n j : Nat) (en : Nat → En) (gm : Nat → Nat) (Q : Nat → Nat → Option Addr) (C : Nat → Nat → Nat) : Prop where
  c2 : ∀ t, j ≤ t → t < n → w.cell? ⟨g, t * 3 + 2, none⟩ = some (.slice (some ⟨gm t, 0, none⟩) (en t).ps.length (en t).ps.length)
  ce : ∀ x, x < n * 3 → ∃ v, w.cell? ⟨g, x, none⟩ = some v
  fr : ∀ x, x < n * 3 → w.frozen? ⟨g, x, none⟩ = false
  ow : ∀ t, j ≤ t → t < n → Ow w base (gm t) (en t).ps.length (en t).ps.length (fun s => (en t).ps.getD s []) (Q t) (C t)
  far : ∀ t, t < n → g < gm t
  ord : ∀ t u, t < u → u < n → gm t < gm u ∧ ∀ r, r < (en t).ps.length → ∀ a, Q t r = some a → a.block < gm u
  gl : base ≤ g ∧ g < w.heap.size
theorem Hz.hy {w : World} {base g n : Nat} {en : Nat → En} {gm : Nat → Nat} {Q : Nat → Nat → Option Addr} {C : Nat → Nat → Nat} (h : Hz w base g n n en gm Q C) : Hy w base g n 0 en gm Q C :=
  ⟨fun t _ ht => h.c2 t ht, h.ce, h.fr, fun t _ ht => h.ow t ht, h.far, h.ord, h.gl⟩
/-- the blocks of one of them -/
def inE (en : Nat → En) (gm : Nat → Nat) (Q : Nat → Nat → Option Addr) (j : Nat) (x : Nat) : Prop := x = gm j ∨ ∃ r, r < (en j).ps.length ∧ ∃ a, Q j r = some a ∧ a.block = x
theorem Hy.next {w w1 : World} {base g n j : Nat} {en : Nat → En} {gm : Nat → Nat} {Q : Nat → Nat → Option Addr} {C : Nat → Nat → Nat} (h : Hy w base g n j en gm Q C) (hj : j < n) (hb : Bt (inE en gm Q j) w w1) (u v z : Value) : Hy (((w1.setCell ⟨g, j * 3, none⟩ u).setCell ⟨g, j * 3 + 1, none⟩ v).setCell ⟨g, j * 3 + 2, none⟩ z) base g n (j + 1) en gm Q C := by
  have hin : ∀ x, inE en gm Q j x → gm j ≤ x := fun x hx => by
    rcases hx with rfl | ⟨r, hr, a, ha, rfl⟩
    · exact Nat.le_refl _
    · exact Nat.le_of_lt ((h.ow j (Nat.le_refl _) hj).far r hr a ha)
  have hup : ∀ t, j < t → t < n → ∀ x, inE en gm Q j x → x < gm t := fun t h1 h2 x hx => by
    rcases hx with rfl | ⟨r, hr, a, ha, rfl⟩
    · exact (h.ord j t h1 h2).1
    · exact (h.ord j t h1 h2).2 r hr a ha
  have hg1 : w1.heap[g]? = w.heap[g]? := hb.block g h.gl.2 (fun e => by have := hin g e; have := h.far j hj; omega)
  have cw : ∀ x, w1.cell? ⟨g, x, none⟩ = w.cell? ⟨g, x, none⟩ := fun x => World.cell?_of_block (a := ⟨g, x, none⟩) hg1
  have fw : ∀ x, w1.frozen? ⟨g, x, none⟩ = w.frozen? ⟨g, x, none⟩ := fun x => World.frozen?_of_block (a := ⟨g, x, none⟩) hg1
  obtain ⟨v0, e0⟩ := h.ce (j * 3) (by omega)
  obtain ⟨v1, e1⟩ := h.ce (j * 3 + 1) (by omega)
  obtain ⟨v2, e2⟩ := h.ce (j * 3 + 2) (by omega)
  have hi3 := set3_in w1 g (j * 3) u v z v0 v1 v2 (by rw [cw]; exact e0) (by rw [cw]; exact e1) (by rw [cw]; exact e2)
  have hout := fun k hk => set3_ne w1 g (j * 3) k u v z hk
  refine ⟨fun t h1 h2 => by rw [hout _ (by omega), cw]; exact h.c2 t (by omega) h2, fun x hx => ?_, fun x hx => ?_, fun t h1 h2 => ?_, h.far, h.ord, h.gl.1, ?_⟩
  · by_cases q0 : x = j * 3
    · subst q0; exact ⟨_, hi3.1⟩
    · by_cases q1 : x = j * 3 + 1
      · subst q1; exact ⟨_, hi3.2.1⟩
      · by_cases q2 : x = j * 3 + 2
        · subst q2; exact ⟨_, hi3.2.2⟩
        · rw [hout _ (by omega), cw]; exact h.ce x hx
  · rw [World.frozen?_setCell, World.frozen?_setCell, World.frozen?_setCell, fw]; exact h.fr x hx
  · refine (h.ow t (by omega) h2).keep (fun k hk hlt => ?_)
    have hgt := h.far t h2
    rw [set_ne _ _ _ _ _ (by omega), set_ne _ _ _ _ _ (by omega), set_ne _ _ _ _ _ (by omega)]
    exact hb.block k hlt (fun e => by have := hup t (by omega) h2 k e; omega)
  · have := hb.size
    have := h.gl.2
    simp
    omega
end Go.Proofs.YtagfneojcgcigaaDoor.Tr
