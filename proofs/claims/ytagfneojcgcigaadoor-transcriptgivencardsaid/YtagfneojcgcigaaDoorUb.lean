import Derived.Test.YtagfneojcgcigaaDoorUa
namespace Go.Proofs.YtagfneojcgcigaaDoor.Tr
open Go.RowKit
theorem set_fill {α : Type} (L : List α) (k : Nat) (z x : α) (h : L.length < k) : (L ++ List.replicate (k - L.length) z).set L.length x = (L ++ [x]) ++ List.replicate (k - (L.length + 1)) z := by
  rw [List.set_append_right _ _ (Nat.le_refl _), Nat.sub_self, show k - L.length = (k - (L.length + 1)) + 1 by omega, List.replicate_succ, List.set_cons_zero]
  simp
theorem own_farQ {w : World} {b n c : Nat} {e : TypeId} {P : Option Addr} {xs : List Value} (h : w.ownsRow b e 1 (.slice P n c) n xs) : ∀ a, P = some a → b ≤ a.block ∧ a.block < w.heap.size := fun a ha => h.lt a.block (by subst ha; rfl)
/-- headers of copies -/
def chd (ps : Nat → List UInt8) (Q : Nat → Option Addr) (C : Nat → Nat) (i : Nat) : List Value := (List.range i).map fun t => .slice (Q t) (ps t).length (C t)
theorem chd_len (ps : Nat → List UInt8) (Q : Nat → Option Addr) (C : Nat → Nat) (i : Nat) : (chd ps Q C i).length = i := by simp [chd]
theorem chd_next (ps : Nat → List UInt8) (Q : Nat → Option Addr) (C : Nat → Nat) (i : Nat) (Qn : Option Addr) (Cn : Nat) : chd ps (fun t => if t = i then Qn else Q t) (fun t => if t = i then Cn else C t) (i + 1) = chd ps Q C i ++ [.slice Qn (ps i).length Cn] := by
  unfold chd
  rw [List.range_succ, List.map_append]
  congr 1
  · refine List.map_congr_left fun t ht => ?_
    have := List.mem_range.1 ht
    simp only [if_neg (show ¬ t = i by omega)]
  · simp
/-- copies of one's own, in a list of one's own -/
structure Ow (w : World) (base g k i : Nat) (ps : Nat → List UInt8) (Q : Nat → Option Addr) (C : Nat → Nat) : Prop where
  list : w.ownsRow base 55 1 (.slice (some ⟨g, 0, none⟩) k k) k (chd ps Q C i ++ List.replicate (k - i) (.slice none 0 0))
  row : ∀ t, t < i → w.ownsRow base 5 1 (.slice (Q t) (ps t).length (C t)) (ps t).length (cb (ps t))
  far : ∀ t, t < i → ∀ a, Q t = some a → g < a.block
theorem Ow.keep {w w' : World} {base g k i : Nat} {ps : Nat → List UInt8} {Q : Nat → Option Addr} {C : Nat → Nat} (h : Ow w base g k i ps Q C) (hb : ∀ j, g ≤ j → j < w.heap.size → w'.heap[j]? = w.heap[j]?) : Ow w' base g k i ps Q C :=
  ⟨own_blk h.list (fun j e => by have := Option.some.inj e; subst this; exact hb g (Nat.le_refl _) (h.list.lt g rfl).2), fun t ht => own_blk (h.row t ht) (fun j e => by
    have hl := (h.row t ht).lt j e
    match hq : Q t, e with
    | some a, e =>
      have := Option.some.inj e
      subst this
      exact hb _ (Nat.le_of_lt (h.far t ht a hq)) hl.2
    | none, e => cases e), h.far⟩
theorem Ow.add {w w1 : World} {base g k i : Nat} {ps : Nat → List UInt8} {Q : Nat → Option Addr} {C : Nat → Nat} (h : Ow w base g k i ps Q C) (hi : i < k) (hbs : base ≤ w.heap.size) (hb : Below w.heap.size w w1) {Qn : Option Addr} {Cn : Nat} (ho : w1.ownsRow w.heap.size 5 1 (.slice Qn (ps i).length Cn) (ps i).length (cb (ps i))) :
    Ow (w1.setCell ⟨g, i, none⟩ (.slice Qn (ps i).length Cn)) base g k (i + 1) ps (fun t => if t = i then Qn else Q t) (fun t => if t = i then Cn else C t) := by
  have hg := (h.list.lt g rfl).2
  have h1 := h.keep (w' := w1) (fun j _ hj => hb.block j hj)
  refine ⟨?_, fun t ht => ?_, fun t ht a ha => ?_⟩
  · have := (h1.list.stored i (.slice Qn (ps i).length Cn)).1
    rw [chd_next]
    have e := set_fill (chd ps Q C i) k (.slice none 0 0) (.slice Qn (ps i).length Cn) (by rw [chd_len]; exact hi)
    rw [chd_len] at e
    rw [e] at this
    exact this
  · by_cases e : t = i
    · subst e
      simp only [if_true]
      refine own_blk (own_base ho hbs) (fun j e => set_ne w1 g t j _ (fun e2 => ?_))
      have := (ho.lt j e).1
      omega
    · simp only [if_neg e]
      refine own_blk (h1.row t (by omega)) (fun j e => set_ne w1 g i j _ (fun e2 => ?_))
      match hq : Q t, e with
      | some a, e =>
        have := Option.some.inj e
        have h3 := h.far t (by omega) a hq
        omega
      | none, e => cases e
  · by_cases e : t = i
    · subst e
      simp only [if_true] at ha
      have := (own_farQ ho a ha).1
      omega
    · simp only [if_neg e] at ha
      exact h.far t (by omega) a ha
/-- what copies answers -/
def CopR (w : World) (ps : List (List UInt8)) (e : Ending) (w' : World) : Prop := ∃ (g : Nat) (Q : Nat → Option Addr) (C : Nat → Nat), e = .returned (.slice (some ⟨g, 0, none⟩) ps.length ps.length) ∧ Ow w' w.heap.size g ps.length ps.length (fun t => ps.getD t []) Q C ∧ Below w.heap.size w w'
theorem info55 : (Tryd.prog.info? 55).map (fun i => (i.zero, i.size, i.bytes)) = some (some (.slice none 0 0), 1, 24) := by kernel_rfl
set_option maxRecDepth 100000 in
set_option maxHeartbeats 8000000 in
theorem copies_any (ps : List (List UInt8)) (P : Option Addr) (cap : Nat) (q : Nat → Option Addr) (c : Nat → Nat) (w : World) (hP : Pt w P ps q c) (hs : Bd ps) :
    Calls Tryd.prog 17 #[.slice P ps.length cap] w fun e w' => CopR w ps e w' := by
  have HP := hidden hP
  have HS := hidden hs
  have hpl : ps.length ≤ 5864062014634 := hs.1
  have HPL := hidden hpl
  obtain ⟨i0, hi, hz0, hz1, hz2⟩ := info_parts info55
  have hmk := run_make (P := Tryd.prog) w 30 55 i0 (.slice none 0 0) (by kernel_rfl) hi hz0 .i64 .i64 (ps.length : Int) (ps.length : Int) (by omega) (Int.le_refl _) (by rw [hz2]; omega) (by omega)
  simp only [Int.toNat_natCast, hz1, Value.cells, Nat.mul_one] at hmk
  have HO : Hid (Ow (w.alloc (.cells (madeCells #[.slice none 0 0] ps.length) 55)) w.heap.size w.heap.size ps.length 0 (fun t => ps.getD t []) (fun _ => none) (fun _ => 0)) := hidden ⟨by
      show World.ownsRow _ _ _ _ _ _ ([] ++ List.replicate (ps.length - 0) (Value.slice none 0 0))
      rw [List.nil_append, Nat.sub_zero, ← toList_madeCells_one]
      exact World.ownsRow_lit w _ ps.length (Nat.le_refl _) (by unfold maxLen; omega) (by simp [madeCells]), fun t ht => absurd ht (by omega), fun t ht => absurd ht (by omega)⟩
  have HB := hidden (bl_alloc w (.cells (madeCells #[.slice none 0 0] ps.length) 55))
  clear hP hs hpl hi hz0 hz1 hz2
  go_enter Tryd.func17, Tryd.ntmps17
  go_wp2_with fail
  clear hmk
  go_loopw [11] (fun kv w' => ∃ (i : Nat) (Q : Nat → Option Addr) (C : Nat → Nat), i ≤ ps.length ∧ kv = .int .i64 (i : Int) ∧ Hid (Ow w' w.heap.size w.heap.size ps.length i (fun t => ps.getD t []) Q C) ∧ Hid (Below w.heap.size w w')) (fun k _ => ps.length - (intOf k).toNat)
  case atStart => exact ⟨0, _, _, by omega, rfl, HO, HB⟩
  case round =>
    clear HO HB
    obtain ⟨i, Q, C, hi, rfl, HO, HB⟩ := hrel
    by_cases hin : i < ps.length
    · obtain ⟨b, o, rfl, hc⟩ := HP.out.lie (by omega)
      have x0 := cell_keep (hc i hin) HB.out
      have k0 : (0 : Int) ≤ (i : Int) := by omega
      have k1 : (i : Int) < (ps.length : Int) := by omega
      have w9 : IntKind.i64.wrap ((i : Int) + 1) = (i : Int) + 1 := IntWalk.i64_in _ (by have := HPL.out; omega)
      have EY := hidden ((HP.out.each i hin).keep HB.out)
      have E1 : Hid ((ps.getD i []).length ≤ 140737488351232) := hidden (HS.out.2 i hin)
      obtain ⟨p, hp⟩ : ∃ p, p = ps.getD i [] := ⟨_, rfl⟩
      rw [← hp] at x0 EY E1
      have HPI := hidden hp
      clear hc hp
      go_wp2_with (first | (go_at_call 22; refine (clone_any _ _ p _ EY.out E1.out).mono ?_; rintro e w1 ⟨Qn, Cn, rfl, ho, hb⟩; have y0 := ((HO.out.keep (w' := w1) (fun j _ hj => hb.block j hj)).list.cellAt i (by omega)); have y1 := ((HO.out.keep (w' := w1) (fun j _ hj => hb.block j hj)).list.frozenAt i); rw [List.getElem?_append_right (by rw [chd_len]; exact Nat.le_refl _), chd_len, Nat.sub_self, List.getElem?_replicate_of_lt (by omega)] at y0; have NO := hidden (HO.out.add hin HB.out.size hb (Qn := Qn) (Cn := Cn) (by rw [← HPI.out]; exact ho)); have NB := hidden ((bl_trans HB.out hb).setCell (p := ⟨w.heap.size, i, none⟩) (Nat.le_refl _) (.slice Qn p.length Cn)); clear ho hb))
      go_roundw
      case rel => exact ⟨i + 1, _, _, by omega, by go_num, by rw [← HPI.out] at NO; exact NO, NB⟩
      case measure => simp [intOf]; omega
    · obtain rfl : i = ps.length := by omega
      have lq : ¬ (ps.length : Int) < (ps.length : Int) := by omega
      go_wp2_with fail
      refine bodyPost_ret (v := .slice (some ⟨w.heap.size, 0, none⟩) ps.length ps.length) (by simp [results, Tryd.results17, go_sem]) rfl ⟨_, Q, C, rfl, HO.out, HB.out⟩
end Go.Proofs.YtagfneojcgcigaaDoor.Tr
