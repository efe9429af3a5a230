import Derived.Test.YtcecpfcekejblaaTb
import Derived.Lib.SliceRun
namespace Go.Proofs.Ytcecpfcekejblaa
open Go.RowKit
theorem sb_list (l : List UInt8) : (sb l).toList = l := by
  rw [ByteArray.toList_eq]
  simp [sb]
theorem own_stay {w w' : World} {base size n : Nat} {e : TypeId} {v : Value} {xs : List Value} (h : w.ownsRow base e size v n xs) (hb : Below w.heap.size w w') : w'.ownsRow base e size v n xs := by
  refine ⟨h.1, ?_⟩
  rcases h.2 with hn | ⟨g, cap, cur, rfl, hbg, hgg, rest⟩
  · exact .inl hn
  · refine .inr ⟨g, cap, cur, rfl, hbg, ?_, rest⟩
    rw [hb.block g (Array.getElem?_eq_some_iff.1 hgg).1]
    exact hgg
theorem own_shape {w : World} {base n : Nat} {e : TypeId} {v : Value} {xs : List Value} (h : w.ownsRow base e 1 v n xs) : ∃ (P : Option Addr) (c : Nat), v = .slice P n c ∧ n ≤ c := by
  rcases h.2 with ⟨rfl, rfl⟩ | ⟨g, cap, cur, rfl, _, _, hnc, _⟩
  · exact ⟨none, 0, rfl, Nat.le_refl _⟩
  · exact ⟨_, _, rfl, hnc⟩
theorem own_byQ {w : World} {base c n : Nat} {P : Option Addr} {bs : List UInt8} (h : w.ownsRow base 5 1 (.slice P n c) n (cb bs)) : By w P c bs := by
  rcases h.2 with ⟨hv, h0⟩ | ⟨g, cap, cur, hv, _⟩
  · simp only [Value.slice.injEq] at hv
    obtain ⟨rfl, rfl, rfl⟩ := hv
    have : bs = [] := List.eq_nil_of_length_eq_zero (by have := h.1; rw [cb_len] at this; omega)
    subst this
    exact ⟨fun _ => ⟨rfl, rfl⟩, fun a ha => (by cases ha)⟩
  · simp only [Value.slice.injEq] at hv
    obtain ⟨rfl, _, rfl⟩ := hv
    exact ⟨fun h => (by cases h), fun a ha => by obtain rfl := Option.some.inj ha; exact h.cells rfl⟩
theorem By.front {w : World} {P : Option Addr} {c : Nat} {a b : List UInt8} (h : By w P c (a ++ b)) : By w P c a :=
  ⟨fun e => ⟨(List.append_eq_nil_iff.1 (h.nil e).1).1, (h.nil e).2⟩, fun x hx j u hu => h.lie x hx j u (by
    rw [cb_app, List.getElem?_append_left (List.getElem?_eq_some_iff.1 hu).1]
    exact hu)⟩
theorem by_list (w : World) (l : List UInt8) (c : Nat) : By (w.alloc (.cells (cb l).toArray 5)) (some ⟨w.heap.size, 0, none⟩) c l :=
  ⟨fun h => (by cases h), fun a ha => by obtain rfl := Option.some.inj ha; exact cells_new w (cb l) _⟩
theorem by_none (w : World) : By w none 0 [] := ⟨fun _ => ⟨rfl, rfl⟩, fun a ha => (by cases ha)⟩
theorem By.at {w : World} {b o c : Nat} {bs : List UInt8} (h : By w (some ⟨b, o, none⟩) c bs) (k : Nat) (hk : k < bs.length) : w.cell? ⟨b, o + k, none⟩ = some (.int .u8 ((bs.getD k 0).toNat : Int)) := by
  have := h.lie _ rfl k _ (cb_at bs k hk)
  rw [Addr.add_lit] at this
  simpa [List.getElem?_eq_getElem hk] using this
theorem By.none' {w : World} {P : Option Addr} {c : Nat} {bs : List UInt8} (h : By w P c bs) (hb : 0 < bs.length) : ∃ b o : Nat, P = some ⟨b, o, none⟩ := by
  cases P with
  | none => have := (h.nil rfl).1; subst this; simp at hb
  | some a =>
    obtain ⟨b, o, s⟩ := a
    have := h.lie _ rfl 0 _ (cb_at bs 0 hb)
    have hs : s = none := by simpa [Addr.add] using World.cell?_spot this
    subst hs
    exact ⟨b, o, rfl⟩
set_option maxRecDepth 100000 in
set_option maxHeartbeats 4000000 in
theorem clone_any (P : Option Addr) (c : Nat) (bs : List UInt8) (w : World) (hB : By w P c bs) (hl : bs.length ≤ 140737488355328) :
    Calls Try.prog 18 #[.slice P bs.length c] w fun e w' => ∃ v, e = .returned v ∧ w'.ownsRow w.heap.size 5 1 v bs.length (cb bs) ∧ Below w.heap.size w w' := by
  have eqn := fun (a : Option Addr) (l c : Nat) (w : World) => Lib.run_eql_slice_nil (P := Try.prog) w 24 5 a l c 0 0 (by kernel_rfl)
  have HL := hidden hl
  cases P with
  | none =>
    obtain ⟨rfl, rfl⟩ := hB.nil rfl
    clear hB hl
    go_enter Try.func18, Try.ntmps18
    go_wp2_with fail
    refine bodyPost_ret (v := .slice none 0 0) (by simp [results, Try.results18, go_sem]) rfl ⟨_, rfl, World.ownsRow_nil _ _ _ _, Below.refl _ _⟩
  | some ad =>
    have O0 := hidden (World.ownsRow_made (base := w.heap.size) (e := 5) (size := 1) w #[] 0 (Nat.le_refl _) (by unfold maxLen; omega) rfl)
    have B0 := hidden (bl_alloc w (.cells #[] 5))
    have HY := hidden (hB.keep (bl_alloc w (.cells #[] 5)))
    clear hB hl
    go_enter Try.func18, Try.ntmps18
    go_wp2_with (first | (at_builtin; refine wpList_app_by rfl _ _ rfl w.heap.size _ [] bs (some ad) c rfl rfl O0.out HY.out (by have := HL.out; simp only [List.length_nil]; omega) B0.out.size ?_; intro v2 w2 ho2 hg2; have HO := hidden ho2; have HB := hidden (below_trans B0.out (below_grown hg2 B0.out.size (fun k hk => (O0.out.lt k hk).1))); clear ho2 hg2; rw [List.nil_append] at HO))
    refine bodyPost_ret (v := v2) (by simp [results, Try.results18, go_sem]) rfl ⟨_, rfl, HO.out, HB.out⟩
/-- the marks -/
def mk3 : List UInt8 := [201, 202, 203]
end Go.Proofs.Ytcecpfcekejblaa
