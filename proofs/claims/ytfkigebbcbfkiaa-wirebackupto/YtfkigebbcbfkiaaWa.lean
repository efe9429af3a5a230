import Derived.Test.YtfkigebbcbfkiaaTb
import Derived.Lib.SliceRun
namespace Go.Proofs.Ytfkigebbcbfkiaa
open Go.RowKit
theorem sb_list (l : List UInt8) : (sb l).toList = l := by
  rw [ByteArray.toList_eq]
  simp [sb]
theorem own_stay {w w' : World} {base size n : Nat} {e : TypeId} {v : Value} {xs : List Value} (h : w.ownsRow base e size v n xs) (hb : Below w.heap.size w w') : w'.ownsRow base e size v n xs := by
  refine ⟨h.1, ?_⟩
  rcases h.2 with hn | ⟨g, cap, cur, rfl, hbg, hgg, rest⟩
  · exact .inl hn
  · refine .inr ⟨g, cap, cur, rfl, hbg, ?_, rest⟩
    rw [hb.block g (Array.getElem?_eq_some_iff.1 hgg).1]
    exact hgg
theorem own_shape {w : World} {base n : Nat} {e : TypeId} {v : Value} {xs : List Value} (h : w.ownsRow base e 1 v n xs) : ∃ (P : Option Addr) (c : Nat), v = .slice P n c ∧ n ≤ c := by
  rcases h.2 with ⟨rfl, rfl⟩ | ⟨g, cap, cur, rfl, _, _, hnc, _⟩
  · exact ⟨none, 0, rfl, Nat.le_refl _⟩
  · exact ⟨_, _, rfl, hnc⟩
theorem own_byQ {w : World} {base c n : Nat} {P : Option Addr} {bs : List UInt8} (h : w.ownsRow base 5 1 (.slice P n c) n (cb bs)) : By w P c bs := by
  rcases h.2 with ⟨hv, h0⟩ | ⟨g, cap, cur, hv, _⟩
  · simp only [Value.slice.injEq] at hv
    obtain ⟨rfl, rfl, rfl⟩ := hv
    have : bs = [] := List.eq_nil_of_length_eq_zero (by have := h.1; rw [cb_len] at this; omega)
    subst this
    exact ⟨fun _ => ⟨rfl, rfl⟩, fun a ha => (by cases ha)⟩
  · simp only [Value.slice.injEq] at hv
    obtain ⟨rfl, _, rfl⟩ := hv
    exact ⟨fun h => (by cases h), fun a ha => by obtain rfl := Option.some.inj ha; exact h.cells rfl⟩
theorem By.front {w : World} {P : Option Addr} {c : Nat} {a b : List UInt8} (h : By w P c (a ++ b)) : By w P c a :=
  ⟨fun e => ⟨(List.append_eq_nil_iff.1 (h.nil e).1).1, (h.nil e).2⟩, fun x hx j u hu => h.lie x hx j u (by
    rw [cb_app, List.getElem?_append_left (List.getElem?_eq_some_iff.1 hu).1]
    exact hu)⟩
theorem by_list (w : World) (l : List UInt8) (c : Nat) : By (w.alloc (.cells (cb l).toArray 5)) (some ⟨w.heap.size, 0, none⟩) c l :=
  ⟨fun h => (by cases h), fun a ha => by obtain rfl := Option.some.inj ha; exact cells_new w (cb l) _⟩
theorem by_none (w : World) : By w none 0 [] := ⟨fun _ => ⟨rfl, rfl⟩, fun a ha => (by cases ha)⟩
theorem By.at {w : World} {b o c : Nat} {bs : List UInt8} (h : By w (some ⟨b, o, none⟩) c bs) (k : Nat) (hk : k < bs.length) : w.cell? ⟨b, o + k, none⟩ = some (.int .u8 ((bs.getD k 0).toNat : Int)) := by
  have := h.lie _ rfl k _ (cb_at bs k hk)
  rw [Addr.add_lit] at this
  simpa [List.getElem?_eq_getElem hk] using this
theorem By.none' {w : World} {P : Option Addr} {c : Nat} {bs : List UInt8} (h : By w P c bs) (hb : 0 < bs.length) : ∃ b o : Nat, P = some ⟨b, o, none⟩ := by
  cases P with
  | none => have := (h.nil rfl).1; subst this; simp at hb
  | some a =>
    obtain ⟨b, o, s⟩ := a
    have := h.lie _ rfl 0 _ (cb_at bs 0 hb)
    have hs : s = none := by simpa [Addr.add] using World.cell?_spot this
    subst hs
    exact ⟨b, o, rfl⟩
set_option maxRecDepth 100000 in
set_option maxHeartbeats 4000000 in
theorem clone_any (P : Option Addr) (c : Nat) (bs : List UInt8) (w : World) (hB : By w P c bs) (hl : bs.length ≤ 140737488355328) :
    Calls Try.prog 26 #[.slice P bs.length c] w fun e w' => ∃ v, e = .returned v ∧ w'.ownsRow w.heap.size 5 1 v bs.length (cb bs) ∧ Below w.heap.size w w' := by
  have eqn := fun (a : Option Addr) (l c : Nat) (w : World) => Lib.run_eql_slice_nil (P := Try.prog) w 22 5 a l c 0 0 (by kernel_rfl)
  have HL := hidden hl
  cases P with
  | none =>
    obtain ⟨rfl, rfl⟩ := hB.nil rfl
    clear hB hl
    go_enter Try.func26, Try.ntmps26
    go_wp2_with fail
    refine bodyPost_ret (v := .slice none 0 0) (by simp [results, Try.results26, go_sem]) rfl ⟨_, rfl, World.ownsRow_nil _ _ _ _, Below.refl _ _⟩
  | some ad =>
    have O0 := hidden (World.ownsRow_made (base := w.heap.size) (e := 5) (size := 1) w #[] 0 (Nat.le_refl _) (by unfold maxLen; omega) rfl)
    have B0 := hidden (bl_alloc w (.cells #[] 5))
    have HY := hidden (hB.keep (bl_alloc w (.cells #[] 5)))
    clear hB hl
    go_enter Try.func26, Try.ntmps26
    go_wp2_with (first | (at_builtin; refine wpList_app_by rfl _ _ rfl w.heap.size _ [] bs (some ad) c rfl rfl O0.out HY.out (by have := HL.out; simp only [List.length_nil]; omega) B0.out.size ?_; intro v2 w2 ho2 hg2; have HO := hidden ho2; have HB := hidden (below_trans B0.out (below_grown hg2 B0.out.size (fun k hk => (O0.out.lt k hk).1))); clear ho2 hg2; rw [List.nil_append] at HO))
    refine bodyPost_ret (v := v2) (by simp [results, Try.results26, go_sem]) rfl ⟨_, rfl, HO.out, HB.out⟩
set_option maxRecDepth 100000 in
set_option maxHeartbeats 4000000 in
theorem same_any (P Q : Option Addr) (c d : Nat) (a b : List UInt8) (w : World) (ha : By w P c a) (hb : By w Q d b) :
    Calls Try.prog 13 #[.slice P a.length c, .slice Q b.length d] w fun e w' => e = .returned (.bool (a == b)) ∧ w' = w := by
  have CA := by_conv ha
  have CB := by_conv hb
  have e0 := sb_list a
  have e1 := sb_list b
  clear ha hb
  go_enter Try.func13, Try.ntmps13
  go_wp2_with fail
  refine bodyPost_ret (v := .bool (a == b)) (by simp [results, Try.results13, go_sem]) rfl ⟨rfl, rfl⟩
/-- the marks -/
def mk3 : List UInt8 := [201, 202, 203]
set_option maxRecDepth 100000 in
set_option maxHeartbeats 4000000 in
theorem room_any (P : Option Addr) (c : Nat) (bs : List UInt8) (w : World) (hB : By w P c bs) (hl : bs.length ≤ 140737488351232) :
    Calls Try.prog 8 #[.slice P bs.length c] w fun e w' => ∃ v, e = .returned v ∧ w'.ownsRow w.heap.size 5 1 v (bs ++ mk3).length (cb (bs ++ mk3)) ∧ Below w.heap.size w w' := by
  have HL := hidden hl
  have HY := hidden hB
  have O0 := hidden (World.ownsRow_nil w w.heap.size 5 1)
  clear hB hl
  go_enter Try.func8, Try.ntmps8
  go_wp2_with (first | (at_builtin; refine wpList_app_by rfl _ _ rfl w.heap.size _ [] bs P c rfl rfl O0.out HY.out (by have := HL.out; simp only [List.length_nil]; omega) (Nat.le_refl _) ?_; intro v2 w2 ho2 hg2; have HO := hidden ho2; have HB := hidden (below_grown hg2 (Nat.le_refl _) (fun k hk => (O0.out.lt k hk).1)); clear ho2 hg2 O0 HY; rw [List.nil_append] at HO; have HY2 := hidden (by_list w2 mk3 3)) | (at_builtin; refine wpList_app_by rfl _ _ rfl w.heap.size _ bs mk3 (some ⟨w2.heap.size, 0, none⟩) 3 rfl rfl (own_stay HO.out (bl_alloc w2 _)) HY2.out (by have := HL.out; simp only [mk3, List.length_cons, List.length_nil]; omega) (Nat.le_trans HB.out.size (bl_alloc w2 _).size) ?_; intro v3 w3 ho3 hg3; have HO3 := hidden ho3; have HB3 := hidden (below_trans (bl_trans HB.out (bl_alloc w2 _)) (below_grown hg3 (Nat.le_trans HB.out.size (bl_alloc w2 _).size) (fun k hk => (HO.out.lt k hk).1))); clear ho3 hg3))
  refine bodyPost_ret (v := v3) (by simp [results, Try.results8, go_sem]) rfl ⟨_, rfl, HO3.out, HB3.out⟩
set_option maxRecDepth 100000 in
set_option maxHeartbeats 4000000 in
theorem roomy_any (b o d : Nat) (P : Option Addr) (c : Nat) (bs : List UInt8) (w : World) (hF : By w (some ⟨b, o, none⟩) d (bs ++ mk3)) (hd : bs.length + 3 ≤ d) (hm : bs.length ≤ 2 ^ 62) (hB : By w P c bs) :
    Calls Try.prog 14 #[.slice (some ⟨b, o, none⟩) (bs.length + 3) d, .slice P bs.length c] w fun e w' => e = .returned (.bool true) ∧ w' = w := by
  have SA := hidden (same_any (some ⟨b, o, none⟩) P d c bs bs w hF.front hB)
  have l0 : (bs ++ mk3).length = bs.length + 3 := by simp [mk3]
  have x0 := hF.at bs.length (by omega)
  have x1 := hF.at (bs.length + 1) (by omega)
  have x2 := hF.at (bs.length + 2) (by omega)
  have y0 : (bs ++ mk3).getD bs.length 0 = 201 := by simp [mk3]
  have y1 : (bs ++ mk3).getD (bs.length + 1) 0 = 202 := by simp [mk3]
  have y2 : (bs ++ mk3).getD (bs.length + 2) 0 = 203 := by simp [mk3]
  rw [y0] at x0
  rw [y1] at x1
  rw [y2] at x2
  clear hF hB l0 y0 y1 y2
  have w1 : IntKind.i64.wrap ((bs.length : Int) + 1) = ((bs.length + 1 : Nat) : Int) := IntWalk.i64_in _ (by omega)
  have w2 : IntKind.i64.wrap ((bs.length : Int) + 2) = ((bs.length + 2 : Nat) : Int) := IntWalk.i64_in _ (by omega)
  have k0 : (0 : Int) ≤ (bs.length : Int) := by omega
  have k1 : (bs.length : Int) ≤ (d : Int) := by omega
  have k2 : (bs.length : Int) < ((bs.length + 3 : Nat) : Int) := by omega
  have k3 : ((bs.length + 1 : Nat) : Int) < ((bs.length + 3 : Nat) : Int) := by omega
  have k4 : ((bs.length + 2 : Nat) : Int) < ((bs.length + 3 : Nat) : Int) := by omega
  go_enter Try.func14, Try.ntmps14
  go_wp2_with (first | (go_at_call 13; refine SA.out.mono ?_; rintro e w2 ⟨rfl, rfl⟩))
  refine bodyPost_ret (v := .bool true) (by simp [results, Try.results14, go_sem]) rfl ⟨rfl, rfl⟩
end Go.Proofs.Ytfkigebbcbfkiaa
