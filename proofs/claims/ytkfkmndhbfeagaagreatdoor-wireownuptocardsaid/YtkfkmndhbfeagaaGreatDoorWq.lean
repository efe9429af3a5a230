import Derived.Test.YtkfkmndhbfeagaaGreatDoorWp
namespace Go.Proofs.YtkfkmndhbfeagaaGreatDoor.Tr
open Go.RowKit
section
variable {w : World} {g c : Nat} {P : Option Addr} {bs : List UInt8} {e : Int}
set_option maxRecDepth 100000
set_option maxHeartbeats 4000000
theorem none_any (h : Rd w g P c bs e) : Calls Tryz.prog 50 #[.pointer (some ⟨g, 0, none⟩)] w fun e w' => e = .returned (.bool false) ∧ w' = w := by
  have x2 := h.c2
  clear h
  go_enter Tryz.func50, Tryz.ntmps50
  go_wp2_with fail
  refine bodyPost_ret (v := .bool false) (by simp [results, Tryz.results50, go_sem]) rfl ⟨rfl, rfl⟩
theorem err_any (h : Rd w g P c bs e) : Calls Tryz.prog 41 #[.pointer (some ⟨g, 0, none⟩)] w fun r w' => r = .returned (.int .i64 e) ∧ w' = w := by
  have x1 := h.c1
  have N := hidden (none_any h)
  clear h
  go_enter Tryz.func41, Tryz.ntmps41
  go_wp2_with (first | (go_at_call 50; refine N.out.mono ?_; rintro r w2 ⟨rfl, rfl⟩))
  refine bodyPost_ret (v := .int .i64 e) (by simp [results, Tryz.results41, go_sem]) rfl ⟨rfl, rfl⟩
theorem left_any (h : Rd w g P c bs e) : Calls Tryz.prog 48 #[.pointer (some ⟨g, 0, none⟩)] w fun r w' => r = .returned (.int .i64 (bs.length : Int)) ∧ w' = w := by
  have x1 := h.c0
  have N := hidden (none_any h)
  clear h
  go_enter Tryz.func48, Tryz.ntmps48
  go_wp2_with (first | (go_at_call 50; refine N.out.mono ?_; rintro r w2 ⟨rfl, rfl⟩))
  refine bodyPost_ret (v := .int .i64 (bs.length : Int)) (by simp [results, Tryz.results48, go_sem]) rfl ⟨rfl, rfl⟩
theorem fail_any (h : Rd w g P c bs 0) (e' : Int) : Calls Tryz.prog 49 #[.pointer (some ⟨g, 0, none⟩), .int .i64 e'] w fun r w' => r = .returned (.tuple #[]) ∧ w' = w.setCell ⟨g, 1, none⟩ (.int .i64 e') := by
  have x1 := h.c1
  have f1 := h.f 1
  have N := hidden (err_any h)
  clear h
  go_enter Tryz.func49, Tryz.ntmps49
  go_wp2_with (first | (go_at_call 41; refine N.out.mono ?_; rintro r w2 ⟨rfl, rfl⟩))
  refine bodyPost_end (v := .tuple #[]) (by simp [results, Tryz.results49, go_sem]) rfl ⟨rfl, rfl⟩
theorem fail_no (h : Rd w g P c bs e) (he : e ≠ 0) (e' : Int) : Calls Tryz.prog 49 #[.pointer (some ⟨g, 0, none⟩), .int .i64 e'] w fun r w' => r = .returned (.tuple #[]) ∧ w' = w := by
  have n0 : (e == 0) = false := by simpa using he
  have N := hidden (err_any h)
  clear h
  go_enter Tryz.func49, Tryz.ntmps49
  go_wp2_with (first | (go_at_call 41; refine N.out.mono ?_; rintro r w2 ⟨rfl, rfl⟩))
  refine bodyPost_end (v := .tuple #[]) (by simp [results, Tryz.results49, go_sem]) rfl ⟨rfl, rfl⟩
/-- what End answers -/
def en (bs : List UInt8) (e : Int) : Int := if e = 0 ∧ bs.length ≠ 0 then 101 else e
theorem end_any (h : Rd w g P c bs e) : Calls Tryz.prog 32 #[.pointer (some ⟨g, 0, none⟩)] w fun r w' => r = .returned (.int .i64 (en bs e)) ∧ Rd w' g P c bs (en bs e) ∧ Kp g w w' := by
  have L := hidden (left_any h)
  by_cases hb : bs.length = 0
  · have n0 : ((bs.length : Int) != 0) = false := by simp; exact List.eq_nil_of_length_eq_zero hb
    have E := hidden (err_any h)
    have HR := hidden h
    have he : en bs e = e := by unfold en; rw [if_neg (fun x => x.2 hb)]
    rw [he]
    clear h he
    go_enter Tryz.func32, Tryz.ntmps32
    have b0 : bs = [] := List.eq_nil_of_length_eq_zero hb
    subst b0
    go_wp2_with (first | (go_at_call 48; refine L.out.mono ?_; rintro r w2 ⟨rfl, rfl⟩; clear L) | (go_at_call 41; refine E.out.mono ?_; rintro r w2 ⟨rfl, rfl⟩; clear E))
    refine bodyPost_ret (v := .int .i64 e) (by simp [results, Tryz.results32, go_sem]) rfl ⟨rfl, HR.out, Kp.refl _ _⟩
  · have n0 : ¬ bs = [] := fun h => hb (by rw [h]; rfl)
    by_cases he : e = 0
    · subst he
      have F := hidden (fail_any h 101)
      have E := hidden (err_any (h.fail 101))
      have HR := hidden (h.fail 101)
      have he : en bs 0 = 101 := by unfold en; rw [if_pos ⟨rfl, hb⟩]
      rw [he]
      clear h he
      go_enter Tryz.func32, Tryz.ntmps32
      go_wp2_with (first | (go_at_call 48; refine L.out.mono ?_; rintro r w2 ⟨rfl, rfl⟩; clear L) | (go_at_call 49; refine F.out.mono ?_; rintro r w2 ⟨rfl, rfl⟩; clear F) | (go_at_call 41; refine E.out.mono ?_; rintro r w2 ⟨rfl, rfl⟩; clear E))
      refine bodyPost_ret (v := .int .i64 101) (by simp [results, Tryz.results32, go_sem]) rfl ⟨rfl, HR.out, Kp.grown (grown_set _ _ _ _)⟩
    · have F := hidden (fail_no h he 101)
      have E := hidden (err_any h)
      have HR := hidden h
      have he2 : en bs e = e := by unfold en; rw [if_neg (fun x => he x.1)]
      rw [he2]
      clear h he he2
      go_enter Tryz.func32, Tryz.ntmps32
      go_wp2_with (first | (go_at_call 48; refine L.out.mono ?_; rintro r w2 ⟨rfl, rfl⟩; clear L) | (go_at_call 49; refine F.out.mono ?_; rintro r w2 ⟨rfl, rfl⟩; clear F) | (go_at_call 41; refine E.out.mono ?_; rintro r w2 ⟨rfl, rfl⟩; clear E))
      refine bodyPost_ret (v := .int .i64 e) (by simp [results, Tryz.results32, go_sem]) rfl ⟨rfl, HR.out, Kp.refl _ _⟩
theorem reader_new (w : World) (Q : Option Addr) (d : Nat) (bs : List UInt8) (hy : By w Q d bs) (hb : ∀ a, Q = some a → a.block < w.heap.size) (hd : bs.length ≤ d) : Rd (w.alloc (.cells #[.slice Q bs.length d, .int .i64 0, .bool true] 93)) w.heap.size Q d bs 0 :=
  ⟨heap_alloc_new w _, hy.keep (bl_alloc w _), fun a ha => ⟨Nat.ne_of_lt (hb a ha), Nat.lt_of_lt_of_le (hb a ha) (bl_alloc w _).size⟩, hd⟩
theorem newReader_any (hB : By w P c bs) (hl : bs.length ≤ 140737488355328) : Calls Tryz.prog 13 #[.slice P bs.length c] w fun r w' => ∃ (g : Nat) (Q : Option Addr) (d : Nat), r = .returned (.pointer (some ⟨g, 0, none⟩)) ∧ Rd w' g Q d bs 0 ∧ w.heap.size ≤ g ∧ Below w.heap.size w w' := by
  have C := hidden (clone_any P c bs w hB hl)
  clear hB hl
  go_enter Tryz.func13, Tryz.ntmps13
  go_wp2_with (first | (go_at_call 34; refine C.out.mono ?_; rintro r w1 ⟨v1, rfl, ho, hb⟩; have hlt := ho.lt; obtain ⟨Q, d, rfl, hd⟩ := own_shape ho; have HB := hidden hb; have HR := hidden (reader_new w1 Q d bs (own_byQ ho) (fun a ha => by subst ha; rcases ho.2 with ⟨hv, _⟩ | ⟨k, cap, cur, hv, _, hk, _⟩; (· simp at hv); (· simp only [Value.slice.injEq] at hv; obtain ⟨h1, _⟩ := hv; rw [Option.some.inj h1]; exact (Array.getElem?_eq_some_iff.1 hk).1)) hd); clear ho hb hlt hd C))
  refine bodyPost_ret (v := .pointer (some ⟨w1.heap.size, 0, none⟩)) (by simp [results, Tryz.results13, go_sem]) rfl ⟨_, Q, d, rfl, HR.out, HB.out.size, bl_trans HB.out (bl_alloc w1 _)⟩
end
end Go.Proofs.YtkfkmndhbfeagaaGreatDoor.Tr
