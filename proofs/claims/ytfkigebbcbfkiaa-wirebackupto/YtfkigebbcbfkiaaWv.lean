import Derived.Test.YtfkigebbcbfkiaaWu
namespace Go.Proofs.Ytfkigebbcbfkiaa
open Go.RowKit
set_option maxRecDepth 100000
set_option maxHeartbeats 4000000
theorem Rd.more {w w' : World} {g c : Nat} {P : Option Addr} {bs : List UInt8} {e : Int} (h : Rd w g P c bs e) (k : Kp g w w') : ∀ a, P = some a → a.block ≠ g ∧ a.block < w'.heap.size := fun a ha => ⟨(h.fr a ha).1, Nat.lt_of_lt_of_le (h.fr a ha).2 k.size⟩
theorem readB_any {w : World} {g c X : Nat} {P : Option Addr} {bs : List UInt8} (most : Nat) (h : Rd w g P c bs 0) (hl : bs.length ≤ 140737488355328) (hm : most < 2 ^ 63) (hX : w.cell? ⟨X, 0, none⟩ = some (.int .i64 (most : Int))) :
    Calls Try.prog 34 #[.pointer (some ⟨g, 0, none⟩), .func (.func 35) #[] #[.pointer (some ⟨X, 0, none⟩)]] w fun e w' => ∃ (v : Value) (P' : Option Addr) (c' : Nat), e = .returned v ∧ w'.ownsRow w.heap.size 5 1 v (bt bs most).1.length (cb (bt bs most).1) ∧ Rd w' g P' c' (bs.drop (bt bs most).2.1) ((bt bs most).2.2 : Int) ∧ Kp g w w' := by
  have E := hidden (err_any h)
  have T := hidden (toldB_any P c X bs most w h.by' hl h.cap hm hX)
  have x0 := h.c0
  have hle := fun h => bt_le (bs := bs) (most := most) h
  have hbad := fun h => bt_fault (bs := bs) (most := most) h
  have HG := hidden h.glt
  by_cases h0 : (bt bs most).2.2 = 0
  · obtain ⟨h1, h2⟩ := hle h0
    rw [h0] at T
    obtain ⟨b, o, rfl⟩ := h.by'.none' (by omega)
    generalize bt bs most = x at *
    obtain ⟨Y, s, e⟩ := x
    dsimp only at *
    subst h0
    have n0 : (s : Int) ≤ (bs.length : Int) := by omega
    have n1 : (0 : Int) ≤ (s : Int) := by omega
    have hc := h.cap
    have HR := hidden h
    clear hle hbad hl h hm
    by_cases hcs : c = s
    · subst hcs
      obtain rfl : c = bs.length := by omega
      go_enter Try.func34, Try.ntmps34
      go_upto_region 5 with (first | (go_at_call 23; refine E.out.mono ?_; rintro r w2 ⟨rfl, rfl⟩; clear E) | (go_at_call 35; refine T.out.mono ?_; rintro r w3 ⟨v3, rfl, ho, hb⟩; have HO := hidden ho; have HB := hidden hb; clear T ho hb))
      replace HR := hidden (HR.out.keep HB.out)
      clear x0
      have x0 := HR.out.c0
      have f0 := HR.out.f 0
      have HM := hidden (HR.out.move bs.length o 0 0 (by omega) (by omega) (by rw [List.drop_length]; exact ⟨fun e => (by cases e), fun a ha j u hu => (by simp [cb] at hu)⟩))
      have HO2 := hidden ((Kp.grown (grown_set w3 g 0 (.slice (some ⟨b, o, none⟩) 0 0))).own HO.out (fun e => by have h1 := (HO.out.lt g e).1; have h2 := HG.out; omega))
      have HK2 := hidden ((Kp.of (g := g) HB.out).trans (Kp.grown (grown_set w3 g 0 (.slice (some ⟨b, o, none⟩) 0 0))))
      go_wp2_with fail
      refine bodyPost_ret (v := v3) (by simp [results, Try.results34, go_sem]) rfl ⟨_, _, _, rfl, HO2.out, HM.out, HK2.out⟩
    · have n2 : ¬ c = s := hcs
      go_enter Try.func34, Try.ntmps34
      go_upto_region 5 with (first | (go_at_call 23; refine E.out.mono ?_; rintro r w2 ⟨rfl, rfl⟩; clear E) | (go_at_call 35; refine T.out.mono ?_; rintro r w3 ⟨v3, rfl, ho, hb⟩; have HO := hidden ho; have HB := hidden hb; clear T ho hb))
      replace HR := hidden (HR.out.keep HB.out)
      clear x0
      have x0 := HR.out.c0
      have f0 := HR.out.f 0
      have HM := hidden (HR.out.move s (o + s) (bs.length - s) (c - s) rfl (by omega) (HR.out.by'.drop s _))
      have HO2 := hidden ((Kp.grown (grown_set w3 g 0 (.slice (some ⟨b, o + s, none⟩) (bs.length - s) (c - s)))).own HO.out (fun e => by have h1 := (HO.out.lt g e).1; have h2 := HG.out; omega))
      have HK2 := hidden ((Kp.of (g := g) HB.out).trans (Kp.grown (grown_set w3 g 0 (.slice (some ⟨b, o + s, none⟩) (bs.length - s) (c - s)))))
      go_wp2_with fail
      refine bodyPost_ret (v := v3) (by simp [results, Try.results34, go_sem]) rfl ⟨_, _, _, rfl, HO2.out, HM.out, HK2.out⟩
  · obtain ⟨h1, h2⟩ := hbad h0
    have n0 : (((bt bs most).2.2 : Int) != 0) = true := by simpa using h0
    rw [h1, h2, List.drop_zero]
    rw [h1, h2] at T
    generalize (bt bs most).2.2 = e at *
    have HR := hidden h
    clear hle hbad hl h h0 h1 h2 hm
    go_enter Try.func34, Try.ntmps34
    go_upto_region 5 with (first | (go_at_call 23; refine E.out.mono ?_; rintro r w2 ⟨rfl, rfl⟩; clear E) | (go_at_call 35; refine T.out.mono ?_; rintro r w3 ⟨v3, rfl, -, hb⟩; have HB := hidden hb; clear T hb))
    replace HR := hidden (HR.out.keep HB.out)
    clear x0
    have F := hidden (fail_any HR.out (e : Int))
    have HM := hidden (HR.out.fail (e : Int))
    have HK2 := hidden ((Kp.of (g := g) HB.out).trans (Kp.grown (grown_set w3 g 1 (.int .i64 (e : Int)))))
    go_wp2_with (first | (go_at_call 37; refine F.out.mono ?_; rintro r w2 ⟨rfl, rfl⟩; clear F))
    refine bodyPost_ret (v := .slice none 0 0) (by simp [results, Try.results34, go_sem]) rfl ⟨_, _, _, rfl, World.ownsRow_nil _ _ _ _, HM.out, HK2.out⟩
theorem readB_no {w : World} {g c : Nat} {P : Option Addr} {bs : List UInt8} {e : Int} (f : Value) (h : Rd w g P c bs e) (he : e ≠ 0) :
    Calls Try.prog 34 #[.pointer (some ⟨g, 0, none⟩), f] w fun r w' => r = .returned (.slice none 0 0) ∧ w' = w := by
  have E := hidden (err_any h)
  have n0 : (e != 0) = true := by simpa using he
  clear h he
  go_enter Try.func34, Try.ntmps34
  go_wp2_with (first | (go_at_call 23; refine E.out.mono ?_; rintro r w2 ⟨rfl, rfl⟩; clear E))
  refine bodyPost_ret (v := .slice none 0 0) (by simp [results, Try.results34, go_sem]) rfl ⟨rfl, rfl⟩
theorem Bytes_any {w : World} {g c : Nat} {P : Option Addr} {bs : List UInt8} (most : Nat) (h : Rd w g P c bs 0) (hl : bs.length ≤ 140737488355328) (hm : most < 2 ^ 63) :
    Calls Try.prog 25 #[.pointer (some ⟨g, 0, none⟩), .int .i64 (most : Int)] w fun e w' => ∃ (v : Value) (P' : Option Addr) (c' : Nat), e = .returned v ∧ w'.ownsRow w.heap.size 5 1 v (bt bs most).1.length (cb (bt bs most).1) ∧ Rd w' g P' c' (bs.drop (bt bs most).2.1) ((bt bs most).2.2 : Int) ∧ Kp g w w' := by
  have hmf : ∀ (fn : Fn) (first cap : Array Value) (w : World), (Instr.makeFunc fn first cap).run Try.prog w = .ok (.func fn first cap) w := fun _ _ _ _ => rfl
  have R := hidden (readB_any most (h.keep (bl_alloc w (.cells #[.int .i64 (most : Int)] 3))) hl hm (box_cell w _ _))
  have K := hidden (Kp.of (g := g) (bl_alloc w (.cells #[.int .i64 (most : Int)] 3)))
  generalize bt bs most = x at *
  clear h hl hm
  go_enter Try.func25, Try.ntmps25
  go_wp2_with (first | (go_at_call 34; refine R.out.mono ?_; rintro r w2 ⟨v2, P', c', rfl, ho, hr, hk⟩; have HO := hidden (own_less ho (bl_alloc w (.cells #[.int .i64 (most : Int)] 3)).size); have HR := hidden hr; have HK := hidden hk; clear R ho hr hk))
  refine bodyPost_ret (v := v2) (by simp [results, Try.results25, go_sem]) rfl ⟨_, _, _, rfl, HO.out, HR.out, K.out.trans HK.out⟩
theorem Bytes_no {w : World} {g c : Nat} {P : Option Addr} {bs : List UInt8} {e : Int} (most : Nat) (h : Rd w g P c bs e) (he : e ≠ 0) :
    Calls Try.prog 25 #[.pointer (some ⟨g, 0, none⟩), .int .i64 (most : Int)] w fun r w' => r = .returned (.slice none 0 0) ∧ Below w.heap.size w w' := by
  have hmf : ∀ (fn : Fn) (first cap : Array Value) (w : World), (Instr.makeFunc fn first cap).run Try.prog w = .ok (.func fn first cap) w := fun _ _ _ _ => rfl
  have R := hidden (fun f => readB_no f (h.keep (bl_alloc w (.cells #[.int .i64 (most : Int)] 3))) he)
  have K := hidden (bl_alloc w (.cells #[.int .i64 (most : Int)] 3))
  clear h he
  go_enter Try.func25, Try.ntmps25
  go_wp2_with (first | (go_at_call 34; refine (R.out _).mono ?_; rintro r w2 ⟨rfl, rfl⟩; clear R))
  refine bodyPost_ret (v := .slice none 0 0) (by simp [results, Try.results25, go_sem]) rfl ⟨rfl, K.out⟩
end Go.Proofs.Ytfkigebbcbfkiaa
