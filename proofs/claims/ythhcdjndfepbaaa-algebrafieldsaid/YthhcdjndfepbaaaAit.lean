import Derived.Test.YthhcdjndfepbaaaAnw
import Derived.Test.YthhcdjndfepbaaaAmu
import Derived.Test.YthhcdjndfepbaaaAfi
namespace Go.Proofs.Ythhcdjndfepbaaa
open Go.RowKit
set_option maxRecDepth 100000 in
set_option maxHeartbeats 8000000 in
theorem interp_seven : InterpC := by
  intro P Q n cP cQ X Y w h40 hcP hcQ hP hQ
  have N40 := hidden h40
  have HP := hidden hP
  have NW := hidden (newton_any P Q n cP cQ X Y w h40 hP hQ)
  have nn0 : (0 : Int) ≤ (n : Int) := by omega
  clear h40 hcP hcQ hP hQ
  by_cases hd : ∃ a b, b < a ∧ a < n ∧ X a % 7 = X b % 7
  · have NW1 := hidden (NW.out.mono (R' := fun e w' => e = .returned (.tuple #[.slice none 0 0, .int .i64 60]) ∧ Below w.heap.size w w') (fun e w' h => by
      obtain ⟨v, er, he, hb, h1 | h1⟩ := h
      · obtain ⟨rfl, rfl, _⟩ := h1
        exact ⟨he, hb⟩
      · obtain ⟨a, b, h2, h3, h4⟩ := hd
        exact absurd (Mx.C.of_mod h4) (h1.2.1 a b h2 h3)))
    have HD := hidden hd
    clear NW hd
    go_enter Try.func12, Try.ntmps12
    go_wp2_with (first | (go_at_call 29; refine (NW1.out).mono ?_; rintro e wa ⟨rfl, ha⟩; have HA := hidden ha; clear ha))
    refine bodyPost_ret (v := .tuple #[.slice none 0 0, .int .i64 60]) (by simp [results, Try.results12, go_sem]) rfl ⟨_, 60, rfl, ⟨HA.out, .inl ⟨rfl, HD.out, none, 0, rfl⟩⟩⟩
  · have NW1 := hidden (NW.out.mono (R' := fun e w' => ∃ (R : Option Addr) (cR : Nat) (st : Nat → Int), e = .returned (.tuple #[.slice R n cR, .int .i64 0]) ∧ n ≤ cR ∧ Il w' R n st ∧ (∀ t, t < n → Mx.C 7 (Mx.ps st X n (X t)) (Y t)) ∧ Below w.heap.size w w') (fun e w' h => by
      obtain ⟨v, er, he, hb, h1 | h1⟩ := h
      · obtain ⟨_, _, a, b, h2, h3, h4⟩ := h1
        exact absurd ⟨a, b, h2, h3, h4.mod⟩ hd
      · obtain ⟨rfl, _, R, cR, st, rfl, h3, h4, h5⟩ := h1
        exact ⟨R, cR, st, he, h3, h4, h5, hb⟩))
    have HD := hidden hd
    clear NW hd
    go_enter Try.func12, Try.ntmps12
    go_wp2_with (first | (go_at_call 29; refine (NW1.out).mono ?_; rintro e wa ⟨R, cR, st, rfl, hcR, hI, hst, ha⟩; have HA := hidden ha; have HST := hidden hst; have MO := hidden (multiplyOut_any R P n cR cP st X wa N40.out hI (HP.out.keep ha)); clear ha hI hst) | (go_at_call 30; refine (MO.out).mono ?_; rintro e wb ⟨I, c, rfl, hR, hM, hb⟩; have HR := hidden hR; have HM := hidden hM; have HB := hidden hb; clear hR hM hb))
    refine bodyPost_ret (v := .tuple #[.slice (some ⟨I, 0, none⟩) n n, .int .i64 0]) (by simp [results, Try.results12, go_sem]) rfl ⟨_, 0, rfl, ⟨bl_trans HA.out HB.out, .inr ⟨rfl, HD.out, some ⟨I, 0, none⟩, n, c, Nat.le_refl _, rfl, HR.out.il, fun k hk => (HM.out.e (X k)).trans (by rw [nq_all]; exact HST.out k hk)⟩⟩⟩
end Go.Proofs.Ythhcdjndfepbaaa
