import Derived.Test.YtfkigebbcbfkiaaWk
namespace Go.Proofs.Ytfkigebbcbfkiaa
open Go.RowKit
/-- its fault -/
def uhe (l : List UInt8) : Nat := match uh l with | some _ => 0 | none => 104
theorem UhR.open {l : List UInt8} {w w' : World} {v : Value} {n : Nat} (h : UhR l w w' v n) : ∃ (P : Option Addr) (c : Nat), v = .slice P ((uh l).getD []).length c ∧ By w' P c ((uh l).getD []) ∧ n = uhe l := by
  unfold UhR at h
  unfold uhe
  cases hu : uh l with
  | none =>
    rw [hu] at h
    obtain ⟨rfl, rfl⟩ := h
    exact ⟨none, 0, rfl, by_none w', rfl⟩
  | some r =>
    rw [hu] at h
    obtain ⟨rfl, ho⟩ := h
    obtain ⟨P, c, rfl, hb⟩ := own_by ho
    exact ⟨P, c, rfl, hb, rfl⟩
set_option maxRecDepth 100000 in
set_option maxHeartbeats 8000000 in
theorem wirehex_any (P : Option Addr) (c : Nat) (bs l : List UInt8) (w : World) (hB : By w P c bs) (hl : bs.length ≤ 140737488351232) (hs : l.length ≤ 140737488351232) :
    Calls Try.prog 4 #[.slice P bs.length c, .string (sb l)] w fun e w' => e = .returned (.bool true) ∧ Below w.heap.size w w' := by
  have HL := hidden hl
  have HS := hidden hs
  have HP := hidden hB
  have R0 := hidden (room_any P c bs w hB hl)
  clear hl hs hB
  go_enter Try.func4, Try.ntmps4
  go_upto_region 2 with (first | (go_at_call 8; refine R0.out.mono ?_; rintro e w1 ⟨v1, rfl, ho, hb⟩; clear R0; rw [show (bs ++ mk3).length = bs.length + 3 by simp [mk3]] at ho; obtain ⟨gf, cf, rfl, hcf, -, hgf⟩ := own_some ho (by omega); have FY := hidden (own_byQ ho); have HF := hidden hcf; have HB := hidden hb; clear ho hb hcf hgf))
  replace HP := hidden (HP.out.keep HB.out)
  have k0 : (0 : Int) ≤ (bs.length : Int) := by omega
  have k1 : (bs.length : Int) ≤ (cf : Int) := by have := HF.out; omega
  have X0 := hidden (hex_any (some ⟨gf, 0, none⟩) cf bs w1 FY.out.front HL.out)
  have X1 := hidden (fun w' (h : Below w1.heap.size w1 w') => rhex_any P c bs w' (HP.out.keep h) HL.out)
  have Y0 := hidden (fun w' (h : Below w1.heap.size w1 w') => roomy_any gf 0 cf P c bs w' (FY.out.keep h) HF.out (by have := HL.out; omega) (HP.out.keep h))
  generalize hx bs = X at X0 X1
  go_upto_region 4 with (first | (go_at_call 15; refine X0.out.mono ?_; rintro e w2 ⟨rfl, hb⟩; have H2 := hidden hb; clear X0 hb) | (go_at_call 16; refine (X1.out _ H2.out).mono ?_; rintro e w3 ⟨rfl, hb⟩; have H3 := hidden (bl_trans H2.out hb); clear X1 hb) | (go_at_call 14; refine (Y0.out _ H3.out).mono ?_; rintro e w4 ⟨rfl, rfl⟩; clear Y0))
  replace HB := hidden (bl_trans HB.out H3.out)
  clear FY HF HP k0 k1 H2 H3
  have U0 := hidden (unhex_any l w4 (by have := HS.out; omega))
  have U1 := hidden (fun w' => runhex_any l w' (by have := HS.out; omega))
  go_upto_region 5 with (first | (go_at_call 17; refine U0.out.mono ?_; rintro e w5 ⟨v5, n5, rfl, hu, hb⟩; obtain ⟨P5, c5, rfl, hy5, rfl⟩ := hu.open; have Y5 := hidden hy5; replace HB := hidden (bl_trans HB.out hb); clear U0 hu hb hy5))
  go_upto_region 6 with (first | (go_at_call 18; refine (U1.out _).mono ?_; rintro e w6 ⟨v6, n6, rfl, hu, hb⟩; obtain ⟨P6, c6, rfl, hy6, rfl⟩ := hu.open; have S6 := hidden (same_any P5 P6 c5 c6 _ _ w6 (Y5.out.keep hb) hy6); replace HB := hidden (bl_trans HB.out hb); clear U1 hu hb hy6 Y5))
  generalize (uh l).getD [] = R at S6 ⊢
  generalize uhe l = E
  go_wp2_with (first | (go_at_call 13; refine S6.out.mono ?_; rintro e w7 ⟨rfl, rfl⟩; clear S6))
  refine bodyPost_ret (v := .bool true) (by simp [results, Try.results4, go_sem]) rfl ⟨rfl, HB.out⟩
end Go.Proofs.Ytfkigebbcbfkiaa
