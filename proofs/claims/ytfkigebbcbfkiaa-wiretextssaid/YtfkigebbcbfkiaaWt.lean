import Derived.Test.YtfkigebbcbfkiaaWl
import Derived.Test.YtfkigebbcbfkiaaWs
namespace Go.Proofs.Ytfkigebbcbfkiaa
open Go.RowKit
set_option maxRecDepth 100000 in
set_option maxHeartbeats 8000000 in
theorem texts_any (P : Option Addr) (c : Nat) (bs l : List UInt8) (w : World) (hB : By w P c bs) (hl : bs.length ≤ 140737488351232) (hs : l.length ≤ 140737488351232) :
    Calls Try.prog 7 #[.slice P bs.length c, .string (sb l)] w fun e w' => e = .returned (.bool true) ∧ Below w.heap.size w w' := by
  have HL := hidden hl
  have HS := hidden hs
  have HP := hidden hB
  have L := hidden (live_any w)
  clear hl hs hB
  go_enter Try.func7, Try.ntmps7
  go_upto_region 3 with (first | (go_at_call 19; refine L.out.mono ?_; rintro e w1 ⟨rfl, hb⟩; have HB := hidden hb; clear L hb))
  have X0 := hidden (hex_any P c bs w1 (HP.out.keep HB.out) HL.out)
  have z0 := sb_size (hx bs)
  rw [hx_len] at z0
  have U0 := hidden (fun w' => unhex_any (hx bs) w' (by rw [hx_len]; have := HL.out; omega))
  have HU := hidden (uh_hx bs)
  generalize hx bs = X at X0 z0 U0 HU
  go_upto_region 4 with (first | (go_at_call 15; refine X0.out.mono ?_; rintro e w2 ⟨rfl, hb⟩; replace HB := hidden (bl_trans HB.out hb); clear X0 hb))
  go_upto_region 5 with (first | (go_at_call 17; refine (U0.out _).mono ?_; rintro e w3 ⟨v3, n3, rfl, hu, hb⟩; replace HB := hidden (bl_trans HB.out hb); have HV : Hid (n3 = 0 ∧ w3.ownsRow w2.heap.size 5 1 v3 bs.length (cb bs)) := hidden (by unfold UhR at hu; rw [HU.out] at hu; exact hu); clear U0 hu hb))
  obtain ⟨rfl, hv⟩ := HV.out
  obtain ⟨P3, c3, rfl, hy⟩ := own_by hv
  have S0 := hidden (same_any P3 P c3 c bs bs w3 hy (HP.out.keep HB.out))
  clear hv HV hy HU
  have m0 : IntKind.i64.wrap (2 * (bs.length : Int)) = 2 * (bs.length : Int) := IntWalk.i64_in _ (by have := HL.out; omega)
  go_upto_region 7 with (first | (go_at_call 13; refine S0.out.mono ?_; rintro e w4 ⟨rfl, rfl⟩; clear S0))
  clear z0 m0 HP
  have U1 := hidden (unhex_any l w4 (by have := HS.out; omega))
  cases hu : uh l with
  | none =>
    have HU := hidden hu
    clear hu
    go_wp2_with (first | (go_at_call 17; refine U1.out.mono ?_; rintro e w5 ⟨v5, n5, rfl, hu, hb⟩; replace HB := hidden (bl_trans HB.out hb); unfold UhR at hu; rw [HU.out] at hu; obtain ⟨rfl, rfl⟩ := hu; clear U1 hb))
    refine bodyPost_ret (v := .bool true) (by simp [results, Try.results7, go_sem]) rfl ⟨rfl, HB.out⟩
  | some r =>
    have HU := hidden hu
    have HX := hidden (hx_uh l.length l r (Nat.le_refl _) hu)
    have HRl : Hid (r.length ≤ 140737488351232) := hidden (by have h := hx_len r; rw [HX.out] at h; have := HS.out; omega)
    clear hu
    have e0 := sb_list l
    go_wp2_with (first | (go_at_call 17; refine U1.out.mono ?_; rintro e w5 ⟨v5, n5, rfl, hu, hb⟩; replace HB := hidden (bl_trans HB.out hb); unfold UhR at hu; rw [HU.out] at hu; obtain ⟨rfl, ho⟩ := hu; obtain ⟨P5, c5, rfl, hy5⟩ := own_by ho; have X1 := hidden (hex_any P5 c5 r w5 hy5 HRl.out); rw [HX.out] at X1; clear U1 hb ho hy5) | (go_at_call 15; refine X1.out.mono ?_; rintro e w6 ⟨rfl, hb⟩; replace HB := hidden (bl_trans HB.out hb); clear X1 hb))
    refine bodyPost_ret (v := .bool true) (by simp [results, Try.results7, go_sem]) rfl ⟨rfl, HB.out⟩
end Go.Proofs.Ytfkigebbcbfkiaa
