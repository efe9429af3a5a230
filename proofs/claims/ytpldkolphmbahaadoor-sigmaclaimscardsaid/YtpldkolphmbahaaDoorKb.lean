import Derived.Test.YtpldkolphmbahaaDoorKa
namespace Go.Proofs.YtpldkolphmbahaaDoor
open Go.RowKit
set_option linter.unusedVariables false
/-- what a round looks at -/
def Sq (W : World) (g gE k : Nat) (a r : E4) (w : World) : Prop :=
  Below W.heap.size W w ∧ w.cell? ⟨g, k * 4, none⟩ = some (.int .u64 a.x0) ∧ w.cell? ⟨g, k * 4 + 1, none⟩ = some (.int .u64 a.x1) ∧ w.cell? ⟨g, k * 4 + 2, none⟩ = some (.int .u64 a.x2) ∧ w.cell? ⟨g, k * 4 + 3, none⟩ = some (.int .u64 a.x3) ∧
  w.cell? ⟨gE, k * 26 + 21, none⟩ = some (.int .u64 r.x0) ∧ w.cell? ⟨gE, k * 26 + 22, none⟩ = some (.int .u64 r.x1) ∧ w.cell? ⟨gE, k * 26 + 23, none⟩ = some (.int .u64 r.x2) ∧ w.cell? ⟨gE, k * 26 + 24, none⟩ = some (.int .u64 r.x3)
theorem Sq.keep {W : World} {g gE k : Nat} {a r : E4} {w w' : World} (h : Sq W g gE k a r w) (hb : Below w.heap.size w w') : Sq W g gE k a r w' := by
  obtain ⟨h0, h1, h2, h3, h4, h5, h6, h7, h8⟩ := h
  exact ⟨bl_trans h0 hb, cell_keep h1 hb, cell_keep h2 hb, cell_keep h3 hb, cell_keep h4 hb, cell_keep h5 hb, cell_keep h6 hb, cell_keep h7 hb, cell_keep h8 hb⟩
theorem Sq.of {W w : World} {g gE n k : Nat} {f h : Nat → E4} (hk : k < n) (hb : Below W.heap.size W w) (h1 : Rl w g 0 n f) (h2 : Rk w gE n h) : Sq W g gE k (f k) (h k) w := by
  have a0 := h1.c0 k hk; have a1 := h1.c1 k hk; have a2 := h1.c2 k hk; have a3 := h1.c3 k hk
  rw [Nat.zero_add] at a0 a1 a2 a3
  obtain ⟨b0, b1, b2, b3⟩ := h2.c hk
  exact ⟨hb, a0, a1, a2, a3, b0, b1, b2, b3⟩
set_option maxRecDepth 100000 in
set_option maxHeartbeats 8000000 in
theorem isLines_any (g gE c1 c2 n : Nat) (f h : Nat → E4) (w : World) (hT : Tb w) (hn : n ≤ 1048576) (hf : ∀ k, k < n → (f k).ok) (hh : ∀ k, k < n → h k = lst (f k).n) (r1 : Rl w g 0 n f) (r2 : Rk w gE n h) :
    Calls Tryd.prog 14 #[.slice (some ⟨g, 0, none⟩) n c1, .slice (some ⟨gE, 0, none⟩) n c2] w fun e w' => e = .returned (.bool true) ∧ Below w.heap.size w w' := by
  have R1 := hidden r1
  have R2 := hidden r2
  have HF := hidden hf
  have HH := hidden hh
  have TW := hidden hT
  have HN := hidden hn
  have SW := hidden (Below.refl w.heap.size w)
  clear hT hn hf hh r1 r2
  go_enter Tryd.func14, Tryd.ntmps14
  go_upto_region 4 with fail
  go_loopw [5] (fun kv w' => ∃ k : Nat, k ≤ n ∧ kv = .int .i64 (k : Int) ∧ Hid (Below w.heap.size w w')) (fun k _ => n - (intOf k).toNat)
  case atStart => exact ⟨0, by omega, rfl, SW⟩
  case round =>
    clear SW
    obtain ⟨k, hk, rfl, BW⟩ := hrel
    by_cases hkn : k < n
    · have HS := hidden (Sq.of hkn (Below.refl wr.heap.size wr) (R1.out.keep BW.out) (R2.out.keep BW.out))
      obtain ⟨a, ea⟩ : ∃ a, f k = a := ⟨_, rfl⟩
      have hA : Hid a.ok := hidden (ea ▸ HF.out k hkn)
      obtain ⟨r, er⟩ : ∃ r, lst a.n = r := ⟨_, rfl⟩
      have e2 : h k = r := (HH.out k hkn).trans (by rw [ea, er])
      rw [ea, e2] at HS
      have CA := hidden (fun w T => fix (Least_any a w T hA.out) er)
      have EQ : ∀ (w : World), (Op.equalIn 10000 36 (.agg #[.int .u64 r.x0, .int .u64 r.x1, .int .u64 r.x2, .int .u64 r.x3]) (.agg #[.int .u64 r.x0, .int .u64 r.x1, .int .u64 r.x2, .int .u64 r.x3])).run Tryd.prog w = .ok true w := fun w => by
        have := eq4r r r w
        rw [E4.same_self] at this
        exact this
      have k0 : (0 : Int) ≤ (k : Int) := by omega
      have k1 : (k : Int) < (n : Int) := by omega
      have w9 : IntKind.i64.wrap ((k : Int) + 1) = (k : Int) + 1 := IntWalk.i64_in _ (by have := HN.out; omega)
      have TT : Hid (∀ x : World, Below wr.heap.size wr x → Tb x) := hidden (fun x hb => TW.out.keep (bl_trans BW.out hb))
      clear ea er e2 hA
      simp only [E4.v] at CA
      go_upto_region 6 with fail
      have K0 : Hid (Sq wr g gE k a r wr.drew) := hidden (HS.out.keep (drew_blW wr))
      have HK : Hid (∀ wn, Below wr.drew.heap.size wr.drew wn → Sq wr g gE k a r wn) := hidden (fun wn hb => Sq.keep (HS.out.keep (drew_blW wr)) hb)
      unfold Sq at K0 HK
      go_region_held3 (fun w' => Below wr.heap.size wr w' ∧ w'.cell? ⟨g, k * 4, none⟩ = some (.int .u64 a.x0) ∧ w'.cell? ⟨g, k * 4 + 1, none⟩ = some (.int .u64 a.x1) ∧ w'.cell? ⟨g, k * 4 + 2, none⟩ = some (.int .u64 a.x2) ∧ w'.cell? ⟨g, k * 4 + 3, none⟩ = some (.int .u64 a.x3) ∧
  w'.cell? ⟨gE, k * 26 + 21, none⟩ = some (.int .u64 r.x0) ∧ w'.cell? ⟨gE, k * 26 + 22, none⟩ = some (.int .u64 r.x1) ∧ w'.cell? ⟨gE, k * 26 + 23, none⟩ = some (.int .u64 r.x2) ∧ w'.cell? ⟨gE, k * 26 + 24, none⟩ = some (.int .u64 r.x3)) (first | with_reducible exact K0.out | with_reducible exact hk2.out)
        (first | (go_at_call 17; with_reducible refine (CA.out _ (TT.out _ (And.left (by assumption)))).mono ?_; rintro e wn ⟨rfl, hb⟩; have hk2 := hidden (HK.out _ hb)))
      go_wp2_with fail
      go_roundw
      case rel => exact ⟨k + 1, by omega, by go_num, hidden (bl_trans BW.out hk2.out.1)⟩
      case measure => simp [intOf]; omega
    · have lq : ¬ (k : Int) < (n : Int) := by omega
      go_wp2_with fail
      refine bodyPost_ret (v := .bool true) (by simp [results, Tryd.results14, go_sem]) rfl ⟨rfl, BW.out⟩
end Go.Proofs.YtpldkolphmbahaaDoor
