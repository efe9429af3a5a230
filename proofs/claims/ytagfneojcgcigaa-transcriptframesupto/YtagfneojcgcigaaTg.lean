import Derived.Test.YtagfneojcgcigaaTf
namespace Go.Proofs.Ytagfneojcgcigaa
open Go.RowKit
/-- lists of bytes, in a list -/
structure Pt (w : World) (P : Option Addr) (ps : List (List UInt8)) (q : Nat → Option Addr) (c : Nat → Nat) : Prop where
  lie : 0 < ps.length → ∃ b o : Nat, P = some ⟨b, o, none⟩ ∧ ∀ i, i < ps.length → w.cell? ⟨b, o + i, none⟩ = some (.slice (q i) (ps.getD i []).length (c i))
  each : ∀ i, i < ps.length → By w (q i) (c i) (ps.getD i [])
theorem Pt.keep {w w' : World} {P : Option Addr} {ps : List (List UInt8)} {q : Nat → Option Addr} {c : Nat → Nat} (h : Pt w P ps q c) (hb : Below w.heap.size w w') : Pt w' P ps q c :=
  ⟨fun h0 => by obtain ⟨b, o, e, h1⟩ := h.lie h0; exact ⟨b, o, e, fun i hi => cell_keep (h1 i hi) hb⟩, fun i hi => (h.each i hi).keep hb⟩
set_option maxRecDepth 100000 in
set_option maxHeartbeats 8000000 in
theorem frameSize_any (l : List UInt8) (ps : List (List UInt8)) (P : Option Addr) (cap : Nat) (q : Nat → Option Addr) (c : Nat → Nat) (w : World) (hP : Pt w P ps q c) (hs : frl l ps ≤ 2 ^ 40) :
    Calls Try.prog 12 #[.string (sb l), .slice P ps.length cap] w fun e w' => e = .returned (.int .i64 (frl l ps : Nat)) ∧ Below w.heap.size w w' := by
  have HP := hidden hP
  have HS := hidden hs
  have z0 := sb_size l
  have n0 : IntKind.i64.wrap (8 + (l.length : Int)) = 8 + (l.length : Int) := IntWalk.i64_in _ (by unfold frl at hs; omega)
  have n1 : IntKind.i64.wrap (8 + (l.length : Int) + 8) = 8 + (l.length : Int) + 8 := IntWalk.i64_in _ (by unfold frl at hs; omega)
  clear hP hs
  go_enter Try.func12, Try.ntmps12
  go_wp2_with fail
  go_loopw [5, 14] (fun vv kv w' => ∃ k s : Nat, k ≤ ps.length ∧ kv = .int .i64 (k : Int) ∧ vv = .int .i64 (s : Int) ∧ Hid (s = 16 + l.length + ((ps.take k).map fun p => 8 + p.length).sum) ∧ Hid (Below w.heap.size w w')) (fun _ k _ => ps.length - (intOf k).toNat)
  case atStart => exact ⟨0, 16 + l.length, by omega, rfl, by congr 1; omega, hidden (by simp), hidden (Below.refl _ _)⟩
  case round =>
    obtain ⟨k, s, hk, rfl, rfl, hR, hB⟩ := hrel
    by_cases hkn : k < ps.length
    · obtain ⟨b, o, rfl, hc⟩ := HP.out.lie (by omega)
      have x0 := cell_keep (hc k hkn) hB.out
      have k0 : (0 : Int) ≤ (k : Int) := by omega
      have k1 : (k : Int) < (ps.length : Int) := by omega
      have hsum := sum_next ps k hkn
      have hle := take_sum ps (k + 1)
      have hS := HS.out
      have hR' := hR.out
      unfold frl at hS
      have lp := len_le ps
      have w7 : IntKind.i64.wrap (8 + ((ps.getD k []).length : Int)) = 8 + ((ps.getD k []).length : Int) := IntWalk.i64_in _ (by omega)
      have w8 : IntKind.i64.wrap ((s : Int) + (8 + ((ps.getD k []).length : Int))) = (s : Int) + (8 + ((ps.getD k []).length : Int)) := IntWalk.i64_in _ (by omega)
      have w9 : IntKind.i64.wrap ((k : Int) + 1) = (k : Int) + 1 := IntWalk.i64_in _ (by omega)
      have NR : Hid (s + (8 + (ps.getD k []).length) = 16 + l.length + ((ps.take (k + 1)).map fun p => 8 + p.length).sum) := hidden (by omega)
      generalize (ps.getD k []).length = m at x0 w7 w8 NR
      clear hc hsum hle hS hR' lp hR
      go_wp2_with fail
      go_roundw
      case rel => exact ⟨k + 1, s + (8 + m), by omega, by go_num, by congr 1, NR, hB⟩
      case measure => simp [intOf]; omega
    · obtain rfl : k = ps.length := by omega
      have lq : ¬ (ps.length : Int) < (ps.length : Int) := by omega
      have hR' := hR.out
      rw [List.take_length] at hR'
      have HE : Hid (s = frl l ps) := hidden hR'
      clear hR hR'
      go_wp2_with fail
      refine bodyPost_ret (v := .int .i64 (s : Int)) (by simp [results, Try.results12, go_sem]) rfl ⟨by rw [HE.out], hB.out⟩
set_option maxRecDepth 100000 in
set_option maxHeartbeats 16000000 in
theorem frame_any (l : List UInt8) (ps : List (List UInt8)) (P : Option Addr) (cap : Nat) (q : Nat → Option Addr) (c : Nat → Nat) (w : World) (hP : Pt w P ps q c) (hs : frl l ps ≤ 2 ^ 40) :
    Calls Try.prog 5 #[.string (sb l), .slice P ps.length cap] w fun e w' => ∃ v, e = .returned v ∧ w'.ownsRow w.heap.size 5 1 v (fr l ps).length (cb (fr l ps)) ∧ Below w.heap.size w w' := by
  have HP := hidden hP
  have HS := hidden hs
  have z0 := sb_size l
  have HLL : Hid (l.length + 16 ≤ 2 ^ 40) := hidden (by unfold frl at hs; omega)
  have HPL : Hid (ps.length ≤ 2 ^ 40) := hidden (by have := len_le ps; unfold frl at hs; omega)
  have C1 := hidden (frameSize_any l ps P cap q c w hP hs)
  have hmk := fun w => run_make (P := Try.prog) w 23 5 (Try.prog.info? 5).get! (.int .u8 0) (by kernel_rfl) (by kernel_rfl) (by kernel_rfl) .i64 .i64 0 (frl l ps : Nat) (by omega) (by omega) (by rw [show (Try.prog.info? 5).get!.bytes = 1 by kernel_rfl]; omega) (by omega)
  rw [show (Try.prog.info? 5).get!.size = 1 by kernel_rfl] at hmk
  simp only [Int.toNat_natCast, Int.toNat_zero, Nat.mul_one, Value.cells] at hmk
  have M0 : ∀ w1 : World, w.heap.size ≤ w1.heap.size → Hid ((w1.alloc (.cells (madeCells #[.int .u8 0] (frl l ps)) 5)).ownsRow w.heap.size 5 1 (.slice (some ⟨w1.heap.size, 0, none⟩) 0 (frl l ps)) ([] : List UInt8).length (cb [])) := fun w1 h1 => hidden (World.ownsRow_made w1 _ _ h1 (by unfold maxLen; omega) (by simp [madeCells]))
  generalize frl l ps = F at C1 hmk M0
  clear hP hs
  go_enter Try.func5, Try.ntmps5
  go_upto_region 2 with (first | (go_at_call 12; refine C1.out.mono ?_; rintro e w1 ⟨rfl, hb1⟩; have HB := hidden (bl_trans hb1 (bl_alloc w1 (.cells (madeCells #[.int .u8 0] F) 5))); have HO := M0 w1 hb1.size; clear hb1))
  generalize w1.alloc (.cells (madeCells #[.int .u8 0] F) 5) = w2 at HO HB ⊢
  clear C1 hmk M0
  go_upto_region 3 with (first | (go_at_call 13; refine (appLen_any _ _ _ w.heap.size _ HB.out.size HO.out (by simp) (by have := HLL.out; omega)).mono ?_; rintro e wa ⟨va, rfl, ha, hb⟩; replace HO := hidden ha; replace HB := hidden (below_trans HB.out hb); clear ha hb))
  rw [List.nil_append] at HO
  go_upto_region 4 with (first | (at_builtin; refine wpList_app_sb rfl _ _ rfl w.heap.size _ (le8 l.length) l rfl rfl HO.out (by have := HLL.out; rw [le8_len]; omega) HB.out.size ?_; intro v3 w3 ho3 hg3; have HB3 := hidden (below_trans HB.out (below_grown hg3 HB.out.size (fun j hj => (HO.out.lt j hj).1))); replace HO := hidden ho3; clear ho3 hg3))
  replace HB := HB3
  clear HB3
  go_upto_region 5 with (first | (go_at_call 13; refine (appLen_any _ _ _ w.heap.size _ HB.out.size HO.out (by have := HLL.out; simp only [List.length_append, le8_len]; omega) (by exact HPL.out)).mono ?_; rintro e wa ⟨va, rfl, ha, hb⟩; replace HO := hidden ha; replace HB := hidden (below_trans HB.out hb); clear ha hb))
  obtain ⟨X, hX⟩ : ∃ X : List UInt8, X = le8 l.length ++ l ++ le8 ps.length := ⟨_, rfl⟩
  rw [← hX] at HO
  have HX := hidden hX
  clear hX
  go_wp2_with fail
  go_loopw [5, 25] (fun vv kv w' => ∃ k : Nat, k ≤ ps.length ∧ kv = .int .i64 (k : Int) ∧ Hid (w'.ownsRow w.heap.size 5 1 vv (X ++ (ps.take k).flatMap pt8).length (cb (X ++ (ps.take k).flatMap pt8))) ∧ Hid (Below w.heap.size w w')) (fun _ k _ => ps.length - (intOf k).toNat)
  case atStart => exact ⟨0, by omega, rfl, by simpa using HO, HB⟩
  case round =>
    clear HO HB
    obtain ⟨k, hk, rfl, HO, HB⟩ := hrel
    by_cases hkn : k < ps.length
    · obtain ⟨b, o, rfl, hc⟩ := HP.out.lie (by omega)
      have x0 := cell_keep (hc k hkn) HB.out
      have k0 : (0 : Int) ≤ (k : Int) := by omega
      have k1 : (k : Int) < (ps.length : Int) := by omega
      have w9 : IntKind.i64.wrap ((k : Int) + 1) = (k : Int) + 1 := IntWalk.i64_in _ (by have := HPL.out; omega)
      have hsum := sum_next ps k hkn
      have hle := take_sum ps (k + 1)
      have hS := HS.out
      have hX := HX.out
      have hpl := parts_len (ps.take k)
      unfold frl at hS
      have E1 : Hid ((X ++ (ps.take k).flatMap pt8).length + (8 + (ps.getD k []).length) ≤ 2 ^ 40) := hidden (by
        have : X.length = 16 + l.length := by rw [hX]; simp only [List.length_append, le8_len]; omega
        rw [List.length_append, this, hpl]; omega)
      have E2 : Hid (X ++ (ps.take (k + 1)).flatMap pt8 = X ++ (ps.take k).flatMap pt8 ++ le8 (ps.getD k []).length ++ ps.getD k []) := hidden (by rw [parts_next ps k hkn]; simp [List.append_assoc])
      have EY := hidden (HP.out.each k hkn)
      generalize ps.getD k [] = p at x0 E1 E2 EY
      generalize X ++ (ps.take k).flatMap pt8 = Y at HO E1 E2
      clear hc hsum hle hS hX hpl
      go_wp2_with (first | (go_at_call 13; refine (appLen_any _ _ _ w.heap.size _ HB.out.size HO.out (by have := E1.out; omega) (by have := E1.out; omega)).mono ?_; rintro e wa ⟨va, rfl, ha, hb⟩; replace HO := hidden ha; replace HB := hidden (below_trans HB.out hb); clear ha hb) | (at_builtin; refine wpList_app_by rfl _ _ rfl w.heap.size _ (Y ++ le8 p.length) p _ _ rfl rfl HO.out (EY.out.keep HB.out) (by have := E1.out; simp only [List.length_append, le8_len]; omega) HB.out.size ?_; intro v3 w3 ho3 hg3; have HB3 := hidden (below_trans HB.out (below_grown hg3 HB.out.size (fun j hj => (HO.out.lt j hj).1))); replace HO := hidden ho3; clear ho3 hg3))
      go_roundw
      case rel => exact ⟨k + 1, by omega, by go_num, by rw [E2.out]; exact HO, HB3⟩
      case measure => simp [intOf]; omega
    · obtain rfl : k = ps.length := by omega
      have lq : ¬ (ps.length : Int) < (ps.length : Int) := by omega
      rw [List.take_length] at HO
      have HE : Hid (X ++ ps.flatMap pt8 = fr l ps) := hidden (by rw [HX.out]; rfl)
      generalize X ++ ps.flatMap pt8 = Y at HO HE
      go_wp2_with fail
      refine bodyPost_ret (v := u5) (by simp [results, Try.results5, go_sem]) rfl ⟨_, rfl, by rw [← HE.out]; exact HO.out, HB.out⟩
end Go.Proofs.Ytagfneojcgcigaa
