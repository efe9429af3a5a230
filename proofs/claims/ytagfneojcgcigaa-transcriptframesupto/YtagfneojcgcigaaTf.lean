import Derived.Test.YtagfneojcgcigaaTb
namespace Go.Proofs.Ytagfneojcgcigaa
open Go.RowKit
theorem byte_at8 (n k : Nat) : (n : Int) / 2 ^ (8 * k) % 256 = ((UInt8.ofNat (n / 2 ^ (8 * k))).toNat : Int) := by
  rw [UInt8.toNat_ofNat', Int.natCast_emod, Int.natCast_ediv, Int.natCast_pow]
  rfl
theorem by_new (w : World) (y : UInt8) : By (w.alloc (.cells (cb [y]).toArray 5)) (some ⟨w.heap.size, 0, none⟩) 1 [y] :=
  ⟨fun h => (by cases h), fun a ha => by obtain rfl := Option.some.inj ha; exact cells_new w (cb [y]) _⟩
set_option maxRecDepth 100000 in
set_option maxHeartbeats 8000000 in
theorem appLen_any (v : Value) (xs : List UInt8) (n base : Nat) (w : World) (hb : base ≤ w.heap.size) (ho : w.ownsRow base 5 1 v xs.length (cb xs)) (hx : xs.length ≤ 2 ^ 40) (hn : n ≤ 2 ^ 40) :
    Calls Try.prog 13 #[v, .int .i64 (n : Int)] w fun e w' => ∃ v', e = .returned v' ∧ w'.ownsRow base 5 1 v' (xs ++ le8 n).length (cb (xs ++ le8 n)) ∧ Below base w w' := by
  have HO := hidden ho
  have HB := hidden hb
  have HX := hidden hx
  have HN := hidden hn
  clear ho hb hx hn
  go_enter Try.func13, Try.ntmps13
  go_wp2_with fail
  go_loopw [0, 6] (fun vv kv w' => ∃ k : Nat, k ≤ 8 ∧ kv = .int .i64 (k : Int) ∧ Hid (w'.ownsRow base 5 1 vv (xs ++ (le8 n).take k).length (cb (xs ++ (le8 n).take k))) ∧ Hid (Below base w w')) (fun _ k _ => 8 - (intOf k).toNat)
  case atStart => exact ⟨0, by omega, rfl, hidden (by simpa using HO.out), hidden (Below.refl _ _)⟩
  case round =>
    obtain ⟨k, hk, rfl, hR, hB⟩ := hrel
    by_cases hkn : k < 8
    · have k1 : (k : Int) < 8 := by omega
      have w8 : IntKind.i64.wrap (8 * (k : Int)) = 8 * (k : Int) := IntWalk.i64_in _ (by omega)
      have w9 : IntKind.i64.wrap ((k : Int) + 1) = (k : Int) + 1 := IntWalk.i64_in _ (by omega)
      have hu := byte_at8 n k
      have HT := hidden (le8_take n k hkn)
      have HT2 : Hid (((le8 n).take k).length ≤ 8) := hidden (by rw [List.length_take, le8_len]; omega)
      generalize UInt8.ofNat (n / 2 ^ (8 * k)) = y at hu HT
      clear hkn
      go_wp2_with (first | (at_builtin; refine wpList_app_by rfl _ _ rfl base _ (xs ++ (le8 n).take k) [y] (some ⟨wr.heap.size, 0, none⟩) 1 rfl rfl (hR.out.alloc _) (by_new wr y) (by have := HX.out; have := HT2.out; simp only [List.length_append, List.length_cons, List.length_nil]; omega) (by have := HB.out; have := hB.out.size; simp; omega) ?_; intro v1 w1 ho1 hg1; have HO1 := hidden ho1; have HB1 := hidden (below_trans (below_trans hB.out ((bl_alloc wr (.cells (cb [y]).toArray 5)).mono (by have := HB.out; have := hB.out.size; omega))) (below_grown hg1 (by have := HB.out; have := hB.out.size; simp; omega) (fun j hj => (hR.out.lt j hj).1))); clear ho1 hg1))
      go_roundw
      case rel => exact ⟨k + 1, by omega, by go_num, by rw [HT.out, ← List.append_assoc]; exact HO1, HB1⟩
      case measure => simp [intOf]; omega
    · obtain rfl : k = 8 := by omega
      rw [le8_all] at hR
      go_wp2_with fail
      refine bodyPost_ret (v := _) (by simp [results, Try.results13, go_sem]) rfl ⟨_, rfl, hR.out, hB.out⟩
end Go.Proofs.Ytagfneojcgcigaa
