import Derived.Test.YtfkigebbcbfkiaaWj
namespace Go.Proofs.Ytfkigebbcbfkiaa
open Go.RowKit
theorem exd (n : Nat) (hn : n < 16) : ({ data := #[48, 49, 50, 51, 52, 53, 54, 55, 56, 57, 97, 98, 99, 100, 101, 102] } : ByteArray).extract n (n + 1) = sb [hd n] := by
  have key : ∀ m : Fin 16, (({ data := #[48, 49, 50, 51, 52, 53, 54, 55, 56, 57, 97, 98, 99, 100, 101, 102] } : ByteArray).extract m.val (m.val + 1)) = sb [hd m.val] := by decide +kernel
  exact key ⟨n, hn⟩
theorem sb_app (a b : List UInt8) : sb a ++ sb b = sb (a ++ b) := by
  apply ByteArray.ext
  simp [sb, ByteArray.data_append]
set_option maxRecDepth 100000 in
set_option maxHeartbeats 8000000 in
theorem rhex_any (P : Option Addr) (c : Nat) (bs : List UInt8) (w : World) (hB : By w P c bs) (hl : bs.length ≤ 140737488351232) :
    Calls Try.prog 16 #[.slice P bs.length c] w fun e w' => e = .returned (.string (sb (hx bs))) ∧ Below w.heap.size w w' := by
  have HL := hidden hl
  have HP := hidden hB
  have HB := hidden (Below.refl w.heap.size w)
  clear hl hB
  go_enter Try.func16, Try.ntmps16
  go_upto_region 3 with fail
  go_loopw [3, 4] (fun sv kv w' => ∃ k : Nat, k ≤ bs.length ∧ kv = .int .i64 (k : Int) ∧ sv = .string (sb (hx (bs.take k))) ∧ Hid (Below w.heap.size w w')) (fun _ k _ => bs.length - (intOf k).toNat)
  case atStart => exact ⟨0, by omega, rfl, rfl, HB⟩
  case round =>
    clear HB
    obtain ⟨k, hk, rfl, rfl, HB⟩ := hrel
    by_cases hkn : k < bs.length
    · obtain ⟨b, o, rfl⟩ := HP.out.none' (by omega)
      have x0 := (HP.out.keep HB.out).at k hkn
      have k0 : (0 : Int) ≤ (k : Int) := by omega
      have k1 : (k : Int) < (bs.length : Int) := by omega
      have HX := hidden (hx_next bs k hkn)
      generalize bs.getD k 0 = y at x0 HX
      have y0 := y.toNat_lt
      have HN : Hid ((hx (bs.take k)).length ≤ 2 ^ 60) := hidden (by have := HL.out; rw [hx_len, List.length_take]; omega)
      generalize hx (bs.take k) = X at HX HN
      have z0 := sb_size X
      have w9 : IntKind.i64.wrap ((k : Int) + 1) = (k : Int) + 1 := IntWalk.i64_in _ (by have := HL.out; omega)
      have t0 := exd (y.toNat / 16) (by omega)
      have t1 := exd (y.toNat % 16) (by omega)
      generalize hd (y.toNat / 16) = p at t0 HX
      generalize hd (y.toNat % 16) = q at t1 HX
      have a0 := sb_app X [p]
      have a1 := sb_app (X ++ [p]) [q]
      have z1 : (sb [p]).size = 1 := sb_size [p]
      have z2 : (sb [q]).size = 1 := sb_size [q]
      have z3 : (sb (X ++ [p])).size = X.length + 1 := by rw [sb_size]; simp
      rw [List.append_assoc, List.cons_append, List.nil_append, ← HX.out] at a1
      have n0 : ¬ 9223372036854775807 < X.length + 1 := by have := HN.out; omega
      have n1 : ¬ 9223372036854775807 < X.length + 1 + 1 := by have := HN.out; omega
      generalize sb (X ++ [p]) = Z at a0 a1 z3
      go_upto_region 5 with fail
      go_big_region
      all_goals
        clear x0 t0 t1 a0 a1 z0 z1 z2 z3 n0 n1
        go_wp2_with fail
        go_roundw
        case rel => exact ⟨k + 1, by omega, by go_num, rfl, hidden (bl_trans HB.out (drew_blW _))⟩
        case measure => simp [intOf]; omega
    · obtain rfl : k = bs.length := by omega
      have lq : ¬ (bs.length : Int) < (bs.length : Int) := by omega
      rw [List.take_length]
      go_wp2_with fail
      refine bodyPost_ret (v := .string (sb (hx bs))) (by simp [results, Try.results16, go_sem]) rfl ⟨rfl, HB.out⟩
end Go.Proofs.Ytfkigebbcbfkiaa
