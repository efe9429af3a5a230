import Derived.Test.YtfkigebbcbfkiaaWf
namespace Go.Proofs.Ytfkigebbcbfkiaa
open Go.RowKit
theorem ixd (n : Nat) (hn : n < 16) (k : Nat) (hk : k = n) (h : k < ({ data := #[48, 49, 50, 51, 52, 53, 54, 55, 56, 57, 97, 98, 99, 100, 101, 102] } : ByteArray).size) : ({ data := #[48, 49, 50, 51, 52, 53, 54, 55, 56, 57, 97, 98, 99, 100, 101, 102] } : ByteArray)[k]'h = hd n := by
  subst hk
  have key : ∀ m : Fin 16, (({ data := #[48, 49, 50, 51, 52, 53, 54, 55, 56, 57, 97, 98, 99, 100, 101, 102] } : ByteArray)[m.val]'m.isLt) = hd m.val := by decide
  exact key ⟨k, hn⟩
theorem and15 (y : UInt8) : bits .and .u8 (y.toNat : Int) 15 = (y.toNat : Int) % 16 := by
  have : ∀ n : Fin 256, bits .and .u8 (n.val : Int) 15 = (n.val : Int) % 16 := by decide +kernel
  exact this ⟨y.toNat, y.toNat_lt⟩
set_option maxRecDepth 100000 in
set_option maxHeartbeats 8000000 in
theorem hex_any (P : Option Addr) (c : Nat) (bs : List UInt8) (w : World) (hB : By w P c bs) (hl : bs.length ≤ 140737488351232) :
    Calls Try.prog 15 #[.slice P bs.length c] w fun e w' => e = .returned (.string (sb (hx bs))) ∧ Below w.heap.size w w' := by
  have HL := hidden hl
  have HP := hidden hB
  have w0 : IntKind.i64.wrap (2 * (bs.length : Int)) = 2 * (bs.length : Int) := IntWalk.i64_in _ (by omega)
  have hmk : (Instr.makeSlice 22 (.int .i64 0) (.int .i64 (2 * (bs.length : Int)))).run Try.prog w = .ok (.slice (some ⟨w.heap.size, 0, none⟩) 0 (2 * bs.length)) (w.alloc (.cells (madeCells #[.int .u8 0] (2 * bs.length)) 5)) := by
    have h := run_make (P := Try.prog) w 22 5 (Try.prog.info? 5).get! (.int .u8 0) (by kernel_rfl) (by kernel_rfl) (by kernel_rfl) .i64 .i64 0 (2 * (bs.length : Int)) (by omega) (by omega) (by rw [show (Try.prog.info? 5).get!.bytes = 1 by kernel_rfl]; omega) (by omega)
    rw [show (Try.prog.info? 5).get!.size = 1 by kernel_rfl, show (2 * (bs.length : Int)).toNat = 2 * bs.length by omega, Nat.mul_one] at h
    exact h
  have HO := hidden (World.ownsRow_made (base := w.heap.size) (e := 5) (size := 1) w (madeCells #[.int .u8 0] (2 * bs.length)) (2 * bs.length) (Nat.le_refl _) (by unfold maxLen; omega) (by simp [madeCells]))
  have HB := hidden (bl_alloc w (.cells (madeCells #[.int .u8 0] (2 * bs.length)) 5))
  generalize madeCells #[.int .u8 0] (2 * bs.length) = Z at hmk HO HB
  clear hl hB
  go_enter Try.func15, Try.ntmps15
  go_upto_region 3 with fail
  generalize hW : w.alloc (.cells Z 5) = wz at HO HB
  clear hmk hW
  go_loopw [3, 12] (fun vv kv w' => ∃ k : Nat, k ≤ bs.length ∧ kv = .int .i64 (k : Int) ∧ vv = .slice (some ⟨w.heap.size, 0, none⟩) (2 * k) (2 * bs.length) ∧ Hid (w'.ownsRow w.heap.size 5 1 (.slice (some ⟨w.heap.size, 0, none⟩) (2 * k) (2 * bs.length)) (2 * k) (cb (hx (bs.take k)))) ∧ Hid (Below w.heap.size w w')) (fun _ k _ => bs.length - (intOf k).toNat)
  case atStart => exact ⟨0, by omega, rfl, rfl, HO, HB⟩
  case round =>
    clear HO HB
    obtain ⟨k, hk, rfl, rfl, HO, HB⟩ := hrel
    by_cases hkn : k < bs.length
    · obtain ⟨b, o, rfl⟩ := HP.out.none' (by omega)
      have x0 := (HP.out.keep HB.out).at k hkn
      have k0 : (0 : Int) ≤ (k : Int) := by omega
      have k1 : (k : Int) < (bs.length : Int) := by omega
      have HX := hidden (hx_next bs k hkn)
      generalize bs.getD k 0 = y at x0 HX
      have y0 := y.toNat_lt
      have i0 := ixd (y.toNat / 16) (by omega) ((y.toNat : Int) / 16).toNat (by omega)
      have i1 := ixd (y.toNat % 16) (by omega) ((y.toNat : Int) % 16).toNat (by omega)
      have j0 : (0 : Int) ≤ (y.toNat : Int) / 16 ∧ (y.toNat : Int) / 16 < 16 := by omega
      have j1 : (0 : Int) ≤ (y.toNat : Int) % 16 ∧ (y.toNat : Int) % 16 < 16 := by omega
      have e0 := and15 y
      generalize hd (y.toNat / 16) = p at i0 HX
      generalize hd (y.toNat % 16) = q at i1 HX
      go_upto_region 5 with fail
      have HO' := hidden (fun o => (own_stay HO.out (bl_alloc wr o)).drew)
      have HY' := hidden ((by_list wr [p, q] 2).keep (drew_blW _))
      have R0 : 2 * k + [p, q].length ≤ 2 * bs.length := by simp only [List.length_cons, List.length_nil]; omega
      have R1 := hidden R0
      clear R0
      go_region_law (first | (refine step_app_fits rfl (.tmp 16) (.tmp 23) rfl w.heap.size w.heap.size (2 * k) (2 * bs.length) (hx (bs.take k)) [p, q] ⟨wr.heap.size, 0, none⟩ 2 rfl rfl (HO'.out _) HY'.out R1.out ?_; intro w3 ho hg; have NO := hidden ho; have NB := hidden (below_set (bl_trans (bl_trans HB.out (bl_alloc wr _)) (drew_blW _)) hg (Nat.le_refl _) (Nat.le_refl _)); clear ho hg))
      all_goals
        rw [← HX.out] at NO
        clear x0 i0 i1 j0 j1 e0
        have w9 : IntKind.i64.wrap ((k : Int) + 1) = (k : Int) + 1 := IntWalk.i64_in _ (by have := HL.out; omega)
        go_wp2_with fail
        go_roundw
        case rel => exact ⟨k + 1, by omega, by go_num, by simp [Nat.mul_add], by have h := NO.out; simp only [List.length_cons, List.length_nil] at h; exact hidden h, NB⟩
        case measure => simp [intOf]; omega
    · obtain rfl : k = bs.length := by omega
      have lq : ¬ (bs.length : Int) < (bs.length : Int) := by omega
      rw [List.take_length] at HO
      have h2 := HO.out
      rw [← hx_len bs] at h2
      have CV := own_conv h2
      rw [hx_len bs] at CV
      clear h2
      go_wp2_with fail
      refine bodyPost_ret (v := .string (sb (hx bs))) (by simp [results, Try.results15, go_sem]) rfl ⟨rfl, HB.out⟩
end Go.Proofs.Ytfkigebbcbfkiaa
