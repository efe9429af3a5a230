import Derived.Test.YtcecpfcekejblaaBkh
namespace Go.Proofs.Ytcecpfcekejblaa
namespace Xo
open Go.RowKit
set_option linter.unusedVariables false
def emark (i : Nat) : List Value := [.int .u8 (101 + (i : Int))]
theorem info8 : (Try.prog.info? 5) = some (Try.prog.info? 5).get! := by kernel_rfl
theorem cells_newP (w : World) (cs : List Value) (t : TypeId) : ∀ j u, cs[j]? = some u → (w.alloc (.cells cs.toArray t)).cell? ((⟨w.heap.size, 0, none⟩ : Addr).add j) = some u := cells_new w cs t
set_option maxRecDepth 100000 in
set_option maxHeartbeats 16000000 in
theorem apart_any (w0 w : World) (B c cB : Nat) (n : Nat → Nat) (p : Nat → Option Addr) (d : Nat → Nat) (x : Nat → List Value) (hA : Aq w0 B c n p d) (hW : Ar 24 w 5 1 w0 B c n p d x w) (hBw : B < w.heap.size) :
    Calls Try.prog 8 #[.slice (some ⟨B, 0, none⟩) c cB] w fun e w' => e = .returned (.bool true) ∧ Below w0.heap.size w0 w' := by
  obtain ⟨e, he⟩ : ∃ e, e = emark := ⟨_, rfl⟩
  have EE : Hid (∀ i : Nat, e i = [.int .u8 (101 + (i : Int))]) := hidden (fun i => by rw [he]; rfl)
  have EL : Hid (∀ i, (e i).length = 1) := hidden (fun i => by rw [he]; rfl)
  clear he
  have A3 := hidden hA
  have XL : Hid (∀ j, j < c → (x j).length = n j * 1) := hidden (fun j hj => (hW.rows j hj).1)
  have W0 := hidden (hW.congr (y := gx 1 n e x 0 0) (fun i _ => (gx_zero x i).symm))
  have BL := hidden hBw
  have cc0 : (0 : Int) ≤ (c : Int) := by omega
  have cc1 : (c : Int) < 100 := by have := hA.c0; omega
  have HI := hidden info8
  have HZ0 : Hid ((Try.prog.info? 5).get!.zero = some (.int .u8 0)) := hidden (by kernel_rfl)
  have HZ1 : Hid ((Try.prog.info? 5).get!.size = 1) := hidden (by kernel_rfl)
  have HZ2 : Hid ((Try.prog.info? 5).get!.bytes = 1) := hidden (by kernel_rfl)
  have T1 : Hid (Try.prog.underlying 24 = some (.slice 5)) := hidden (by kernel_rfl)
  have NU : Hid (5 ≠ 24) := hidden (by decide)
  clear hA hW hBw
  go_enter Try.func8, Try.ntmps8
  go_wp2_with fail
  go_loopw [3] (fun iv w' => ∃ i : Nat, i ≤ c ∧ iv = .int .i64 i ∧ Hid (Ar 24 w 5 1 w0 B c n p d (gx 1 n e x i 0) w') ∧ Hid (B < w'.heap.size)) (fun i _ => c - (intOf i).toNat)
  case atStart => exact ⟨0, by omega, rfl, W0, BL⟩
  case round =>
    obtain ⟨i, hi, rfl, hw, hbl⟩ := hrel
    clear W0 BL
    by_cases hi3 : i < c
    · have ii0 : (0 : Int) ≤ (i : Int) := by omega
      have ii1 : (i : Int) < (c : Int) := by omega
      have hc9 := A3.out.c0
      have hn9 := A3.out.n0 i hi3
      have wi1 : IntKind.i64.wrap ((i : Int) + 1) = (i : Int) + 1 := IntWalk.i64_in _ (by omega)
      have wi4 : IntKind.i64.wrap (101 + (i : Int)) = 101 + (i : Int) := IntWalk.i64_in _ (by omega)
      have wi5 : IntKind.u8.wrap (101 + (i : Int)) = 101 + (i : Int) := by rw [IntKind.wrap_u8]; omega
      go_wp2_with fail
      go_loopw [4] (fun kv w' => ∃ k : Nat, k ≤ n i ∧ kv = .int .i64 k ∧ Hid (Ar 24 w 5 1 w0 B c n p d (gx 1 n e x i k) w') ∧ Hid (B < w'.heap.size)) (fun k _ => n i - (intOf k).toNat)
      case atStart => exact ⟨0, by omega, rfl, hw, hbl⟩
      case round =>
        clear hw hbl
        obtain ⟨k, hk, rfl, hw, hbl⟩ := hrel
        have cB := hw.out.cB i hi3
        by_cases hkn : k < n i
        · have kk0 : (0 : Int) ≤ (k : Int) := by omega
          have kk1 : (k : Int) < (n i : Int) := by omega
          obtain ⟨bi, hbi⟩ := hw.out.blk hi3 (by omega)
          have hr0 := hw.out.rows i hi3
          rw [hbi] at hr0 cB
          have gl : ∀ j, j < n i * 1 → ∃ u, wr.cell? ⟨bi, j, none⟩ = some u := fun j hj => by
            have hc := hr0.cells (g := bi) rfl j
            have hlen := hr0.1
            have := hc _ (List.getElem?_eq_getElem (by rw [hlen]; exact hj))
            rw [Addr.add_mid, Nat.zero_add] at this
            exact ⟨_, this⟩
          obtain ⟨y0, a0⟩ := gl (k) (by omega)
          have f0 := hr0.frozenAt (k)
          have NX := hidden (Ar.put1 NU.out hw.out A3.out XL.out hi3 hkn hbi (EE.out i))
          have NB : Hid (B < (wr.setCell ⟨bi, k, none⟩ (.int .u8 0)).heap.size) := hidden (by simpa using hbl.out)
          simp only [World.size_setCell] at NB
          have w9 : IntKind.i64.wrap ((k : Int) + 1) = (k : Int) + 1 := IntWalk.i64_in _ (by omega)
          clear hr0 hbi gl hw hn9 hc9 hbl
          generalize d i = di at *
          go_wp2_with fail
          go_roundw
          case rel => exact ⟨k + 1, by omega, by go_num, NX, hidden (by simpa using NB.out)⟩
          case measure => simp [intOf]; omega
        · have hkk : k = n i := by omega
          have NX := hidden (hw.out.congr (fun j _ => (congrArg (fun q => gx 1 n e x i q j) hkk).trans (gx_next x i (XL.out i hi3) j)))
          have lq : ¬ (k : Int) < (n i : Int) := by omega
          clear hw hn9 hc9 hkk
          generalize p i = pi at *
          generalize d i = di at *
          generalize n i = ni at *
          go_wp2_with fail
          go_roundw
          case rel => exact ⟨i + 1, by omega, by go_num, NX, hbl⟩
          case measure => simp [intOf]; omega
    · have hii : i = c := by omega
      subst hii
      have lq : ¬ (i : Int) < (i : Int) := by omega
      have W1 := hidden (hw.out.congr (fun a ha => gx_all x i a ha))
      have B1 := hbl
      clear hw hbl
      go_wp2_with fail
      clear lq
      go_loopw [5] (fun iv w' => ∃ j : Nat, j ≤ i ∧ iv = .int .i64 j ∧ Hid (Ar 24 w 5 1 w0 B i n p d (fun a => rpt (n a) (e a)) w') ∧ Hid (B < w'.heap.size)) (fun j _ => i - (intOf j).toNat)
      case atStart => exact ⟨0, by omega, rfl, W1, B1⟩
      case round =>
        clear W1 B1
        obtain ⟨j, hj, rfl, hw, hbl⟩ := hrel
        by_cases hj3 : j < i
        · have jj0 : (0 : Int) ≤ (j : Int) := by omega
          have jj1 : (j : Int) < (i : Int) := by omega
          have cB := hw.out.cB j hj3
          have hc9 := A3.out.c0
          have N9 := hidden (A3.out.n0 j hj3)
          have wj1 : IntKind.i64.wrap ((j : Int) + 1) = (j : Int) + 1 := IntWalk.i64_in _ (by omega)
          have G0 := hidden (Gw.start (s := [.int .u8 7]) hj3 hw.out)
          have M0 := hw
          have K0 := hbl
          have J9 := hidden hj3
          clear hw hc9 hbl
          generalize wr = ws at *
          go_wp2_with fail
          clear cB
          go_loopw [6, 7] (fun v kv w' => ∃ k : Nat, k ≤ 64 ∧ kv = .int .i64 k ∧ Hid (Gw 5 w0 B i n p d e [.int .u8 7] j k v w') ∧ Hid (Ar 24 w 5 1 w0 B i n p d (fun a => rpt (n a) (e a)) w') ∧ Hid (B < w'.heap.size)) (fun _ k _ => 64 - (intOf k).toNat)
          case atStart => exact ⟨0, by omega, rfl, G0, M0, K0⟩
          case round =>
            clear G0 M0 K0
            obtain ⟨k, hk, rfl, hag, ham, hbl⟩ := hrel
            by_cases hk64 : k < 64
            · have kk0 : (0 : Int) ≤ (k : Int) := by omega
              have kk1 : (k : Int) < 64 := by omega
              have a1 := hidden (hag.out.keep (bl_alloc wr (.cells #[.int .u8 7] 5)))
              have a7 := hidden (ham.out.keep (bl_alloc wr (.cells #[.int .u8 7] 5)))
              have a8 := hidden (Nat.lt_of_lt_of_le hbl.out (bl_alloc wr (.cells #[.int .u8 7] 5)).size)
              have a2 := hidden (cells_newP wr [.int .u8 7] 5)
              have a3 : Hid (∀ u ∈ ([.int .u8 7] : List Value), u.oneCell' = true) := hidden (by simp [Value.oneCell'])
              have a4 : Hid (n j + k + 1 ≤ maxLen) := hidden (by have := N9.out; unfold maxLen; omega)
              have a5 : Hid ((n j + k + 1) * 1 ≤ 140737488355328) := hidden (by have := N9.out; omega)
              have a6 : Hid (w0.heap.size ≤ (wr.alloc (.cells #[.int .u8 7] 5)).heap.size) := hidden (by have := ham.out.bel.size; simp; omega)
              go_wp2_with (first | (at_builtin; refine wpList_tell rfl _ _ 24 rfl w0.heap.size 5 _ (.int .u8 0) 1 1 T1.out HI.out HZ0.out HZ1.out HZ2.out rfl (by decide) u6 _ _ (by rfl) a1.out.ho ⟨wr.heap.size, 0, none⟩ [.int .u8 7] rfl rfl a2.out a3.out a4.out a5.out a6.out ?_; intro v' w3 ho3 hg3 ht3; have HO := hidden ho3; have HG := hidden hg3; have HT := hidden ht3; clear ho3 hg3 ht3))
              go_roundw
              case rel =>
                obtain ⟨q1, q2⟩ := Gw.next NU.out A3.out J9.out a8.out a7.out a1.out (EL.out j) HO.out HG.out HT.out
                exact ⟨k + 1, by omega, by go_num, hidden q1, hidden q2, hidden (Nat.lt_of_lt_of_le a8.out HG.out.size)⟩
              case measure => simp [intOf]; omega
            · have hkk : k = 64 := by omega
              subst hkk
              have hlt := hag.out.ho.lt
              obtain ⟨gg, cap, rfl, hnc⟩ := own_some hag.out.ho (by omega)
              have hr0 := hag.out.ho
              have LA := hidden (Gw.last (y := .int .u8 8) NU.out A3.out J9.out ham.out hag.out (EL.out j))
              have LB : Hid (B < (wr.setCell ⟨gg, n j + 63, none⟩ (.int .u8 8)).heap.size) := hidden (by simpa using hbl.out)
              obtain ⟨y0, a0⟩ : ∃ u, wr.cell? ⟨gg, n j + 63, none⟩ = some u := by
                have hc := hr0.cells (g := gg) rfl (n j + 63)
                have hlen := hr0.1
                have := hc _ (List.getElem?_eq_getElem (by rw [hlen]; omega))
                rw [Addr.add_mid, Nat.zero_add] at this
                exact ⟨_, this⟩
              have f0 := hr0.frozenAt (n j + 63)
              have hn9 := N9.out
              obtain ⟨m, hm⟩ : ∃ m : Nat, m = n j + 64 := ⟨_, rfl⟩
              obtain ⟨m1, hm1⟩ : ∃ m1 : Nat, m1 = n j + 63 := ⟨_, rfl⟩
              rw [← hm]
              rw [← hm1] at LA LB a0 f0
              have w6 : IntKind.i64.wrap ((m : Int) - 1) = (m1 : Int) := by rw [IntWalk.i64_in _ (by omega)]; omega
              have m0 : (0 : Int) ≤ (m1 : Int) := by omega
              have m2 : (m1 : Int) < (m : Int) := by omega
              clear hag ham hnc hr0 hlt hn9 hm hm1 hbl
              go_wp2_with fail
              go_roundw
              case rel => exact ⟨j + 1, by omega, by go_num, LA, hidden (by simpa using LB.out)⟩
              case measure => simp [intOf]; omega
        · have hjj : j = i := by omega
          subst hjj
          have lq : ¬ (j : Int) < (j : Int) := by omega
          have M0 := hw
          clear hw
          go_wp2_with fail
          clear lq
          go_loopw [8] (fun iv w' => ∃ i : Nat, i ≤ j ∧ iv = .int .i64 i ∧ Hid (Ar 24 w 5 1 w0 B j n p d (fun a => rpt (n a) (e a)) w')) (fun i _ => j - (intOf i).toNat)
          case atStart => exact ⟨0, by omega, rfl, M0⟩
          case round =>
            clear M0
            obtain ⟨i, hi, rfl, hw⟩ := hrel
            by_cases hi3 : i < j
            · have ii0 : (0 : Int) ≤ (i : Int) := by omega
              have ii1 : (i : Int) < (j : Int) := by omega
              have hc9 := A3.out.c0
              have N9 := hidden (A3.out.n0 i hi3)
              have wi1 : IntKind.i64.wrap ((i : Int) + 1) = (i : Int) + 1 := IntWalk.i64_in _ (by omega)
              have wi4 : IntKind.i64.wrap (101 + (i : Int)) = 101 + (i : Int) := IntWalk.i64_in _ (by omega)
              have wi5 : IntKind.u8.wrap (101 + (i : Int)) = 101 + (i : Int) := by rw [IntKind.wrap_u8]; omega
              have I9 := hidden hi3
              clear hc9
              go_wp2_with fail
              go_loopw [9] (fun kv w' => ∃ k : Nat, k ≤ n i ∧ kv = .int .i64 k ∧ Hid (Ar 24 w 5 1 w0 B j n p d (fun a => rpt (n a) (e a)) w')) (fun k _ => n i - (intOf k).toNat)
              case atStart => exact ⟨0, by omega, rfl, hw⟩
              case round =>
                clear hw
                obtain ⟨k, hk, rfl, hw⟩ := hrel
                have cB := hw.out.cB i I9.out
                by_cases hkn : k < n i
                · have kk0 : (0 : Int) ≤ (k : Int) := by omega
                  have kk1 : (k : Int) < (n i : Int) := by omega
                  obtain ⟨bi, hbi⟩ := hw.out.blk I9.out (by omega)
                  have hr0 := hw.out.rows i I9.out
                  rw [hbi] at hr0 cB
                  have a0 : wr.cell? ⟨bi, k, none⟩ = some (.int .u8 (101 + (i : Int))) := by
                    have hg : (rpt (n i) (e i))[k]? = some (.int .u8 (101 + (i : Int))) := by
                      have h1 := rpt_get (n i) (e i) k 0 hkn (by rw [EL.out]; omega)
                      rw [EL.out, Nat.mul_one, Nat.add_zero] at h1
                      rw [h1, EE.out i]
                      rfl
                    have hc := hr0.cells (g := bi) rfl k _ hg
                    rw [Addr.add_mid, Nat.zero_add] at hc
                    exact hc
                  have w9 : IntKind.i64.wrap ((k : Int) + 1) = (k : Int) + 1 := IntWalk.i64_in _ (by have := N9.out; omega)
                  clear hr0 hbi
                  generalize d i = di at *
                  go_wp2_with fail
                  go_roundw
                  case rel => exact ⟨k + 1, by omega, by go_num, hw⟩
                  case measure => simp [intOf]; omega
                · have lq : ¬ (k : Int) < (n i : Int) := by omega
                  generalize p i = pi at *
                  generalize d i = di at *
                  generalize n i = ni at *
                  go_wp2_with fail
                  go_roundw
                  case rel => exact ⟨i + 1, by omega, by go_num, hw⟩
                  case measure => simp [intOf]; omega
            · obtain rfl : i = j := by omega
              have lq : ¬ (i : Int) < (i : Int) := by omega
              have BE := hidden hw.out.bel
              clear hw
              go_wp2_with fail
              go_ret
              exact ⟨rfl, BE.out⟩
end Xo
end Go.Proofs.Ytcecpfcekejblaa
