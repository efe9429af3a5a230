import Derived.Test.YtlijigolfggcfaaDoorHg
import Derived.Lib.AppendZeros
namespace Go.Proofs.YtlijigolfggcfaaDoor
open Go.RowKit
set_option linter.unusedVariables false
set_option maxRecDepth 100000 in
set_option maxHeartbeats 4000000 in
theorem lgrow_any (n : Nat) (w : World) (h0 : 0 < n) (h100 : n ≤ 4194304) :
    Calls Tryd.prog 22 #[.slice none 0 0, .int .i64 n] w fun e w' => ∃ (v : Value), e = .returned v ∧ w'.ownsRow w.heap.size 29 4 v 0 [] ∧ Below w.heap.size w w' := by
  obtain ⟨i0, hi, hz0, hz1, hz2⟩ := info_parts linfoG
  have hge := grownCap_ge w n 0 29
  have hle := grownCap_le_maxLen w n 0 29 (by unfold maxLen; omega)
  have hr := Lib.run_append_nil_zeros w 30 3 30 29 i0 (.agg #[.int .u64 0, .int .u64 0, .int .u64 0, .int .u64 0]) .i64 .i64 (by kernel_rfl) (by kernel_rfl) hi hz0 n h0 (by rw [hz1]; decide) (by omega) (by rw [hz2]; omega)
  obtain ⟨G, hG⟩ : ∃ G, G = grownCap w n 0 29 := ⟨_, rfl⟩
  rw [← hG] at hge hle hr
  obtain ⟨Z, hZ⟩ : ∃ Z, Z = Builtin.zeroCells (Value.agg #[Value.int IntKind.u64 0, Value.int IntKind.u64 0, Value.int IntKind.u64 0, Value.int IntKind.u64 0]).cells n ++ Builtin.zeroCells (Value.agg #[Value.int IntKind.u64 0, Value.int IntKind.u64 0, Value.int IntKind.u64 0, Value.int IntKind.u64 0]).cells (G - n) := ⟨_, rfl⟩
  rw [← hZ] at hr
  have hZs : Z.size = G * 4 := by rw [hZ]; simp [size_zeroCells, Value.cells]; omega
  have OW := hidden (World.ownsRow_made (base := w.heap.size) (e := 29) (size := 4) w.drew Z G (Nat.le_refl _) hle hZs)
  have BB := hidden (bl_trans (drew_blW w) (bl_alloc w.drew (.cells Z 29)))
  have HR := hidden hr
  have w1 : IntKind.i64.wrap ((n : Int) - 0) = (n : Int) := by rw [IntWalk.i64_in _ (by omega)]; omega
  have w2 : IntKind.i64.wrap (n : Int) = (n : Int) := IntWalk.i64_in _ (by omega)
  have n0 : ¬ ((n : Int) < 0) := by omega
  have n1 : (0 : Int) < (n : Int) := by omega
  have n2 : (n : Int) > 0 := by omega
  have g0 : (0 : Int) ≤ (G : Int) := by omega
  clear hi hz0 hz1 hz2 hr hZ hZs hG
  go_enter Tryd.func22, Tryd.ntmps22
  go_wp2_with (first | (at_builtin; refine Lib.wpList_append_run _ rfl _ _ _ _ rfl _ _ rfl rfl _ _ HR.out ?_))
  refine bodyPost_ret (v := .slice (some ⟨w.heap.size, 0, none⟩) 0 G) (by simp [results, Tryd.results22, go_sem]) rfl ⟨_, rfl, OW.out, BB.out⟩

theorem rl_add {b m : Nat} {f : Nat → E4} {x y : World} (hr : Rl x b 0 m f) (hb : Below x.heap.size x y) : ∀ j u, (svs m f)[j]? = some u → y.cell? ((⟨b, 0, none⟩ : Addr).add j) = some u := fun j u hu => by
  rw [Addr.add_mid]
  exact rl_cells (hr.keep hb) _ (Nat.le_refl _) j u hu
set_option maxRecDepth 100000 in
set_option maxHeartbeats 8000000 in
theorem lconcat_any (X cX p g h cp cg ch LG LH : Nat) (f0 fG fH : Nat → E4) (w : World) (hG : LG ≤ 1048576) (hH : LH ≤ 1048576) (hX0 : w.cell? ⟨X, 0, none⟩ = some (.slice (some ⟨p, 0, none⟩) 3 cp)) (hX1 : w.cell? ⟨X, 1, none⟩ = some (.slice (some ⟨g, 0, none⟩) LG cg)) (hX2 : w.cell? ⟨X, 2, none⟩ = some (.slice (some ⟨h, 0, none⟩) LH ch))
    (r0 : Rl w p 0 3 f0) (r1 : Rl w g 0 LG fG) (r2 : Rl w h 0 LH fH) :
    Calls Tryd.prog 16 #[.slice (some ⟨X, 0, none⟩) 3 cX] w fun e w' => ∃ v : Value, e = .returned v ∧ w'.ownsRow w.heap.size 29 4 v (3 + LG + LH) (svs 3 f0 ++ svs LG fG ++ svs LH fH) ∧ Below w.heap.size w w' := by
  have R0 := hidden r0
  have R1 := hidden r1
  have R2 := hidden r2
  have GW := hidden (lgrow_any (3 + LG + LH) w (by omega) (by omega))
  have w0 : IntKind.i64.wrap ((0 : Int) + 3) = 3 := by decide
  have w1 : IntKind.i64.wrap ((3 : Int) + (LG : Int)) = 3 + (LG : Int) := IntWalk.i64_in _ (by omega)
  have w2 : IntKind.i64.wrap ((3 : Int) + (LG : Int) + (LH : Int)) = 3 + (LG : Int) + (LH : Int) := IntWalk.i64_in _ (by omega)
  have n1 : ¬ ((3 : Int) + (LG : Int) < 0) := by omega
  have n2 : ¬ ((3 : Int) + (LG : Int) + (LH : Int) < 0) := by omega
  have cst : ((3 + LG + LH : Nat) : Int) = 3 + (LG : Int) + (LH : Int) := by omega
  rw [cst] at GW
  obtain ⟨i0, hi, hz0, hz1, hz2⟩ := info_parts linfoG
  have HI := hidden hi
  have HZ0 := hidden hz0
  have HZ1 := hidden hz1
  have HZ2 := hidden hz2
  have HU : Hid (Tryd.prog.underlying 30 = some (.slice 29)) := hidden (by kernel_rfl)
  have XX0 := hidden hX0
  have XX1 := hidden hX1
  have XX2 := hidden hX2
  have M0 : Hid (0 + 3 ≤ maxLen) := hidden (by unfold maxLen; omega)
  have M1 : Hid (3 + LG ≤ maxLen) := hidden (by unfold maxLen; omega)
  have M2 : Hid (3 + LG + LH ≤ maxLen) := hidden (by unfold maxLen; omega)
  have P0 : Hid ((0 + 3) * 32 ≤ 140737488355328) := hidden (by omega)
  have P1 : Hid ((3 + LG) * 32 ≤ 140737488355328) := hidden (by omega)
  have P2 : Hid ((3 + LG + LH) * 32 ≤ 140737488355328) := hidden (by omega)
  clear hi hz0 hz1 hz2 hG hH r0 r1 r2 cst
  go_enter Tryd.func16, Tryd.ntmps16
  go_wp2_with fail
  go_loopw [3, 11] (fun zv kv w' => w' = w ∧ ((kv = .int .i64 0 ∧ zv = .int .i64 0) ∨ (kv = .int .i64 1 ∧ zv = .int .i64 3) ∨ (kv = .int .i64 2 ∧ zv = .int .i64 (3 + (LG : Int))) ∨ (kv = .int .i64 3 ∧ zv = .int .i64 (3 + (LG : Int) + (LH : Int))))) (fun _ k _ => 3 - (intOf k).toNat)
  case atStart => exact ⟨rfl, .inl ⟨rfl, rfl⟩⟩
  case round =>
    obtain ⟨rfl, ⟨rfl, rfl⟩ | ⟨rfl, rfl⟩ | ⟨rfl, rfl⟩ | ⟨rfl, rfl⟩⟩ := hrel
    · go_wp2_with fail
      go_roundw
      case rel => exact ⟨trivial, .inr (.inl ⟨by go_num, rfl⟩)⟩
      case measure => simp [intOf]
    · go_wp2_with fail
      go_roundw
      case rel => exact ⟨trivial, .inr (.inr (.inl ⟨by go_num, rfl⟩))⟩
      case measure => simp [intOf]
    · go_wp2_with fail
      go_roundw
      case rel => exact ⟨trivial, .inr (.inr (.inr ⟨by go_num, rfl⟩))⟩
      case measure => simp [intOf]
    · clear hX0 hX1 hX2
      go_wp2_with (first | (go_at_call 22; refine (GW.out).mono ?_; rintro e wa ⟨v0, rfl, ho, hb⟩; have HO := hidden ho; have HB := hidden hb; clear ho hb))
      go_loopw [6, 27] (fun vv kv w' => Hid (Below wr.heap.size wr w') ∧ ((kv = .int .i64 0 ∧ Hid (w'.ownsRow wr.heap.size 29 4 vv 0 [])) ∨ (kv = .int .i64 1 ∧ Hid (w'.ownsRow wr.heap.size 29 4 vv (0 + 3) ([] ++ svs 3 f0))) ∨ (kv = .int .i64 2 ∧ Hid (w'.ownsRow wr.heap.size 29 4 vv (3 + LG) (svs 3 f0 ++ svs LG fG))) ∨ (kv = .int .i64 3 ∧ Hid (w'.ownsRow wr.heap.size 29 4 vv (3 + LG + LH) (svs 3 f0 ++ svs LG fG ++ svs LH fH))))) (fun _ k _ => 3 - (intOf k).toNat)
      case atStart => exact ⟨HB, .inl ⟨rfl, HO⟩⟩
      case round =>
        clear HO HB
        obtain ⟨hB, ⟨rfl, hO⟩ | ⟨rfl, hO⟩ | ⟨rfl, hO⟩ | ⟨rfl, hO⟩⟩ := hrel
        · have c1 := cell_keep XX0.out hB.out
          have a2 := hidden (rl_add R0.out hB.out)
          have hsz := hB.out.size
          go_wp2_with (first | (at_builtin; refine wpList_append_own_at _ rfl _ _ 30 rfl _ 29 i0 (.agg #[.int .u64 0, .int .u64 0, .int .u64 0, .int .u64 0]) 4 32 HU.out HI.out HZ0.out HZ1.out HZ2.out rfl (by decide) _ _ _ rfl hO.out ⟨p, 0, none⟩ 3 cp (svs 3 f0) rfl (svs_len _ _) a2.out (svs_one f0 3) M0.out P0.out hsz ?_; intro v' w3 hown hgr hnil hat; have HO := hidden hown; have HB := hidden (below_trans hB.out (below_grown hgr hsz (fun k hk => (hO.out.lt k hk).1))); clear hown hgr hnil hat))
          go_roundw
          case rel => exact ⟨HB, .inr (.inl ⟨by go_num, HO⟩)⟩
          case measure => simp [intOf]
        · have c1 := cell_keep XX1.out hB.out
          have a2 := hidden (rl_add R1.out hB.out)
          have hsz := hB.out.size
          rw [Nat.zero_add, List.nil_append] at hO
          go_wp2_with (first | (at_builtin; refine wpList_append_own_at _ rfl _ _ 30 rfl _ 29 i0 (.agg #[.int .u64 0, .int .u64 0, .int .u64 0, .int .u64 0]) 4 32 HU.out HI.out HZ0.out HZ1.out HZ2.out rfl (by decide) _ _ _ rfl hO.out ⟨g, 0, none⟩ LG cg (svs LG fG) rfl (svs_len _ _) a2.out (svs_one fG LG) M1.out P1.out hsz ?_; intro v' w3 hown hgr hnil hat; have HO := hidden hown; have HB := hidden (below_trans hB.out (below_grown hgr hsz (fun k hk => (hO.out.lt k hk).1))); clear hown hgr hnil hat))
          go_roundw
          case rel => exact ⟨HB, .inr (.inr (.inl ⟨by go_num, HO⟩))⟩
          case measure => simp [intOf]
        · have c1 := cell_keep XX2.out hB.out
          have a2 := hidden (rl_add R2.out hB.out)
          have hsz := hB.out.size
          go_wp2_with (first | (at_builtin; refine wpList_append_own_at _ rfl _ _ 30 rfl _ 29 i0 (.agg #[.int .u64 0, .int .u64 0, .int .u64 0, .int .u64 0]) 4 32 HU.out HI.out HZ0.out HZ1.out HZ2.out rfl (by decide) _ _ _ rfl hO.out ⟨h, 0, none⟩ LH ch (svs LH fH) rfl (svs_len _ _) a2.out (svs_one fH LH) M2.out P2.out hsz ?_; intro v' w3 hown hgr hnil hat; have HO := hidden hown; have HB := hidden (below_trans hB.out (below_grown hgr hsz (fun k hk => (hO.out.lt k hk).1))); clear hown hgr hnil hat))
          go_roundw
          case rel => exact ⟨HB, .inr (.inr (.inr ⟨by go_num, HO⟩))⟩
          case measure => simp [intOf]
        · go_wp2_with fail
          refine bodyPost_ret (v := u6) (by simp [results, Tryd.results16, go_sem]) rfl ⟨u6, rfl, hO.out, hB.out⟩
end Go.Proofs.YtlijigolfggcfaaDoor
