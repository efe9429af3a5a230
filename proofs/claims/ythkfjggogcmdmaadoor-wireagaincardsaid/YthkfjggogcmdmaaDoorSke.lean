import Derived.Test.YthkfjggogcmdmaaDoorSen
namespace Go.Proofs.YthkfjggogcmdmaaDoor
open Go.RowKit

set_option maxRecDepth 100000 in
set_option maxHeartbeats 4000000 in
theorem rEncode_any (m : Int) (w : World) :
    Calls Tryd.prog 29 #[(lst m).v] w fun e w' => e = .returned (.agg ((bytes (m % Sm.L)).map fun z => Value.int .u8 z).toArray) ∧ Below w.heap.size w w' := by
  have hN := byt_word (m % Sm.L)
  have ev : (lst m).v = .agg #[.int .u64 (word64 (m % Sm.L) 0), .int .u64 (word64 (m % Sm.L) 1), .int .u64 (word64 (m % Sm.L) 2), .int .u64 (word64 (m % Sm.L) 3)] := by
    rw [word_lim _ 0 (by omega), word_lim _ 1 (by omega), word_lim _ 2 (by omega), word_lim _ 3 (by omega)]; rfl
  rw [ev]
  clear ev
  generalize m % Sm.L = n at *
  have HNH := hidden hN
  clear hN
  have hB0 := (Blc.new w ⟨word64 n 0, word64 n 1, word64 n 2, word64 n 3⟩ 53).keep (bl_alloc _ (.cells #[.int .u8 0, .int .u8 0, .int .u8 0, .int .u8 0, .int .u8 0, .int .u8 0, .int .u8 0, .int .u8 0, .int .u8 0, .int .u8 0, .int .u8 0, .int .u8 0, .int .u8 0, .int .u8 0, .int .u8 0, .int .u8 0, .int .u8 0, .int .u8 0, .int .u8 0, .int .u8 0, .int .u8 0, .int .u8 0, .int .u8 0, .int .u8 0, .int .u8 0, .int .u8 0, .int .u8 0, .int .u8 0, .int .u8 0, .int .u8 0, .int .u8 0, .int .u8 0] 83))
  have hTh0 := there_new (w.alloc (.cells #[.int .u64 (word64 n 0), .int .u64 (word64 n 1), .int .u64 (word64 n 2), .int .u64 (word64 n 3)] 53)) #[.int .u8 0, .int .u8 0, .int .u8 0, .int .u8 0, .int .u8 0, .int .u8 0, .int .u8 0, .int .u8 0, .int .u8 0, .int .u8 0, .int .u8 0, .int .u8 0, .int .u8 0, .int .u8 0, .int .u8 0, .int .u8 0, .int .u8 0, .int .u8 0, .int .u8 0, .int .u8 0, .int .u8 0, .int .u8 0, .int .u8 0, .int .u8 0, .int .u8 0, .int .u8 0, .int .u8 0, .int .u8 0, .int .u8 0, .int .u8 0, .int .u8 0, .int .u8 0] 83
  have hz0 : w.heap.size + 1 < ((w.alloc (.cells #[.int .u64 (word64 n 0), .int .u64 (word64 n 1), .int .u64 (word64 n 2), .int .u64 (word64 n 3)] 53)).alloc (.cells #[.int .u8 0, .int .u8 0, .int .u8 0, .int .u8 0, .int .u8 0, .int .u8 0, .int .u8 0, .int .u8 0, .int .u8 0, .int .u8 0, .int .u8 0, .int .u8 0, .int .u8 0, .int .u8 0, .int .u8 0, .int .u8 0, .int .u8 0, .int .u8 0, .int .u8 0, .int .u8 0, .int .u8 0, .int .u8 0, .int .u8 0, .int .u8 0, .int .u8 0, .int .u8 0, .int .u8 0, .int .u8 0, .int .u8 0, .int .u8 0, .int .u8 0, .int .u8 0] 83)).heap.size := by simp
  have hbel0 := bl_alloc2 w (.cells #[.int .u64 (word64 n 0), .int .u64 (word64 n 1), .int .u64 (word64 n 2), .int .u64 (word64 n 3)] 53) (.cells #[.int .u8 0, .int .u8 0, .int .u8 0, .int .u8 0, .int .u8 0, .int .u8 0, .int .u8 0, .int .u8 0, .int .u8 0, .int .u8 0, .int .u8 0, .int .u8 0, .int .u8 0, .int .u8 0, .int .u8 0, .int .u8 0, .int .u8 0, .int .u8 0, .int .u8 0, .int .u8 0, .int .u8 0, .int .u8 0, .int .u8 0, .int .u8 0, .int .u8 0, .int .u8 0, .int .u8 0, .int .u8 0, .int .u8 0, .int .u8 0, .int .u8 0, .int .u8 0] 83)
  simp only [World.size_alloc] at hTh0
  have HB := hidden hB0
  have HTh := hidden hTh0
  have HZ := hidden hz0
  have HBel := hidden hbel0
  clear hB0 hTh0 hz0 hbel0
  go_enter Tryd.func29, Tryd.ntmps29
  go_upto_region 1 with fail
  simp only at HB
  generalize ((w.alloc (.cells #[.int .u64 (word64 n 0), .int .u64 (word64 n 1), .int .u64 (word64 n 2), .int .u64 (word64 n 3)] 53)).alloc (.cells #[.int .u8 0, .int .u8 0, .int .u8 0, .int .u8 0, .int .u8 0, .int .u8 0, .int .u8 0, .int .u8 0, .int .u8 0, .int .u8 0, .int .u8 0, .int .u8 0, .int .u8 0, .int .u8 0, .int .u8 0, .int .u8 0, .int .u8 0, .int .u8 0, .int .u8 0, .int .u8 0, .int .u8 0, .int .u8 0, .int .u8 0, .int .u8 0, .int .u8 0, .int .u8 0, .int .u8 0, .int .u8 0, .int .u8 0, .int .u8 0, .int .u8 0, .int .u8 0] 83)) = wc at HB HTh HZ HBel ⊢
  have hB := HB.out
  have hTh : wc.there (w.heap.size + 1) 0 32 := HTh.out
  have hz := HZ.out
  have hbel := HBel.out
  clear HB HTh HZ HBel
  have hwd : ∀ q, q < 4 → wc.cell? ⟨w.heap.size, q, none⟩ = some (.int .u64 (word64 n q)) := fun q hq => by
    have h4 : q = 0 ∨ q = 1 ∨ q = 2 ∨ q = 3 := by omega
    rcases h4 with rfl | rfl | rfl | rfl
    · exact hB.c0
    · exact hB.c1
    · exact hB.c2
    · exact hB.c3
  have E0 : EncW w n w.heap.size wc.heap.size (w.heap.size + 1) 0 (wc.alloc (.cells #[.int .u8 0, .int .u8 0, .int .u8 0, .int .u8 0, .int .u8 0, .int .u8 0, .int .u8 0, .int .u8 0, .int .u8 0, .int .u8 0, .int .u8 0, .int .u8 0, .int .u8 0, .int .u8 0, .int .u8 0, .int .u8 0, .int .u8 0, .int .u8 0, .int .u8 0, .int .u8 0, .int .u8 0, .int .u8 0, .int .u8 0, .int .u8 0, .int .u8 0, .int .u8 0, .int .u8 0, .int .u8 0, .int .u8 0, .int .u8 0, .int .u8 0, .int .u8 0] 83)) := by
    refine ⟨fun q hq => cell_keep (hwd q hq) (bl_alloc _ _), fun j hj => ?_, fun j hj => by go_simp, World.there_alloc hTh _, bl_trans hbel (bl_alloc _ _)⟩
    rw [World.cell?_alloc_mark, if_neg (by omega)]
    have eZ : (#[.int .u8 0, .int .u8 0, .int .u8 0, .int .u8 0, .int .u8 0, .int .u8 0, .int .u8 0, .int .u8 0, .int .u8 0, .int .u8 0, .int .u8 0, .int .u8 0, .int .u8 0, .int .u8 0, .int .u8 0, .int .u8 0, .int .u8 0, .int .u8 0, .int .u8 0, .int .u8 0, .int .u8 0, .int .u8 0, .int .u8 0, .int .u8 0, .int .u8 0, .int .u8 0, .int .u8 0, .int .u8 0, .int .u8 0, .int .u8 0, .int .u8 0, .int .u8 0] : Array Value) = Array.replicate 32 (.int .u8 0) := rfl
    rw [eZ]
    simp [hj]
  have E0H := hidden E0
  clear E0 hwd hTh hbel hB
  go_wp2_with fail
  go_loopw [4] (fun i w' => ∃ k : Nat, k ≤ 32 ∧ i = .int .i64 k ∧ EncW w n w.heap.size wc.heap.size (w.heap.size + 1) k w') (fun i _ => 32 - (intOf i).toNat)
  case atStart => exact ⟨0, by omega, rfl, E0H.out⟩
  case round =>
    obtain ⟨k, hk, rfl, hE⟩ := hrel
    clear E0H
    by_cases hlt : k < 32
    · have hw := hE.wd (k / 8) (by omega)
      have hb := hE.bt k hlt
      have hf := hE.fr k hlt
      have hN := HNH.out k
      have NEXT := hidden (hE.step hlt (by omega) (by omega))
      have hwb : 0 ≤ word64 n (k / 8) ∧ word64 n (k / 8) ≤ 18446744073709551615 := by unfold word64; omega
      rw [if_neg (by omega)] at hb
      have HN := hidden hN
      clear hE hN
      generalize word64 n (k / 8) = X at *
      go_wp2_with fail
      refine ⟨⟨k + 1, by omega, by go_num, ?_⟩, by simp [intOf]; omega⟩
      rw [HN.out]
      exact NEXT.out
    · have hk32 : k = 32 := by omega
      subst hk32
      have hr : wr.rangeAt wc.heap.size 0 ((bytes n).map fun z => Value.int .u8 z) := fun j v hv => by
        obtain ⟨hj, rfl⟩ := bytesV n j v hv
        rw [Nat.zero_add, hE.bt j hj, if_pos hj]
      have hl : ((bytes n).map fun z => Value.int .u8 z).length = 32 := by simp [bytes]
      have ho : ((bytes n).map fun z => Value.int .u8 z).toArray.all (·.oneCell') = true := all_oneCell_toArray (fun v hv => by
        obtain ⟨z, _, rfl⟩ := List.mem_map.1 hv
        rfl)
      have hi : (Tryd.prog.info? 83).map (·.size) = some ((bytes n).map fun z => Value.int .u8 z).length := by rw [hl]; kernel_rfl
      have hu : Tryd.prog.underlying 83 = some (.array 32 5) := by kernel_rfl
      have hth := hE.th
      have hbel := hidden hE.bel
      clear hE
      generalize hcs : ((bytes n).map fun z => Value.int .u8 z) = cs at *
      have hth2 : wr.there (w.heap.size + 1) 0 cs.toArray.size := by simpa [hl] using hth
      have hi2 : (Tryd.prog.info? 83).map (·.size) = some cs.toArray.size := by simpa using hi
      have RD := run_loadVar_mid (P := Tryd.prog) (wr.setCells (w.heap.size + 1) 0 cs) (w.heap.size + 1) 0 83 cs _ (World.rangeAt_setCells_same wr (w.heap.size + 1) 0 cs (by rw [hl]; exact hth)) hu rfl hi
      have BEL : Below w.heap.size w (wr.setCells (w.heap.size + 1) 0 cs) := below_setCells (w.heap.size + 1) cs 0 hbel.out (by omega)
      have HU := hidden hu
      have HI := hidden hi
      have HI2 := hidden hi2
      have HTH := hidden hth2
      have HRA := hidden hr
      have HO := hidden ho
      have RDH := hidden RD
      have BELH := hidden BEL
      clear hth hth2 hu hi ho hi2 hr RD BEL
      go_upto_region 6 with fail
      go_wp2_with (first | refine wpList_load_mid rfl 83 _ rfl wc.heap.size 0 (by rfl) cs _ HRA.out HU.out rfl HI.out ?_ | refine wpList_store_mid rfl 83 _ _ rfl (w.heap.size + 1) 0 cs.toArray (by rfl) (by rfl) HTH.out HI2.out HO.out ?_)
      have RD := RDH.out
      refine bodyPost_ret (v := .agg cs.toArray) (results_cell1 Tryd.results29 _ _ _ _ _ (by rfl) RD) rfl ⟨by rw [hcs], ?_⟩
      exact BELH.out
end Go.Proofs.YthkfjggogcmdmaaDoor
