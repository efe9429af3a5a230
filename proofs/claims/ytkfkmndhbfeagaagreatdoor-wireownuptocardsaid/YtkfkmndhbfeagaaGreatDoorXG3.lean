import Derived.Test.YtkfkmndhbfeagaaGreatDoorXG2
import Derived.Test.YtkfkmndhbfeagaaGreatDoorQG
import Derived.Lib.SlBytesConst
namespace Go.Proofs.YtkfkmndhbfeagaaGreatDoor
namespace Xo
open Go.RowKit
set_option linter.unusedVariables false
set_option maxRecDepth 100000
set_option maxHeartbeats 16000000
theorem sum_one (B G c : Nat) (xs : List Value) (w : World) (hH : Hg w) (hB : w.cell? ⟨B, 0, none⟩ = some (.slice (some ⟨G, 0, none⟩) 4 c)) (hx : xs.length = 4) (hc : ∀ j u, xs[j]? = some u → w.cell? ((⟨G, 0, none⟩ : Addr).add j) = some u) (hu : UB xs) :
    Calls Tryz.prog 44 #[.slice (some ⟨B, 0, none⟩) 1 1] w fun e w' => ∃ cs : List Value, e = .returned (.agg cs.toArray) ∧ cs.length = 64 ∧ UB cs ∧ Below w.heap.size w w' := by
  have B0 := bl_alloc w (.cells z64.toArray 104)
  have J := hidden (joined_one B G 4 c xs (w.alloc (.cells z64.toArray 104)) (cell_keep hB B0) hx (by omega) (fun j u h => by have h9 := hc j u h; rw [Addr.add_mid] at h9 ⊢; exact cell_keep h9 B0) hu)
  have M0 := hidden ((Mw.start w).new z64 104)
  have HX := hidden hx
  have HU := hidden hu
  have HH := hidden hH
  have ZL : Hid (z64.length = 64) := hidden (by simp [z64])
  clear hH hB hx hc hu B0
  go_enter Tryz.func44, Tryz.ntmps44
  go_upto_region 1 with (first | refine wpList_alloc64 rfl rfl ?_)
  generalize w.alloc (.cells z64.toArray 104) = w1 at *
  generalize z64 = zz at *
  go_wp2_with (first | (go_at_call 61; refine J.out.mono ?_; rintro e w2 ⟨v, rfl, ho, hb⟩; obtain ⟨g2, c2, rfl, _⟩ := own_some ho (by omega); have M2 := hidden (M0.out.keep hb); have HS := hidden (fun x (hx2 : x = w2) => hash_any g2 c2 xs w2 (HH.out.keep M2.out.bel) HX.out (own_cells ho) HU.out); clear ho hb J M0) | (go_at_call 60; refine (HS.out _ rfl).mono ?_; rintro e w3 ⟨cs, rfl, hl, hu, hb⟩; have M3 := hidden (M2.out.keep hb); have TH := hidden (M3.out.ther cs (c := w.heap.size) (o := zz) (by simp) (by rw [hl, ZL.out])); have M4 := M3.out.set (M := []) cs (c := w.heap.size) (o := zz) (by simp) (by rw [hl, ZL.out]) (fun p hp => by cases hp); have LD := hidden (M4.var (c := w.heap.size) (ds := cs) (by simp) Tryz.underlying104 rfl (i64 cs hl)); have BL := hidden M4.bel; have I2 := hidden (i64a cs hl); have UC := hidden hu; have LC := hidden hl; have O2 : Hid (cs.toArray.all (·.oneCell') = true) := hidden (by simpa using (UB.one hu)); clear M4 hl hu hb HS M2 M3) | refine wpList_store_mid rfl 104 _ _ rfl w.heap.size 0 cs.toArray (by rfl) (by rfl) TH.out I2.out O2.out ?_)
  refine bodyPost_ret (v := .agg cs.toArray) (results_cellM Tryz.results44 _ _ _ _ _ (by rfl) LD.out) rfl ⟨cs, rfl, LC.out, UC.out, BL.out⟩
theorem b32 (cs : List Value) (h : cs.length = 32) : (Tryz.prog.info? 78).map (·.size) = some cs.length := by rw [h]; kernel_rfl
theorem b32a (cs : List Value) (h : cs.length = 32) : (Tryz.prog.info? 78).map (·.size) = some cs.toArray.size := by rw [List.size_toArray, h]; kernel_rfl
/-- Encode of no element -/
theorem encZ (w : World) (hH : Hg w) :
    Calls Tryz.prog 23 #[.agg ze.toArray] w fun e w' => ∃ cs : List Value, e = .returned (.agg cs.toArray) ∧ cs.length = 32 ∧ UB cs ∧ Below w.heap.size w w' := by
  have h0x : ze[0]? = some (.int .i64 0) := rfl
  have h25x : ze[25]? = some (.slice none 0 0) := rfl
  have HH := hidden hH
  generalize ze = lx at *
  have M0 := ((Mw.start w).new lx 41).new [.int .u8 0, .int .u8 0, .int .u8 0, .int .u8 0, .int .u8 0, .int .u8 0, .int .u8 0, .int .u8 0, .int .u8 0, .int .u8 0, .int .u8 0, .int .u8 0, .int .u8 0, .int .u8 0, .int .u8 0, .int .u8 0, .int .u8 0, .int .u8 0, .int .u8 0, .int .u8 0, .int .u8 0, .int .u8 0, .int .u8 0, .int .u8 0, .int .u8 0, .int .u8 0, .int .u8 0, .int .u8 0, .int .u8 0, .int .u8 0, .int .u8 0, .int .u8 0] 78
  simp only [World.size_alloc] at M0
  have MM := hidden M0
  clear M0 hH
  go_enter Tryz.func23, Tryz.ntmps23
  go_upto_region 6 with fail
  generalize (w.alloc (.cells lx.toArray 41)).alloc (.cells [.int .u8 0, .int .u8 0, .int .u8 0, .int .u8 0, .int .u8 0, .int .u8 0, .int .u8 0, .int .u8 0, .int .u8 0, .int .u8 0, .int .u8 0, .int .u8 0, .int .u8 0, .int .u8 0, .int .u8 0, .int .u8 0, .int .u8 0, .int .u8 0, .int .u8 0, .int .u8 0, .int .u8 0, .int .u8 0, .int .u8 0, .int .u8 0, .int .u8 0, .int .u8 0, .int .u8 0, .int .u8 0, .int .u8 0, .int .u8 0, .int .u8 0, .int .u8 0].toArray 78) = w1 at *
  have x25 := (MM.out.r (w.heap.size, lx) (by simp)).1 25 _ h25x
  simp only [Nat.zero_add] at x25
  have M2 := hidden (MM.out.keep (bl_alloc w1 (.cells #[.int .u8 102, .int .u8 114, .int .u8 101, .int .u8 101] 5 (4, 5))))
  have C2 : Hid (∀ j u, ([.int .u8 102, .int .u8 114, .int .u8 101, .int .u8 101] : List Value)[j]? = some u → (w1.alloc (.cells #[.int .u8 102, .int .u8 114, .int .u8 101, .int .u8 101] 5 (4, 5))).cell? ((⟨w1.heap.size, 0, none⟩ : Addr).add j) = some u) := hidden (fun j u hu => by
    rw [Addr.add_mid, cell_of_row _ _ (0 + j) _ 5 (4, 5) (heap_alloc_new w1 _), Nat.zero_add]
    simpa using hu)
  have x26 := cell_keep x25 (bl_alloc w1 (.cells #[.int .u8 102, .int .u8 114, .int .u8 101, .int .u8 101] 5 (4, 5)))
  clear x25
  have cv : (convert 29 29 (.slice (some ⟨w1.heap.size, 0, none⟩) 4 4)).run Tryz.prog (w1.alloc (.cells #[.int .u8 102, .int .u8 114, .int .u8 101, .int .u8 101] 5)) = .ok (.slice (some ⟨w1.heap.size, 0, none⟩) 4 4) (w1.alloc (.cells #[.int .u8 102, .int .u8 114, .int .u8 101, .int .u8 101] 5 (4, 5))) := Lib.run_convert_bytes_const (P := Tryz.prog) w1 29 5 #[.int .u8 102, .int .u8 114, .int .u8 101, .int .u8 101] 4 4 (by kernel_rfl) (by kernel_rfl)
  go_upto_region 7 with fail
  generalize w1.alloc (.cells #[.int .u8 102, .int .u8 114, .int .u8 101, .int .u8 101] 5 (4, 5)) = w2 at *
  clear cv
  generalize w1.heap.size = G at *
  go_wp2_with fail
  go_loopw [3, 4] (fun v kv w' => v = .slice (some ⟨G, 0, none⟩) 4 4 ∧ kv = .int .i64 0 ∧ w' = w2) (fun _ _ _ => 0)
  case atStart => exact ⟨rfl, rfl, rfl⟩
  case round =>
    obtain ⟨rfl, rfl, rfl⟩ := hrel
    have UF : Hid (UB [.int .u8 102, .int .u8 114, .int .u8 101, .int .u8 101]) := hidden (fun u hu => by
      simp only [List.mem_cons, List.not_mem_nil, or_false] at hu
      rcases hu with rfl | rfl | rfl | rfl <;> exact ⟨_, rfl⟩)
    have B3 := bl_alloc wr (.cells #[.slice (some ⟨G, 0, none⟩) 4 4] 29)
    have SU := hidden (sum_one wr.heap.size G 4 [.int .u8 102, .int .u8 114, .int .u8 101, .int .u8 101] (wr.alloc (.cells #[.slice (some ⟨G, 0, none⟩) 4 4] 29)) ((HH.out.keep M2.out.bel).keep B3) (Tr.box_cell wr _ _) rfl (fun j u h => by have h9 := C2.out j u h; rw [Addr.add_mid] at h9 ⊢; exact cell_keep h9 B3) UF.out)
    have M3 := hidden (M2.out.keep B3)
    clear B3 C2 UF M2
    go_upto_region 13 with (first | (go_at_call 44; refine SU.out.mono ?_; rintro e w3 ⟨cs, rfl, hl, hu, hb⟩; have M4 := hidden (M3.out.keep hb); have UC := hidden hu; have LC := hidden hl; clear hl hu hb SU M3 x26; have M5 := hidden (M4.out.new z64 104); have TH := hidden (M5.out.ther cs (c := w3.heap.size) (o := z64) (by simp) (by rw [LC.out]; rfl)); have I2 := hidden (i64a cs LC.out); have O2 : Hid (cs.toArray.all (·.oneCell') = true) := hidden (by simpa using (UB.one UC.out))) | refine wpList_alloc64 rfl rfl ?_ | refine wpList_store_mid rfl 104 _ _ rfl w3.heap.size 0 cs.toArray (by rfl) (by rfl) TH.out I2.out O2.out ?_)
    have RL : Hid (w.heap.size + 1 < w3.heap.size) := hidden ((M4.out.r (w.heap.size + 1, [.int .u8 0, .int .u8 0, .int .u8 0, .int .u8 0, .int .u8 0, .int .u8 0, .int .u8 0, .int .u8 0, .int .u8 0, .int .u8 0, .int .u8 0, .int .u8 0, .int .u8 0, .int .u8 0, .int .u8 0, .int .u8 0, .int .u8 0, .int .u8 0, .int .u8 0, .int .u8 0, .int .u8 0, .int .u8 0, .int .u8 0, .int .u8 0, .int .u8 0, .int .u8 0, .int .u8 0, .int .u8 0, .int .u8 0, .int .u8 0, .int .u8 0, .int .u8 0]) (by simp)).2.2.2)
    have M6 := hidden (M5.out.set (M := [(w.heap.size + 1, [.int .u8 0, .int .u8 0, .int .u8 0, .int .u8 0, .int .u8 0, .int .u8 0, .int .u8 0, .int .u8 0, .int .u8 0, .int .u8 0, .int .u8 0, .int .u8 0, .int .u8 0, .int .u8 0, .int .u8 0, .int .u8 0, .int .u8 0, .int .u8 0, .int .u8 0, .int .u8 0, .int .u8 0, .int .u8 0, .int .u8 0, .int .u8 0, .int .u8 0, .int .u8 0, .int .u8 0, .int .u8 0, .int .u8 0, .int .u8 0, .int .u8 0, .int .u8 0])]) cs (c := w3.heap.size) (o := z64) (by simp) (by rw [LC.out]; rfl) (fun p hp => by
      rcases List.mem_singleton.1 hp with rfl
      exact ⟨by simp, by have := RL.out; simp only; omega⟩))
    generalize (w3.alloc (.cells z64.toArray 104)).setCells w3.heap.size 0 cs = w4 at *
    have RH : Hid (w.heap.size + 1 ≠ w3.heap.size ∧ w3.heap.size < w4.heap.size) := hidden ⟨by have := RL.out; omega, (M6.out.r (w3.heap.size, cs) (by simp)).2.2.2⟩
    generalize w3.heap.size = R at *
    obtain ⟨T2, hT2⟩ : ∃ T, w.heap.size + 1 = T := ⟨_, rfl⟩
    rw [hT2] at M6 RL RH ⊢
    clear M4 M5 TH I2 O2 hT2
    have M7 := hidden (M6.out.new [.int .u8 0, .int .u8 0, .int .u8 0, .int .u8 0, .int .u8 0, .int .u8 0, .int .u8 0, .int .u8 0, .int .u8 0, .int .u8 0, .int .u8 0, .int .u8 0, .int .u8 0, .int .u8 0, .int .u8 0, .int .u8 0, .int .u8 0, .int .u8 0, .int .u8 0, .int .u8 0, .int .u8 0, .int .u8 0, .int .u8 0, .int .u8 0, .int .u8 0, .int .u8 0, .int .u8 0, .int .u8 0, .int .u8 0, .int .u8 0, .int .u8 0, .int .u8 0] 78)
    go_upto_region 14 with fail
    generalize w4.alloc (.cells [.int .u8 0, .int .u8 0, .int .u8 0, .int .u8 0, .int .u8 0, .int .u8 0, .int .u8 0, .int .u8 0, .int .u8 0, .int .u8 0, .int .u8 0, .int .u8 0, .int .u8 0, .int .u8 0, .int .u8 0, .int .u8 0, .int .u8 0, .int .u8 0, .int .u8 0, .int .u8 0, .int .u8 0, .int .u8 0, .int .u8 0, .int .u8 0, .int .u8 0, .int .u8 0, .int .u8 0, .int .u8 0, .int .u8 0, .int .u8 0, .int .u8 0, .int .u8 0].toArray 78) = w5 at *
    generalize w4.heap.size = V at *
    obtain ⟨ds, hds⟩ : ∃ ds, cs.take 32 = ds := ⟨_, rfl⟩
    have LDs : ds.length = 32 := by rw [← hds, List.length_take, LC.out]; rfl
    have UD : UB ds := fun u hu => UC.out u (by rw [← hds] at hu; exact List.mem_of_mem_take hu)
    have M8 := hidden (M7.out.keep (Tr.drew_blW w5))
    have CP := run_copy_cells (P := Tryz.prog) w5.drew 29 29 3 5 V 0 32 32 ⟨R, 0, none⟩ 32 64 ds (by kernel_rfl) (by kernel_rfl) (by rw [LDs]; rfl) (fun j u hj => by
      rw [Addr.add_mid]
      have h1 : cs[j]? = some u := by
        rw [← hds, List.getElem?_take] at hj
        split at hj
        · exact hj
        · cases hj
      exact (M8.out.r (R, cs) (by simp)).1 j u h1) (fun j hj => ((M8.out.r (V, [.int .u8 0, .int .u8 0, .int .u8 0, .int .u8 0, .int .u8 0, .int .u8 0, .int .u8 0, .int .u8 0, .int .u8 0, .int .u8 0, .int .u8 0, .int .u8 0, .int .u8 0, .int .u8 0, .int .u8 0, .int .u8 0, .int .u8 0, .int .u8 0, .int .u8 0, .int .u8 0, .int .u8 0, .int .u8 0, .int .u8 0, .int .u8 0, .int .u8 0, .int .u8 0, .int .u8 0, .int .u8 0, .int .u8 0, .int .u8 0, .int .u8 0, .int .u8 0]) (by simp)).2.1 j (by simpa [LDs] using hj)).1) (fun j hj => ((M8.out.r (V, [.int .u8 0, .int .u8 0, .int .u8 0, .int .u8 0, .int .u8 0, .int .u8 0, .int .u8 0, .int .u8 0, .int .u8 0, .int .u8 0, .int .u8 0, .int .u8 0, .int .u8 0, .int .u8 0, .int .u8 0, .int .u8 0, .int .u8 0, .int .u8 0, .int .u8 0, .int .u8 0, .int .u8 0, .int .u8 0, .int .u8 0, .int .u8 0, .int .u8 0, .int .u8 0, .int .u8 0, .int .u8 0, .int .u8 0, .int .u8 0, .int .u8 0, .int .u8 0]) (by simp)).2.1 j (by simpa [LDs] using hj)).2) (UB.one UD)
    rw [LDs] at CP
    have M9 := hidden (M8.out.set (M := [(T2, [.int .u8 0, .int .u8 0, .int .u8 0, .int .u8 0, .int .u8 0, .int .u8 0, .int .u8 0, .int .u8 0, .int .u8 0, .int .u8 0, .int .u8 0, .int .u8 0, .int .u8 0, .int .u8 0, .int .u8 0, .int .u8 0, .int .u8 0, .int .u8 0, .int .u8 0, .int .u8 0, .int .u8 0, .int .u8 0, .int .u8 0, .int .u8 0, .int .u8 0, .int .u8 0, .int .u8 0, .int .u8 0, .int .u8 0, .int .u8 0, .int .u8 0, .int .u8 0])]) ds (c := V) (o := [.int .u8 0, .int .u8 0, .int .u8 0, .int .u8 0, .int .u8 0, .int .u8 0, .int .u8 0, .int .u8 0, .int .u8 0, .int .u8 0, .int .u8 0, .int .u8 0, .int .u8 0, .int .u8 0, .int .u8 0, .int .u8 0, .int .u8 0, .int .u8 0, .int .u8 0, .int .u8 0, .int .u8 0, .int .u8 0, .int .u8 0, .int .u8 0, .int .u8 0, .int .u8 0, .int .u8 0, .int .u8 0, .int .u8 0, .int .u8 0, .int .u8 0, .int .u8 0]) (by simp) (by rw [LDs]; rfl) (fun p hp => by
      rcases List.mem_singleton.1 hp with rfl
      exact ⟨by simp, by have := RL.out; have := RH.out; simp only; omega⟩))
    clear hds M7 M8
    go_big_region
    clear CP
    generalize w5.drew.setCells V 0 ds = w6 at *
    have RN := hidden (M9.out.r (V, ds) (by simp)).1
    have TH := hidden (M9.out.ther ds (c := T2) (o := [.int .u8 0, .int .u8 0, .int .u8 0, .int .u8 0, .int .u8 0, .int .u8 0, .int .u8 0, .int .u8 0, .int .u8 0, .int .u8 0, .int .u8 0, .int .u8 0, .int .u8 0, .int .u8 0, .int .u8 0, .int .u8 0, .int .u8 0, .int .u8 0, .int .u8 0, .int .u8 0, .int .u8 0, .int .u8 0, .int .u8 0, .int .u8 0, .int .u8 0, .int .u8 0, .int .u8 0, .int .u8 0, .int .u8 0, .int .u8 0, .int .u8 0, .int .u8 0]) (by simp) (by rw [LDs]; rfl))
    have M10 := M9.out.set (M := []) ds (c := T2) (o := [.int .u8 0, .int .u8 0, .int .u8 0, .int .u8 0, .int .u8 0, .int .u8 0, .int .u8 0, .int .u8 0, .int .u8 0, .int .u8 0, .int .u8 0, .int .u8 0, .int .u8 0, .int .u8 0, .int .u8 0, .int .u8 0, .int .u8 0, .int .u8 0, .int .u8 0, .int .u8 0, .int .u8 0, .int .u8 0, .int .u8 0, .int .u8 0, .int .u8 0, .int .u8 0, .int .u8 0, .int .u8 0, .int .u8 0, .int .u8 0, .int .u8 0, .int .u8 0]) (by simp) (by rw [LDs]; rfl) (fun p hp => by cases hp)
    have LD := hidden (M10.var (c := T2) (ds := ds) (by simp) Tryz.underlying78 rfl (b32 ds LDs))
    have BL := hidden M10.bel
    have I1 := hidden (b32 ds LDs)
    have I2 := hidden (b32a ds LDs)
    have O2 : Hid (ds.toArray.all (·.oneCell') = true) := hidden (by simpa using (UB.one UD))
    have UE : Hid (Tryz.prog.underlying 78 = _) := hidden Tryz.underlying78
    have L1 := hidden LDs
    have U1 := hidden UD
    clear M10 M9 LDs UD UC
    go_wp2_with (first | refine wpList_load_mid rfl 78 _ rfl V 0 (by rfl) ds _ RN.out UE.out rfl I1.out ?_ | refine wpList_store_mid rfl 78 _ _ rfl T2 0 ds.toArray (by rfl) (by rfl) TH.out I2.out O2.out ?_)
    refine bodyPost_ret (v := .agg ds.toArray) (results_cellM Tryz.results23 _ _ _ _ _ (by rfl) LD.out) rfl ⟨ds, rfl, L1.out, U1.out, BL.out⟩
end Xo
end Go.Proofs.YtkfkmndhbfeagaaGreatDoor
namespace Go.Proofs.YtkfkmndhbfeagaaGreatDoor
namespace Xo
open Go.RowKit
set_option linter.unusedVariables false
theorem mid_get {A X B : List Value} {o j : Nat} {u : Value} (hA : A.length = o) (h : X[j]? = some u) : (A ++ (X ++ B))[o + j]? = some u := by
  have hj := (List.getElem?_eq_some_iff.1 h).1
  rw [List.getElem?_append_right (by omega), hA, show o + j - o = j by omega, List.getElem?_append_left hj]
  exact h
theorem z125_four (i : Nat) (hi : i < 4) : ∀ j u, ze[j]? = some u → z125[i * 26 + j]? = some u := by
  intro j u h
  match i, hi with
  | 0, _ => exact mid_get (A := []) rfl h
  | 1, _ => exact mid_get (A := ze) rfl h
  | 2, _ => rw [show z125 = (ze ++ ze) ++ (ze ++ (ze ++ _)) by unfold z125; rw [List.append_assoc]]; exact mid_get (A := ze ++ ze) rfl h
  | 3, _ => rw [show z125 = (ze ++ (ze ++ ze)) ++ (ze ++ _) by unfold z125; rw [List.append_assoc, List.append_assoc]]; exact mid_get (A := ze ++ (ze ++ ze)) rfl h
theorem z125_tail : ∃ R : List Value, z125 = (ze ++ (ze ++ (ze ++ ze))) ++ R ∧ (∀ i, i < 3 → ∀ j u, ([.int .u64 0, .int .u64 0, .int .u64 0, .int .u64 0] : List Value)[j]? = some u → R[i * 4 + j]? = some u) ∧ R[12]? = some (.slice none 0 0) ∧ (∀ i, i < 2 → ∀ j u, ([.int .u64 0, .int .u64 0, .int .u64 0, .int .u64 0] : List Value)[j]? = some u → R[13 + i * 4 + j]? = some u) := by
  refine ⟨_, by unfold z125; rw [List.append_assoc, List.append_assoc, List.append_assoc], fun i hi j u h => ?_, rfl, fun i hi j u h => ?_⟩
  · have hj : j < 4 := (List.getElem?_eq_some_iff.1 h).1
    match i, hi, j, hj with
    | 0, _, 0, _ | 0, _, 1, _ | 0, _, 2, _ | 0, _, 3, _ | 1, _, 0, _ | 1, _, 1, _ | 1, _, 2, _ | 1, _, 3, _ | 2, _, 0, _ | 2, _, 1, _ | 2, _, 2, _ | 2, _, 3, _ => exact h
  · have hj : j < 4 := (List.getElem?_eq_some_iff.1 h).1
    match i, hi, j, hj with
    | 0, _, 0, _ | 0, _, 1, _ | 0, _, 2, _ | 0, _, 3, _ | 1, _, 0, _ | 1, _, 1, _ | 1, _, 2, _ | 1, _, 3, _ => exact h
theorem tail_get {R : List Value} {j : Nat} {u : Value} (h : R[j]? = some u) : ((ze ++ (ze ++ (ze ++ ze))) ++ R)[104 + j]? = some u := by
  rw [List.getElem?_append_right (show (ze ++ (ze ++ (ze ++ ze))).length ≤ 104 + j from Nat.le_add_right _ _), show 104 + j - (ze ++ (ze ++ (ze ++ ze))).length = j from Nat.add_sub_cancel_left 104 j]
  exact h
theorem lst0 : lst 0 = ⟨0, 0, 0, 0⟩ := by kernel_rfl
theorem cb_ub (l : List UInt8) : UB (Tr.cb l) := fun u hu => by
  obtain ⟨b, _, rfl⟩ := List.mem_map.1 hu
  exact ⟨_, rfl⟩
theorem sencZ (w : World) : Calls Tryz.prog 24 #[.agg [.int .u64 0, .int .u64 0, .int .u64 0, .int .u64 0].toArray] w fun e w' => ∃ cs : List Value, e = .returned (.agg cs.toArray) ∧ cs.length = 32 ∧ UB cs ∧ Below w.heap.size w w' := by
  have h := rEncode_any 0 w
  rw [lst0] at h
  refine h.mono fun e w' ⟨h1, h2⟩ => ⟨_, h1, by rw [← eb_cb, Tr.cb_len, eb_len], by rw [← eb_cb]; exact cb_ub _, h2⟩
/-- a list that grows by 32 bytes at a time -/
def Gz (w1 : World) (v : Value) (m : Nat) (w : World) : Prop := (∃ xs, w.ownsRow w1.heap.size 5 1 v m xs) ∧ Below w1.heap.size w1 w
set_option maxRecDepth 100000
set_option maxHeartbeats 16000000
theorem encodeZ (w : World) (hH : Hg w) : Calls Tryz.prog 5 #[.agg z125.toArray] w fun e w' => ∃ G c : Nat, e = .returned (.slice (some ⟨G, 0, none⟩) 288 c) ∧ (∃ xs, w'.ownsRow w.heap.size 5 1 (.slice (some ⟨G, 0, none⟩) 288 c) 288 xs) ∧ Below w.heap.size w w' := by
  obtain ⟨i0, hi, hz0, hz1, hz2⟩ := info8
  have HI := hidden hi
  have HZ0 := hidden hz0
  have HZ1 := hidden hz1
  have HZ2 := hidden hz2
  have HU : Hid (Tryz.prog.underlying 29 = some (.slice 5)) := hidden (by kernel_rfl)
  have r0 := range_newM w z125 47
  obtain ⟨R, eR, t3, t12, t2⟩ := z125_tail
  have R4 : Hid (∀ i, i < 4 → (w.alloc (.cells z125.toArray 47)).rangeAt w.heap.size (i * 26) ze) := hidden (fun i hi j u h => by have := r0 _ _ (z125_four i hi j u h); rwa [Nat.zero_add] at this)
  have R3 : Hid (∀ i, i < 3 → (w.alloc (.cells z125.toArray 47)).rangeAt w.heap.size (104 + i * 4) [.int .u64 0, .int .u64 0, .int .u64 0, .int .u64 0]) := hidden (fun i hi j u h => by have := r0 _ _ (by rw [eR]; exact tail_get (t3 i hi j u h)); rwa [Nat.zero_add, ← Nat.add_assoc] at this)
  have R2 : Hid (∀ i, i < 2 → (w.alloc (.cells z125.toArray 47)).rangeAt w.heap.size (117 + i * 4) [.int .u64 0, .int .u64 0, .int .u64 0, .int .u64 0]) := hidden (fun i hi j u h => by have := r0 _ _ (by rw [eR]; exact tail_get (t2 i hi j u h)); rwa [Nat.zero_add, show 104 + (13 + i * 4 + j) = 117 + i * 4 + j by omega] at this)
  have RL : Hid ((w.alloc (.cells z125.toArray 47)).cell? ⟨w.heap.size, 116, none⟩ = some (.slice none 0 0)) := hidden (by have := r0 _ _ (by rw [eR]; exact tail_get t12); rwa [Nat.zero_add] at this)
  have BW := hidden (bl_alloc w (.cells z125.toArray 47))
  have HG := hidden (hH.keep BW.out)
  clear hi hz0 hz1 hz2 r0 eR t3 t12 t2 hH
  generalize z125 = p at *
  generalize hze : ze = le at *
  have IE : Hid ((Tryz.prog.info? 41).map (·.size) = some le.length) := hidden (by rw [← hze]; exact einfo)
  have EZ : Hid (∀ x, Hg x → Calls Tryz.prog 23 #[.agg le.toArray] x fun e w' => ∃ cs : List Value, e = .returned (.agg cs.toArray) ∧ cs.length = 32 ∧ UB cs ∧ Below x.heap.size x w') := hidden (fun x h => by rw [← hze]; exact encZ x h)
  clear hze
  have IS : Hid ((Tryz.prog.info? 38).map (·.size) = some ([.int .u64 0, .int .u64 0, .int .u64 0, .int .u64 0] : List Value).length) := hidden (by kernel_rfl)
  have SZ : Hid (∀ x, Hg x → Calls Tryz.prog 24 #[.agg [.int .u64 0, .int .u64 0, .int .u64 0, .int .u64 0].toArray] x fun e w' => ∃ cs : List Value, e = .returned (.agg cs.toArray) ∧ cs.length = 32 ∧ UB cs ∧ Below x.heap.size x w') := hidden (fun x _ => sencZ x)
  generalize ([.int .u64 0, .int .u64 0, .int .u64 0, .int .u64 0] : List Value) = ls at *
  go_enter Tryz.func5, Tryz.ntmps5
  go_upto_region 2 with fail
  generalize w.alloc (.cells p.toArray 47) = w1 at *
  obtain ⟨T, hT⟩ : ∃ T, w.heap.size = T := ⟨_, rfl⟩
  have ET := hidden hT
  rw [hT] at R4 R3 R2 RL ⊢
  clear hT
  go_wp2_with fail
  go_loopw [3, 4] (fun v kv w' => ∃ k : Nat, k ≤ 4 ∧ kv = .int .i64 (k : Int) ∧ Hid (Gz w1 v (32 * (0 + k)) w')) (fun _ k _ => 4 - (intOf k).toNat)
  case atStart => exact ⟨0, by omega, rfl, hidden ⟨⟨[], World.ownsRow_nil _ _ _ _⟩, Below.refl _ _⟩⟩
  case round =>
    obtain ⟨k, hk, rfl, hG⟩ := hrel
    by_cases hkn : k < 4
    · have k0 : (0 : Int) ≤ (k : Int) := by omega
      have k1 : (k : Int) < 4 := by omega
      have w9 : IntKind.i64.wrap ((k : Int) + 1) = (k : Int) + 1 := IntWalk.i64_in _ (by omega)
      have RA := hidden (range_keepQ (R4.out k hkn) hG.out.2)
      have EC := hidden (EZ.out wr (HG.out.keep hG.out.2))
      have UE : Hid (Tryz.prog.underlying 41 = _) := hidden Tryz.underlying41
      go_upto_region 6 with (first | (refine wpList_load_mid rfl 41 _ rfl T (k * 26) (by rfl) le _ RA.out UE.out rfl IE.out ?_) | (go_at_call 23; refine EC.out.mono ?_; rintro e wa ⟨cs, rfl, hl, hu, hb⟩; have LC := hidden hl; have UC := hidden hu; have D1 := hidden (b32a cs hl); have D2 : Hid (cs.toArray.all (·.oneCell') = true) := hidden (by simpa using (UB.one hu)); have M2 := hidden ((Mw.start wa).new [.int .u8 0, .int .u8 0, .int .u8 0, .int .u8 0, .int .u8 0, .int .u8 0, .int .u8 0, .int .u8 0, .int .u8 0, .int .u8 0, .int .u8 0, .int .u8 0, .int .u8 0, .int .u8 0, .int .u8 0, .int .u8 0, .int .u8 0, .int .u8 0, .int .u8 0, .int .u8 0, .int .u8 0, .int .u8 0, .int .u8 0, .int .u8 0, .int .u8 0, .int .u8 0, .int .u8 0, .int .u8 0, .int .u8 0, .int .u8 0, .int .u8 0, .int .u8 0] 78); have TH := hidden (M2.out.ther cs (c := wa.heap.size) (o := [.int .u8 0, .int .u8 0, .int .u8 0, .int .u8 0, .int .u8 0, .int .u8 0, .int .u8 0, .int .u8 0, .int .u8 0, .int .u8 0, .int .u8 0, .int .u8 0, .int .u8 0, .int .u8 0, .int .u8 0, .int .u8 0, .int .u8 0, .int .u8 0, .int .u8 0, .int .u8 0, .int .u8 0, .int .u8 0, .int .u8 0, .int .u8 0, .int .u8 0, .int .u8 0, .int .u8 0, .int .u8 0, .int .u8 0, .int .u8 0, .int .u8 0, .int .u8 0]) (by simp) (by rw [hl]; rfl)); have M3 := hidden (M2.out.set (M := []) cs (c := wa.heap.size) (o := [.int .u8 0, .int .u8 0, .int .u8 0, .int .u8 0, .int .u8 0, .int .u8 0, .int .u8 0, .int .u8 0, .int .u8 0, .int .u8 0, .int .u8 0, .int .u8 0, .int .u8 0, .int .u8 0, .int .u8 0, .int .u8 0, .int .u8 0, .int .u8 0, .int .u8 0, .int .u8 0, .int .u8 0, .int .u8 0, .int .u8 0, .int .u8 0, .int .u8 0, .int .u8 0, .int .u8 0, .int .u8 0, .int .u8 0, .int .u8 0, .int .u8 0, .int .u8 0]) (by simp) (by rw [hl]; rfl) (by simp)); have B2 := hidden hb; clear hb hl hu EC M2) | refine wpList_store_mid rfl 78 _ _ rfl wa.heap.size 0 cs.toArray (by rfl) (by rfl) TH.out D1.out D2.out ?_)
      generalize hV : (wa.alloc (.cells ([.int .u8 0, .int .u8 0, .int .u8 0, .int .u8 0, .int .u8 0, .int .u8 0, .int .u8 0, .int .u8 0, .int .u8 0, .int .u8 0, .int .u8 0, .int .u8 0, .int .u8 0, .int .u8 0, .int .u8 0, .int .u8 0, .int .u8 0, .int .u8 0, .int .u8 0, .int .u8 0, .int .u8 0, .int .u8 0, .int .u8 0, .int .u8 0, .int .u8 0, .int .u8 0, .int .u8 0, .int .u8 0, .int .u8 0, .int .u8 0, .int .u8 0, .int .u8 0] : List Value).toArray 78)).setCells wa.heap.size 0 cs = V at M3 ⊢
      have B3 := hidden (bl_trans B2.out M3.out.bel)
      have RN := (M3.out.r (wa.heap.size, cs) (by simp)).1
      have NW : Hid (∀ j u, cs[j]? = some u → V.cell? ((⟨wa.heap.size, 0, none⟩ : Addr).add j) = some u) := hidden (fun j u hu => by rw [Addr.add_mid]; exact RN j u hu)
      obtain ⟨xs, ox⟩ := hG.out.1
      have O3 := hidden (own_keepQ ox B3.out)
      have BS3 := hidden (Nat.le_trans hG.out.2.size B3.out.size)
      have BB := hidden (bl_trans2Q hG.out.2 B3.out)
      have L32 : Hid (cs.length = 32 * 1) := hidden (by rw [LC.out])
      generalize wa.heap.size = NN at NW ⊢
      clear hV TH RA UE D1 D2 M3 B2 B3 RN hG ox
      go_upto_region 4 with (first | (at_builtin; refine wpList_append_own_at _ rfl _ _ 29 rfl w1.heap.size 5 i0 (.int .u8 0) 1 1 HU.out HI.out HZ0.out HZ1.out HZ2.out rfl (by decide) _ (32 * (0 + k)) _ rfl O3.out ⟨NN, 0, none⟩ 32 32 cs rfl L32.out NW.out UC.out.one (by unfold maxLen; omega) (by omega) BS3.out ?_; intro va we oe ge _ _; have GZ : Hid (Gz w1 va (32 * (0 + (k + 1))) we) := hidden ⟨⟨_, by (rw [show 32 * (0 + (k + 1)) = 32 * (0 + k) + 32 by omega]; exact oe)⟩, below_transQ BB.out (below_growQ ge BS3.out (fun j hj => (O3.out.lt j hj).1))⟩; clear oe ge))
      go_wp2_with fail
      go_roundw
      case rel => exact ⟨k + 1, by omega, by go_num, GZ⟩
      case measure => simp [intOf]; omega
    · obtain rfl : k = 4 := by omega
      rw [show ((4 : Nat) : Int) = 4 from rfl]
      have GS : Hid (Gz w1 u3 (32 * (4 + 0)) wr) := hG
      clear hG hkn hk
      go_wp2_with fail
      go_loopw [3, 6] (fun v kv w' => ∃ k : Nat, k ≤ 3 ∧ kv = .int .i64 (k : Int) ∧ Hid (Gz w1 v (32 * (4 + k)) w')) (fun _ k _ => 3 - (intOf k).toNat)
      case atStart => exact ⟨0, by omega, rfl, GS⟩
      case round =>
        clear GS
        obtain ⟨k, hk, rfl, hG⟩ := hrel
        by_cases hkn : k < 3
        · have k0 : (0 : Int) ≤ (k : Int) := by omega
          have k1 : (k : Int) < 3 := by omega
          have w9 : IntKind.i64.wrap ((k : Int) + 1) = (k : Int) + 1 := IntWalk.i64_in _ (by omega)
          have RA := hidden (range_keepQ (R3.out k hkn) hG.out.2)
          have EC := hidden (SZ.out wr (HG.out.keep hG.out.2))
          have UE : Hid (Tryz.prog.underlying 38 = _) := hidden Tryz.underlying38
          go_upto_region 11 with (first | (refine wpList_load_mid rfl 38 _ rfl T (104 + k * 4) (by rfl) ls _ RA.out UE.out rfl IS.out ?_) | (go_at_call 24; refine EC.out.mono ?_; rintro e wa ⟨cs, rfl, hl, hu, hb⟩; have LC := hidden hl; have UC := hidden hu; have D1 := hidden (b32a cs hl); have D2 : Hid (cs.toArray.all (·.oneCell') = true) := hidden (by simpa using (UB.one hu)); have M2 := hidden ((Mw.start wa).new [.int .u8 0, .int .u8 0, .int .u8 0, .int .u8 0, .int .u8 0, .int .u8 0, .int .u8 0, .int .u8 0, .int .u8 0, .int .u8 0, .int .u8 0, .int .u8 0, .int .u8 0, .int .u8 0, .int .u8 0, .int .u8 0, .int .u8 0, .int .u8 0, .int .u8 0, .int .u8 0, .int .u8 0, .int .u8 0, .int .u8 0, .int .u8 0, .int .u8 0, .int .u8 0, .int .u8 0, .int .u8 0, .int .u8 0, .int .u8 0, .int .u8 0, .int .u8 0] 78); have TH := hidden (M2.out.ther cs (c := wa.heap.size) (o := [.int .u8 0, .int .u8 0, .int .u8 0, .int .u8 0, .int .u8 0, .int .u8 0, .int .u8 0, .int .u8 0, .int .u8 0, .int .u8 0, .int .u8 0, .int .u8 0, .int .u8 0, .int .u8 0, .int .u8 0, .int .u8 0, .int .u8 0, .int .u8 0, .int .u8 0, .int .u8 0, .int .u8 0, .int .u8 0, .int .u8 0, .int .u8 0, .int .u8 0, .int .u8 0, .int .u8 0, .int .u8 0, .int .u8 0, .int .u8 0, .int .u8 0, .int .u8 0]) (by simp) (by rw [hl]; rfl)); have M3 := hidden (M2.out.set (M := []) cs (c := wa.heap.size) (o := [.int .u8 0, .int .u8 0, .int .u8 0, .int .u8 0, .int .u8 0, .int .u8 0, .int .u8 0, .int .u8 0, .int .u8 0, .int .u8 0, .int .u8 0, .int .u8 0, .int .u8 0, .int .u8 0, .int .u8 0, .int .u8 0, .int .u8 0, .int .u8 0, .int .u8 0, .int .u8 0, .int .u8 0, .int .u8 0, .int .u8 0, .int .u8 0, .int .u8 0, .int .u8 0, .int .u8 0, .int .u8 0, .int .u8 0, .int .u8 0, .int .u8 0, .int .u8 0]) (by simp) (by rw [hl]; rfl) (by simp)); have B2 := hidden hb; clear hb hl hu EC M2) | refine wpList_store_mid rfl 78 _ _ rfl wa.heap.size 0 cs.toArray (by rfl) (by rfl) TH.out D1.out D2.out ?_)
          generalize hV : (wa.alloc (.cells ([.int .u8 0, .int .u8 0, .int .u8 0, .int .u8 0, .int .u8 0, .int .u8 0, .int .u8 0, .int .u8 0, .int .u8 0, .int .u8 0, .int .u8 0, .int .u8 0, .int .u8 0, .int .u8 0, .int .u8 0, .int .u8 0, .int .u8 0, .int .u8 0, .int .u8 0, .int .u8 0, .int .u8 0, .int .u8 0, .int .u8 0, .int .u8 0, .int .u8 0, .int .u8 0, .int .u8 0, .int .u8 0, .int .u8 0, .int .u8 0, .int .u8 0, .int .u8 0] : List Value).toArray 78)).setCells wa.heap.size 0 cs = V at M3 ⊢
          have B3 := hidden (bl_trans B2.out M3.out.bel)
          have RN := (M3.out.r (wa.heap.size, cs) (by simp)).1
          have NW : Hid (∀ j u, cs[j]? = some u → V.cell? ((⟨wa.heap.size, 0, none⟩ : Addr).add j) = some u) := hidden (fun j u hu => by rw [Addr.add_mid]; exact RN j u hu)
          obtain ⟨xs, ox⟩ := hG.out.1
          have O3 := hidden (own_keepQ ox B3.out)
          have BS3 := hidden (Nat.le_trans hG.out.2.size B3.out.size)
          have BB := hidden (bl_trans2Q hG.out.2 B3.out)
          have L32 : Hid (cs.length = 32 * 1) := hidden (by rw [LC.out])
          generalize wa.heap.size = NN at NW ⊢
          clear hV TH RA UE D1 D2 M3 B2 B3 RN hG ox
          go_upto_region 9 with (first | (at_builtin; refine wpList_append_own_at _ rfl _ _ 29 rfl w1.heap.size 5 i0 (.int .u8 0) 1 1 HU.out HI.out HZ0.out HZ1.out HZ2.out rfl (by decide) _ (32 * (4 + k)) _ rfl O3.out ⟨NN, 0, none⟩ 32 32 cs rfl L32.out NW.out UC.out.one (by unfold maxLen; omega) (by omega) BS3.out ?_; intro va we oe ge _ _; have GZ : Hid (Gz w1 va (32 * (4 + (k + 1))) we) := hidden ⟨⟨_, by (rw [show 32 * (4 + (k + 1)) = 32 * (4 + k) + 32 by omega]; exact oe)⟩, below_transQ BB.out (below_growQ ge BS3.out (fun j hj => (O3.out.lt j hj).1))⟩; clear oe ge))
          go_wp2_with fail
          go_roundw
          case rel => exact ⟨k + 1, by omega, by go_num, GZ⟩
          case measure => simp [intOf]; omega
        · obtain rfl : k = 3 := by omega
          rw [show ((3 : Nat) : Int) = 3 from rfl]
          have GS : Hid (Gz w1 u3 (32 * (7 + 0)) wr) := hG
          clear hG hkn hk
          go_wp2_with fail
          go_loopw [3, 8] (fun v kv w' => kv = .int .i64 0 ∧ Hid (Gz w1 v (32 * (7 + 0)) w')) (fun _ _ _ => 0)
          case atStart => exact ⟨rfl, GS⟩
          case round =>
            clear GS
            obtain ⟨rfl, GS⟩ := hrel
            have c116 := cell_keep RL.out GS.out.2
            go_wp2_with fail
            clear c116
            go_loopw [3, 10] (fun v kv w' => ∃ k : Nat, k ≤ 2 ∧ kv = .int .i64 (k : Int) ∧ Hid (Gz w1 v (32 * (7 + k)) w')) (fun _ k _ => 2 - (intOf k).toNat)
            case atStart => exact ⟨0, by omega, rfl, GS⟩
            case round =>
              clear GS
              obtain ⟨k, hk, rfl, hG⟩ := hrel
              by_cases hkn : k < 2
              · have k0 : (0 : Int) ≤ (k : Int) := by omega
                have k1 : (k : Int) < 2 := by omega
                have w9 : IntKind.i64.wrap ((k : Int) + 1) = (k : Int) + 1 := IntWalk.i64_in _ (by omega)
                have RA := hidden (range_keepQ (R2.out k hkn) hG.out.2)
                have EC := hidden (SZ.out wr (HG.out.keep hG.out.2))
                have UE : Hid (Tryz.prog.underlying 38 = _) := hidden Tryz.underlying38
                go_upto_region 21 with (first | (refine wpList_load_mid rfl 38 _ rfl T (117 + k * 4) (by rfl) ls _ RA.out UE.out rfl IS.out ?_) | (go_at_call 24; refine EC.out.mono ?_; rintro e wa ⟨cs, rfl, hl, hu, hb⟩; have LC := hidden hl; have UC := hidden hu; have D1 := hidden (b32a cs hl); have D2 : Hid (cs.toArray.all (·.oneCell') = true) := hidden (by simpa using (UB.one hu)); have M2 := hidden ((Mw.start wa).new [.int .u8 0, .int .u8 0, .int .u8 0, .int .u8 0, .int .u8 0, .int .u8 0, .int .u8 0, .int .u8 0, .int .u8 0, .int .u8 0, .int .u8 0, .int .u8 0, .int .u8 0, .int .u8 0, .int .u8 0, .int .u8 0, .int .u8 0, .int .u8 0, .int .u8 0, .int .u8 0, .int .u8 0, .int .u8 0, .int .u8 0, .int .u8 0, .int .u8 0, .int .u8 0, .int .u8 0, .int .u8 0, .int .u8 0, .int .u8 0, .int .u8 0, .int .u8 0] 78); have TH := hidden (M2.out.ther cs (c := wa.heap.size) (o := [.int .u8 0, .int .u8 0, .int .u8 0, .int .u8 0, .int .u8 0, .int .u8 0, .int .u8 0, .int .u8 0, .int .u8 0, .int .u8 0, .int .u8 0, .int .u8 0, .int .u8 0, .int .u8 0, .int .u8 0, .int .u8 0, .int .u8 0, .int .u8 0, .int .u8 0, .int .u8 0, .int .u8 0, .int .u8 0, .int .u8 0, .int .u8 0, .int .u8 0, .int .u8 0, .int .u8 0, .int .u8 0, .int .u8 0, .int .u8 0, .int .u8 0, .int .u8 0]) (by simp) (by rw [hl]; rfl)); have M3 := hidden (M2.out.set (M := []) cs (c := wa.heap.size) (o := [.int .u8 0, .int .u8 0, .int .u8 0, .int .u8 0, .int .u8 0, .int .u8 0, .int .u8 0, .int .u8 0, .int .u8 0, .int .u8 0, .int .u8 0, .int .u8 0, .int .u8 0, .int .u8 0, .int .u8 0, .int .u8 0, .int .u8 0, .int .u8 0, .int .u8 0, .int .u8 0, .int .u8 0, .int .u8 0, .int .u8 0, .int .u8 0, .int .u8 0, .int .u8 0, .int .u8 0, .int .u8 0, .int .u8 0, .int .u8 0, .int .u8 0, .int .u8 0]) (by simp) (by rw [hl]; rfl) (by simp)); have B2 := hidden hb; clear hb hl hu EC M2) | refine wpList_store_mid rfl 78 _ _ rfl wa.heap.size 0 cs.toArray (by rfl) (by rfl) TH.out D1.out D2.out ?_)
                generalize hV : (wa.alloc (.cells ([.int .u8 0, .int .u8 0, .int .u8 0, .int .u8 0, .int .u8 0, .int .u8 0, .int .u8 0, .int .u8 0, .int .u8 0, .int .u8 0, .int .u8 0, .int .u8 0, .int .u8 0, .int .u8 0, .int .u8 0, .int .u8 0, .int .u8 0, .int .u8 0, .int .u8 0, .int .u8 0, .int .u8 0, .int .u8 0, .int .u8 0, .int .u8 0, .int .u8 0, .int .u8 0, .int .u8 0, .int .u8 0, .int .u8 0, .int .u8 0, .int .u8 0, .int .u8 0] : List Value).toArray 78)).setCells wa.heap.size 0 cs = V at M3 ⊢
                have B3 := hidden (bl_trans B2.out M3.out.bel)
                have RN := (M3.out.r (wa.heap.size, cs) (by simp)).1
                have NW : Hid (∀ j u, cs[j]? = some u → V.cell? ((⟨wa.heap.size, 0, none⟩ : Addr).add j) = some u) := hidden (fun j u hu => by rw [Addr.add_mid]; exact RN j u hu)
                obtain ⟨xs, ox⟩ := hG.out.1
                have O3 := hidden (own_keepQ ox B3.out)
                have BS3 := hidden (Nat.le_trans hG.out.2.size B3.out.size)
                have BB := hidden (bl_trans2Q hG.out.2 B3.out)
                have L32 : Hid (cs.length = 32 * 1) := hidden (by rw [LC.out])
                generalize wa.heap.size = NN at NW ⊢
                clear hV TH RA UE D1 D2 M3 B2 B3 RN hG ox
                go_upto_region 19 with (first | (at_builtin; refine wpList_append_own_at _ rfl _ _ 29 rfl w1.heap.size 5 i0 (.int .u8 0) 1 1 HU.out HI.out HZ0.out HZ1.out HZ2.out rfl (by decide) _ (32 * (7 + k)) _ rfl O3.out ⟨NN, 0, none⟩ 32 32 cs rfl L32.out NW.out UC.out.one (by unfold maxLen; omega) (by omega) BS3.out ?_; intro va we oe ge _ _; have GZ : Hid (Gz w1 va (32 * (7 + (k + 1))) we) := hidden ⟨⟨_, by (rw [show 32 * (7 + (k + 1)) = 32 * (7 + k) + 32 by omega]; exact oe)⟩, below_transQ BB.out (below_growQ ge BS3.out (fun j hj => (O3.out.lt j hj).1))⟩; clear oe ge))
                go_wp2_with fail
                go_roundw
                case rel => exact ⟨k + 1, by omega, by go_num, GZ⟩
                case measure => simp [intOf]; omega
              · obtain rfl : k = 2 := by omega
                rw [show ((2 : Nat) : Int) = 2 from rfl]
                obtain ⟨xs, ox⟩ := hG.out.1
                obtain ⟨G, c, rfl, _⟩ := own_some ox (by omega)
                have OX := hidden ox
                have BX := hidden hG.out.2
                clear ox hG
                go_wp2_with fail
                refine bodyPost_ret (v := .slice (some ⟨G, 0, none⟩) (32 * (7 + 2)) c) (by simp [results, Tryz.results5, go_sem]) rfl ⟨G, c, rfl, ⟨xs, own_mono OX.out (by have := BW.out.size; omega)⟩, bl_trans BW.out BX.out⟩
end Xo
end Go.Proofs.YtkfkmndhbfeagaaGreatDoor
