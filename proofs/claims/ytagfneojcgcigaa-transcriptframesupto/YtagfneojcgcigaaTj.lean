import Derived.Test.YtagfneojcgcigaaTg
namespace Go.Proofs.Ytagfneojcgcigaa
open Go.RowKit
/-- a length half written -/
def lz (N k : Nat) : List UInt8 := (List.range 8).map fun i => if i < k then UInt8.ofNat (N / 2 ^ (8 * i)) else 0
theorem lz_len (N k : Nat) : (lz N k).length = 8 := by simp [lz]
theorem lz_all (N : Nat) : lz N 8 = le8 N := by
  unfold lz le8
  refine List.map_congr_left fun i hi => ?_
  rw [if_pos (List.mem_range.1 hi)]
theorem lz_none (N : Nat) : cb (lz N 0) = List.replicate 8 (.int .u8 0) := by
  have : lz N 0 = List.replicate 8 0 := by
    unfold lz
    simp
    rfl
  rw [this]
  rfl
theorem lz_set (N k : Nat) (h : k < 8) : (cb (lz N k)).set k (.int .u8 ((UInt8.ofNat (N / 2 ^ (8 * k))).toNat : Int)) = cb (lz N (k + 1)) := by
  refine List.ext_getElem? fun j => ?_
  by_cases hj : j < 8
  · rw [List.getElem?_set]
    by_cases e : k = j
    · subst e
      rw [if_pos rfl, if_pos (by simp [cb_len, lz_len, h])]
      simp [cb, lz, List.getElem?_range hj]
    · rw [if_neg e]
      have : (j < k + 1) = (j < k) := by apply propext; constructor <;> intro <;> omega
      simp only [cb, lz, List.getElem?_map, List.getElem?_range hj, Option.map_some, this]
  · rw [List.getElem?_eq_none (by simp [cb_len, lz_len]; omega), List.getElem?_eq_none (by simp [cb_len, lz_len]; omega)]
set_option maxRecDepth 100000 in
set_option maxHeartbeats 8000000 in
theorem rlen_any (n : Nat) (w : World) (hn : n ≤ 2 ^ 40) :
    Calls Try.prog 14 #[.int .i64 (n : Int)] w fun e w' => ∃ v, e = .returned v ∧ w'.ownsRow w.heap.size 5 1 v (le8 n).length (cb (le8 n)) ∧ Below w.heap.size w w' := by
  have HN := hidden hn
  have hmk := run_make (P := Try.prog) w 23 5 (Try.prog.info? 5).get! (.int .u8 0) (by kernel_rfl) (by kernel_rfl) (by kernel_rfl) .i64 .i64 8 8 (by omega) (by omega) (by rw [show (Try.prog.info? 5).get!.bytes = 1 by kernel_rfl]; omega) (by omega)
  rw [show (Try.prog.info? 5).get!.size = 1 by kernel_rfl] at hmk
  simp only [Value.cells] at hmk
  have HO : Hid ((w.alloc (.cells (madeCells #[.int .u8 0] 8) 5)).ownsRow w.heap.size 5 1 (.slice (some ⟨w.heap.size, 0, none⟩) 8 8) 8 (cb (lz n 0))) := hidden (by
    rw [lz_none, ← toList_madeCells_one]
    exact World.ownsRow_lit w _ 8 (Nat.le_refl _) (by unfold maxLen; omega) (by simp [madeCells]))
  have HB := hidden (bl_alloc w (.cells (madeCells #[.int .u8 0] 8) 5))
  clear hn
  go_enter Try.func14, Try.ntmps14
  go_wp2_with fail
  go_loopw [0, 4] (fun nv kv w' => ∃ k m : Nat, k ≤ 8 ∧ kv = .int .i64 (k : Int) ∧ nv = .int .i64 (m : Int) ∧ Hid (m = n / 2 ^ (8 * k)) ∧ Hid (w'.ownsRow w.heap.size 5 1 (.slice (some ⟨w.heap.size, 0, none⟩) 8 8) 8 (cb (lz n k))) ∧ Hid (Below w.heap.size w w')) (fun _ k _ => 8 - (intOf k).toNat)
  case atStart => exact ⟨0, n, by omega, rfl, rfl, hidden (by simp), HO, HB⟩
  case round =>
    clear HO HB hmk
    obtain ⟨k, m, hk, rfl, rfl, hM, HO, HB⟩ := hrel
    by_cases hkn : k < 8
    · have k0 : (0 : Int) ≤ (k : Int) := by omega
      have k1 : (k : Int) < 8 := by omega
      have w9 : IntKind.i64.wrap ((k : Int) + 1) = (k : Int) + 1 := IntWalk.i64_in _ (by omega)
      have x0 := HO.out.cellAt k (by omega)
      rw [cb_at _ _ (by rw [lz_len]; exact hkn)] at x0
      have f0 := HO.out.frozenAt k
      have e0 : (m : Int) % 256 = ((UInt8.ofNat m).toNat : Int) := by rw [UInt8.toNat_ofNat']; rfl
      have NS := HO.out.stored k (.int .u8 ((UInt8.ofNat m).toNat : Int))
      have NO : Hid ((wr.setCell ⟨w.heap.size, k, none⟩ (.int .u8 ((UInt8.ofNat m).toNat : Int))).ownsRow w.heap.size 5 1 (.slice (some ⟨w.heap.size, 0, none⟩) 8 8) 8 (cb (lz n (k + 1)))) := hidden (by
        have := NS.1
        rw [hM.out, lz_set n k hkn] at this
        rw [hM.out]
        exact this)
      have NB : Hid (Below w.heap.size w (wr.setCell ⟨w.heap.size, k, none⟩ (.int .u8 ((UInt8.ofNat m).toNat : Int)))) := hidden (HB.out.setCell (Nat.le_refl _) _)
      have NM : Hid (m / 256 = n / 2 ^ (8 * (k + 1))) := hidden (by rw [hM.out, Nat.div_div_eq_div_mul, Nat.mul_add, Nat.pow_add])
      generalize ((UInt8.ofNat m).toNat : Int) = y at e0 NO NB
      clear NS hM
      go_wp2_with fail
      go_roundw
      case rel => exact ⟨k + 1, m / 256, by omega, by go_num, by first | rfl | (congr 1; omega), NM, NO, NB⟩
      case measure => simp [intOf]; omega
    · obtain rfl : k = 8 := by omega
      rw [lz_all] at HO
      go_wp2_with fail
      refine bodyPost_ret (v := .slice (some ⟨w.heap.size, 0, none⟩) 8 8) (by simp [results, Try.results14, go_sem]) rfl ⟨_, rfl, by rw [le8_len]; exact HO.out, HB.out⟩
theorem own_stay {w w' : World} {base size n : Nat} {e : TypeId} {v : Value} {xs : List Value} (h : w.ownsRow base e size v n xs) (hb : Below w.heap.size w w') : w'.ownsRow base e size v n xs := by
  refine ⟨h.1, ?_⟩
  rcases h.2 with hn | ⟨g, cap, cur, rfl, hbg, hgg, rest⟩
  · exact .inl hn
  · refine .inr ⟨g, cap, cur, rfl, hbg, ?_, rest⟩
    rw [hb.block g (Array.getElem?_eq_some_iff.1 hgg).1]
    exact hgg
set_option maxRecDepth 100000 in
set_option maxHeartbeats 16000000 in
theorem rframe_any (l : List UInt8) (ps : List (List UInt8)) (P : Option Addr) (cap : Nat) (q : Nat → Option Addr) (c : Nat → Nat) (w : World) (hP : Pt w P ps q c) (hs : frl l ps ≤ 2 ^ 40) :
    Calls Try.prog 8 #[.string (sb l), .slice P ps.length cap] w fun e w' => ∃ v, e = .returned v ∧ w'.ownsRow w.heap.size 5 1 v (fr l ps).length (cb (fr l ps)) ∧ Below w.heap.size w w' := by
  have HP := hidden hP
  have HS := hidden hs
  have z0 := sb_size l
  have HLL : Hid (l.length + 16 ≤ 2 ^ 40) := hidden (by unfold frl at hs; omega)
  have HPL : Hid (ps.length ≤ 2 ^ 40) := hidden (by have := len_le ps; unfold frl at hs; omega)
  clear hP hs
  go_enter Try.func8, Try.ntmps8
  go_upto_region 2 with (first | (go_at_call 14; refine (rlen_any _ _ (by have := HLL.out; omega)).mono ?_; rintro e wl ⟨vl, rfl, hlo, hlb⟩; have HO := hidden hlo; have HB := hidden hlb; clear hlo hlb) | (at_builtin; refine wpList_app_sb rfl _ _ rfl w.heap.size _ (le8 l.length) l rfl rfl HO.out (by have := HLL.out; rw [le8_len]; omega) HB.out.size ?_; intro v3 w3 ho3 hg3; replace HB := hidden (below_trans HB.out (below_grown hg3 HB.out.size (fun j hj => (HO.out.lt j hj).1))); replace HO := hidden ho3; clear ho3 hg3))
  go_upto_region 3 with (first | (go_at_call 14; refine (rlen_any _ _ (by have := HPL.out; omega)).mono ?_; rintro e wl ⟨vl, rfl, hlo, hlb⟩; obtain ⟨Pl, cl, rfl, hly⟩ := own_by hlo; have HY := hidden hly; replace HO := hidden (own_stay HO.out hlb); replace HB := hidden (bl_trans HB.out hlb); clear hlo hlb hly) | (at_builtin; refine wpList_app_by rfl _ _ rfl w.heap.size _ (le8 l.length ++ l) (le8 ps.length) _ _ rfl rfl HO.out HY.out (by have := HLL.out; simp only [List.length_append, le8_len]; omega) HB.out.size ?_; intro v3 w3 ho3 hg3; replace HB := hidden (below_trans HB.out (below_grown hg3 HB.out.size (fun j hj => (HO.out.lt j hj).1))); replace HO := hidden ho3; clear ho3 hg3))
  clear HY
  obtain ⟨X, hX⟩ : ∃ X : List UInt8, X = le8 l.length ++ l ++ le8 ps.length := ⟨_, rfl⟩
  rw [← hX] at HO
  have HX := hidden hX
  clear hX
  go_wp2_with fail
  go_loopw [5, 6] (fun vv kv w' => ∃ k : Nat, k ≤ ps.length ∧ kv = .int .i64 (k : Int) ∧ Hid (w'.ownsRow w.heap.size 5 1 vv (X ++ (ps.take k).flatMap pt8).length (cb (X ++ (ps.take k).flatMap pt8))) ∧ Hid (Below w.heap.size w w')) (fun _ k _ => ps.length - (intOf k).toNat)
  case atStart => exact ⟨0, by omega, rfl, by simpa using HO, HB⟩
  case round =>
    clear HO HB
    obtain ⟨k, hk, rfl, HO, HB⟩ := hrel
    by_cases hkn : k < ps.length
    · obtain ⟨b, o, rfl, hc⟩ := HP.out.lie (by omega)
      have HX0 := hidden (hc k hkn)
      have x0 := cell_keep (hc k hkn) HB.out
      have k0 : (0 : Int) ≤ (k : Int) := by omega
      have k1 : (k : Int) < (ps.length : Int) := by omega
      have w9 : IntKind.i64.wrap ((k : Int) + 1) = (k : Int) + 1 := IntWalk.i64_in _ (by have := HPL.out; omega)
      have hsum := sum_next ps k hkn
      have hle := take_sum ps (k + 1)
      have hS := HS.out
      have hX := HX.out
      have hpl := parts_len (ps.take k)
      unfold frl at hS
      have E1 : Hid ((X ++ (ps.take k).flatMap pt8).length + (8 + (ps.getD k []).length) ≤ 2 ^ 40) := hidden (by
        have : X.length = 16 + l.length := by rw [hX]; simp only [List.length_append, le8_len]; omega
        rw [List.length_append, this, hpl]; omega)
      have E2 : Hid (X ++ (ps.take (k + 1)).flatMap pt8 = X ++ (ps.take k).flatMap pt8 ++ le8 (ps.getD k []).length ++ ps.getD k []) := hidden (by rw [parts_next ps k hkn]; simp [List.append_assoc])
      have EY := hidden (HP.out.each k hkn)
      generalize ps.getD k [] = p at x0 HX0 E1 E2 EY
      generalize X ++ (ps.take k).flatMap pt8 = Y at HO E1 E2
      clear hc hsum hle hS hX hpl
      go_upto_region 7 with (first | (go_at_call 14; refine (rlen_any _ _ (by have := E1.out; omega)).mono ?_; rintro e wl ⟨vl, rfl, hlo, hlb⟩; obtain ⟨Pl, cl, rfl, hly⟩ := own_by hlo; have HY := hidden hly; replace HO := hidden (own_stay HO.out hlb); replace HB := hidden (bl_trans HB.out hlb); clear hlo hlb hly) | (at_builtin; refine wpList_app_by rfl _ _ rfl w.heap.size _ Y (le8 p.length) _ _ rfl rfl HO.out HY.out (by have := E1.out; rw [le8_len]; omega) HB.out.size ?_; intro v3 w3 ho3 hg3; replace HB := hidden (below_trans HB.out (below_grown hg3 HB.out.size (fun j hj => (HO.out.lt j hj).1))); replace HO := hidden ho3; clear ho3 hg3))
      clear x0 HY
      have x0 := cell_keep HX0.out HB.out
      go_wp2_with (first | (at_builtin; refine wpList_app_by rfl _ _ rfl w.heap.size _ (Y ++ le8 p.length) p _ _ rfl rfl HO.out (EY.out.keep HB.out) (by have := E1.out; simp only [List.length_append, le8_len]; omega) HB.out.size ?_; intro v3 w3 ho3 hg3; replace HB := hidden (below_trans HB.out (below_grown hg3 HB.out.size (fun j hj => (HO.out.lt j hj).1))); replace HO := hidden ho3; clear ho3 hg3))
      go_roundw
      case rel => exact ⟨k + 1, by omega, by go_num, by rw [E2.out]; exact HO, HB⟩
      case measure => simp [intOf]; omega
    · obtain rfl : k = ps.length := by omega
      have lq : ¬ (ps.length : Int) < (ps.length : Int) := by omega
      rw [List.take_length] at HO
      have HE : Hid (X ++ ps.flatMap pt8 = fr l ps) := hidden (by rw [HX.out]; rfl)
      generalize X ++ ps.flatMap pt8 = Y at HO HE
      go_wp2_with fail
      refine bodyPost_ret (v := u5) (by simp [results, Try.results8, go_sem]) rfl ⟨_, rfl, by rw [← HE.out]; exact HO.out, HB.out⟩
end Go.Proofs.Ytagfneojcgcigaa
