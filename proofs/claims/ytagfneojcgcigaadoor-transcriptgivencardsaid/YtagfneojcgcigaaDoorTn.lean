import Derived.Test.YtagfneojcgcigaaDoorTh
import Derived.Test.YtagfneojcgcigaaDoorTl
namespace Go.Proofs.YtagfneojcgcigaaDoor.Tr
open Go.RowKit
set_option maxRecDepth 100000 in
set_option maxHeartbeats 8000000 in
theorem given_any (PF : Option Addr) (k cF gH cH : Nat) (w : World) (hc : k + 1 ≤ cH) :
    Calls Tryd.prog 7 #[.agg #[.slice PF k cF, .slice (some ⟨gH, 0, none⟩) (k + 1) cH]] w fun e w' => e = .returned (.slice (some ⟨gH, 0, none⟩) k cH) ∧ Below w.heap.size w w' := by
  have s0 : (0 : Int) ≤ (k : Int) := by omega
  have s1 : (k : Int) ≤ (cH : Int) := by omega
  have s2 : ¬ cH = 0 := by omega
  clear hc
  go_enter Tryd.func7, Tryd.ntmps7
  go_wp2_with fail
  refine bodyPost_ret (v := .slice (some ⟨gH, 0, none⟩) k cH) (by simp [results, Tryd.results7, go_sem]) rfl ⟨rfl, bl_alloc w _⟩
theorem mk8_list : (⟨#[11, 12, 13, 14, 15, 16, 17, 18]⟩ : ByteArray).toList = mk8 := sb_list mk8
theorem sb_add (p : List UInt8) : (sb p ++ (⟨#[11, 12, 13, 14, 15, 16, 17, 18]⟩ : ByteArray)).toList = p ++ mk8 := by
  have : sb p ++ (⟨#[11, 12, 13, 14, 15, 16, 17, 18]⟩ : ByteArray) = sb (p ++ mk8) := by
    apply ByteArray.ext
    simp [sb, mk8, ByteArray.data_append]
  rw [this, sb_list]
theorem own_by' {w : World} {base g n c : Nat} {bs : List UInt8} (h : w.ownsRow base 5 1 (.slice (some ⟨g, 0, none⟩) n c) n (cb bs)) : By w (some ⟨g, 0, none⟩) c bs :=
  ⟨fun h => (by cases h), fun a ha => by obtain rfl := Option.some.inj ha; exact h.cells rfl⟩
theorem By.less {w : World} {a : Addr} {c : Nat} {bs : List UInt8} (h : By w (some a) c bs) (p : List UInt8) (hp : ∃ r, bs = p ++ r) : By w (some a) c p :=
  ⟨fun h => (by cases h), fun b hb j u hu => h.lie b hb j u (by
    obtain ⟨r, rfl⟩ := hp
    rw [cb_app, List.getElem?_append_left (List.getElem?_eq_some_iff.1 hu).1]
    exact hu)⟩
set_option maxRecDepth 100000 in
set_option maxHeartbeats 16000000 in
theorem left_any (ps : List (List UInt8)) (P : Option Addr) (cap : Nat) (q : Nat → Option Addr) (c : Nat → Nat) (w : World) (hP : Pt w P ps q c) (hs : Bd ps)
    (base : Nat) (PF : Option Addr) (cF gH cH fm cm : Nat) (f cp : Nat → Nat) (hH : Hd w base (.slice PF ps.length cF) (.slice (some ⟨gH, 0, none⟩) (ps.length + 1) cH) ps.length ps.length ps.length [.slice (some ⟨fm, 0, none⟩) 8 cm] (fun i => (ps.getD i []).length) (fun i => ps.getD i [] ++ mk8) f cp) (hM : By w (some ⟨fm, 0, none⟩) cm mk8) :
    Calls Tryd.prog 8 #[.agg #[.slice PF ps.length cF, .slice (some ⟨gH, 0, none⟩) (ps.length + 1) cH], .slice P ps.length cap] w fun e w' => e = .returned (.bool true) ∧ Below w.heap.size w w' := by
  have HS := hidden hs
  have HPL : Hid (ps.length ≤ 5864062014634) := hidden hs.1
  have HP := hidden (hP.keep (bl_alloc w (.cells #[.slice PF ps.length cF, .slice (some ⟨gH, 0, none⟩) (ps.length + 1) cH] 34)))
  have HH := hidden (hH.stay (bl_alloc w (.cells #[.slice PF ps.length cF, .slice (some ⟨gH, 0, none⟩) (ps.length + 1) cH] 34)))
  have HM := hidden (hM.keep (bl_alloc w (.cells #[.slice PF ps.length cF, .slice (some ⟨gH, 0, none⟩) (ps.length + 1) cH] 34)))
  have HB := hidden (bl_alloc w (.cells #[.slice PF ps.length cF, .slice (some ⟨gH, 0, none⟩) (ps.length + 1) cH] 34))
  have HX : Hid (B2 (w.alloc (.cells #[.slice PF ps.length cF, .slice (some ⟨gH, 0, none⟩) (ps.length + 1) cH] 34)) w.heap.size 34 (.slice PF ps.length cF) (.slice (some ⟨gH, 0, none⟩) (ps.length + 1) cH)) := hidden (heap_alloc_new w _)
  clear hP hs hH hM
  go_enter Tryd.func8, Tryd.ntmps8
  go_upto_region 1 with fail
  generalize w.alloc (.cells #[.slice PF ps.length cF, .slice (some ⟨gH, 0, none⟩) (ps.length + 1) cH] 34) = w1 at HP HH HM HB HX ⊢
  have x0 := HX.out.c1
  have x1 : w1.cell? ⟨gH, ps.length, none⟩ = some (.slice (some ⟨fm, 0, none⟩) 8 cm) := by
    rw [HH.out.head.cellAt ps.length (by simp), List.getElem?_append_right (by rw [shd_len]; exact Nat.le_refl _), shd_len, Nat.sub_self]
    rfl
  have x2 : (convert 55 9 (.slice (some ⟨fm, 0, none⟩) 8 cm)).run Tryd.prog w1 = .ok (.string (sb mk8)) w1 := by_conv HM.out
  have e1 := sb_list mk8
  have e2 := mk8_list
  have n0 : IntKind.i64.wrap ((ps.length : Int) + 1) = ((ps.length + 1 : Nat) : Int) := by rw [IntWalk.i64_in _ (by have := HPL.out; omega)]; omega
  have n1 : (0 : Int) ≤ (ps.length : Int) := by omega
  have n2 : (ps.length : Int) < ((ps.length + 1 : Nat) : Int) := by omega
  obtain ⟨M, hM⟩ : ∃ M, M = ps.length + 1 := ⟨_, rfl⟩
  rw [← hM] at n0 n2 HH HX x0 ⊢
  have HMM := hidden hM
  clear hM
  go_upto_region 3 with fail
  clear x0 x1 x2 e1 e2 n0 n1 n2 HM
  go_wp2_with fail
  obtain ⟨N, hN⟩ : ∃ N, w.heap.size = N := ⟨_, rfl⟩
  have HN := hidden hN
  rw [hN] at HX
  rw [hN]
  clear hN
  go_loopw [5] (fun iv w' => ∃ i : Nat, i ≤ ps.length ∧ iv = .int .i64 i ∧ Hid (Below w1.heap.size w1 w')) (fun i _ => ps.length - (intOf i).toNat)
  case atStart => exact ⟨0, by omega, rfl, hidden (Below.refl _ _)⟩
  case round =>
    obtain ⟨i, hi, rfl, hB⟩ := hrel
    by_cases hin : i < ps.length
    · obtain ⟨b1, o1, rfl, hc1⟩ := HP.out.lie (by omega)
      have bd : Below w1.heap.size w1 wr.drew := hB.out.drew
      have HD := HH.out.stay bd
      have hr := HD.row i hin
      have gF : ∃ gF cF', PF = some ⟨gF, 0, none⟩ ∧ cF' = cF := by
        obtain ⟨g, c, hv, _⟩ := own_some HD.full (by omega)
        exact ⟨g, c, by simp only [Value.slice.injEq] at hv; exact hv.1, by simp only [Value.slice.injEq] at hv; exact hv.2.2.symm⟩
      obtain ⟨gF, _, rfl, -⟩ := gF
      have x0 := (HX.out.keep bd HX.out.lt).c0
      have x1 := (HX.out.keep bd HX.out.lt).c1
      have x2 : wr.drew.cell? ⟨gF, i, none⟩ = some (.slice (some ⟨f i, 0, none⟩) ((ps.getD i []).length + 8) (cp i)) := by
        rw [HD.full.cellAt i (by omega), shd_at _ _ _ _ _ hin]
      have x3 : wr.drew.cell? ⟨gH, i, none⟩ = some (.slice (some ⟨f i, 0, none⟩) (ps.getD i []).length (cp i)) := by
        have h9 := HD.head
        rw [HMM.out] at h9
        rw [World.ownsRow.cellAt (n := ps.length + 1) h9 i (by omega), List.getElem?_append_left (by rw [shd_len]; exact hin), shd_at _ _ _ _ _ hin]
      have x4 := cell_keep (hc1 i hin) bd
      have hrb := own_by' hr
      have y2 := by_conv hrb
      rw [show (ps.getD i [] ++ mk8).length = (ps.getD i []).length + 8 by rw [List.length_append]; rfl] at y2
      have y3 := by_conv (hrb.less (ps.getD i []) ⟨mk8, rfl⟩)
      have y4 := by_conv ((HP.out.each i hin).keep bd)
      have e1 := sb_list (ps.getD i [] ++ mk8)
      have e2 := sb_add (ps.getD i [])
      have e3 := sb_list (ps.getD i [])
      have z0 := sb_size (ps.getD i [])
      have lp : Hid ((ps.getD i []).length ≤ 140737488351232) := hidden (HS.out.2 i hin)
      have ii0 : (0 : Int) ≤ (i : Int) := by omega
      have ii1 : (i : Int) < (ps.length : Int) := by omega
      have ii2 : (i : Int) < (M : Int) := by have := HMM.out; omega
      have w9 : IntKind.i64.wrap ((i : Int) + 1) = (i : Int) + 1 := IntWalk.i64_in _ (by have := HPL.out; omega)
      have BD := hidden bd
      generalize ps.getD i [] = p at x2 x3 x4 y2 y3 y4 e1 e2 e3 z0 lp
      have n9 : ¬ (9223372036854775807 : Int) < (p.length : Int) + 8 := by have := lp.out; omega
      clear hc1 hB bd HD hr hrb lp
      go_upto_region 6 with fail
      go_cut [55] (fun v wx => v = .bool false ∧ Below w1.heap.size w1 wx)
      case first =>
        go_big_region
        all_goals
          clear x0 x1 x2 x3 x4 y2 y3 y4
          go_wp2_with fail
          go_meet
          exact ⟨by simp, BD.out⟩
      case rest =>
      obtain ⟨rfl, hb3⟩ := hcut
      have B3 := hidden hb3
      clear hb3 x0 x1 x2 x3 x4 y2 y3 y4 e1 e2 e3 BD n9 z0
      go_wp2_with fail
      go_roundw
      case rel => exact ⟨i + 1, by omega, by go_num, B3⟩
      case measure => simp [intOf]; omega
    · obtain rfl : i = ps.length := by omega
      have lq : ¬ (ps.length : Int) < (ps.length : Int) := by omega
      go_wp2_with fail
      refine bodyPost_ret (v := .bool true) (by simp [results, Tryd.results8, go_sem]) rfl ⟨rfl, bl_trans HB.out hB.out⟩
end Go.Proofs.YtagfneojcgcigaaDoor.Tr
