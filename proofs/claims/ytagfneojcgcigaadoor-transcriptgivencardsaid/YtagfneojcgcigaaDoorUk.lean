import Derived.Test.YtagfneojcgcigaaDoorUj
namespace Go.Proofs.YtagfneojcgcigaaDoor.Tr
open Go.RowKit
/-- a call of a script -/
structure Oq where
  k : Int
  a : Int
  l : List UInt8
  ps : List (List UInt8)
  m : Em
/-- as it is heard -/
def Oq.en (o : Oq) : En := ⟨o.k == 2, o.l, if o.k = 2 then [] else o.ps⟩
/-- calls that lie in a block from a place on -/
structure Ow4 (w : World) (b o n : Nat) (f : Nat → Oq) : Prop where
  c0 : ∀ t, t < n → w.cell? ⟨b, o + t * 4, none⟩ = some (.int .i64 (f t).k)
  c1 : ∀ t, t < n → w.cell? ⟨b, o + t * 4 + 1, none⟩ = some (.int .i64 (f t).a)
  c2 : ∀ t, t < n → w.cell? ⟨b, o + t * 4 + 2, none⟩ = some (.string (sb (f t).l))
  c3 : ∀ t, t < n → w.cell? ⟨b, o + t * 4 + 3, none⟩ = some (.slice (f t).m.P (f t).ps.length (f t).m.c)
theorem Ow4.keep {w w' : World} {b o n : Nat} {f : Nat → Oq} (h : Ow4 w b o n f) (hb : Below w.heap.size w w') : Ow4 w' b o n f :=
  ⟨fun t ht => cell_keep (h.c0 t ht) hb, fun t ht => cell_keep (h.c1 t ht) hb, fun t ht => cell_keep (h.c2 t ht) hb, fun t ht => cell_keep (h.c3 t ht) hb⟩
theorem Ow4.blk {w w' : World} {b o n : Nat} {f : Nat → Oq} (h : Ow4 w b o n f) (e : w'.heap[b]? = w.heap[b]?) : Ow4 w' b o n f :=
  ⟨fun t ht => (World.cell?_of_block (a := ⟨b, _, none⟩) e).trans (h.c0 t ht), fun t ht => (World.cell?_of_block (a := ⟨b, _, none⟩) e).trans (h.c1 t ht), fun t ht => (World.cell?_of_block (a := ⟨b, _, none⟩) e).trans (h.c2 t ht), fun t ht => (World.cell?_of_block (a := ⟨b, _, none⟩) e).trans (h.c3 t ht)⟩
set_option maxRecDepth 100000 in
set_option maxHeartbeats 16000000 in
theorem heard_any (n : Nat) (f : Nat → Oq) (base g : Nat) (gm : Nat → Nat) (Q : Nat → Nat → Option Addr) (C : Nat → Nat → Nat) (PW : Option Addr) (cW gw : Nat) (w : World) (hZ : Hz w base g n n (fun t => (f t).en) gm Q C) (hPW : 0 < n → PW = some ⟨gw, 0, none⟩) (hW : 0 < n → Ow4 w gw 0 n f) (hp : ∀ t, t < n → Pt w (f t).m.P (f t).ps (f t).m.q (f t).m.cc) (hs : ∀ t, t < n → (f t).ps.length ≤ 2 ^ 60) (hn : n ≤ 2 ^ 60) :
    Calls Tryd.prog 14 #[.slice (some ⟨g, 0, none⟩) n n, .slice PW n cW] w fun e w' => e = .returned (.bool true) ∧ Below w.heap.size w w' := by
  have HZ := hidden hZ
  have HPW := hidden hPW
  have HW := hidden hW
  have HP := hidden hp
  have HS := hidden hs
  have HNL := hidden hn
  clear hZ hPW hW hp hs hn
  go_enter Tryd.func14, Tryd.ntmps14
  go_wp2_with fail
  go_loopw [5] (fun iv w' => ∃ i : Nat, i ≤ n ∧ iv = .int .i64 (i : Int) ∧ Hid (Below w.heap.size w w')) (fun i _ => n - (intOf i).toNat)
  case atStart => exact ⟨0, by omega, rfl, hidden (Below.refl _ _)⟩
  case round =>
    obtain ⟨i, hi, rfl, HB⟩ := hrel
    by_cases hin : i < n
    · obtain rfl := HPW.out (by omega)
      have ii0 : (0 : Int) ≤ (i : Int) := by omega
      have ii1 : (i : Int) < (n : Int) := by omega
      have w9 : IntKind.i64.wrap ((i : Int) + 1) = (i : Int) + 1 := IntWalk.i64_in _ (by have := HNL.out; omega)
      have FC : Hid (∀ w', Below w.heap.size w w' → w'.cell? ⟨g, i * 3, none⟩ = some (.bool ((f i).k == 2)) ∧ w'.cell? ⟨g, i * 3 + 1, none⟩ = some (.string (sb (f i).l)) ∧ w'.cell? ⟨g, i * 3 + 2, none⟩ = some (.slice (some ⟨gm i, 0, none⟩) (f i).en.ps.length (f i).en.ps.length) ∧ w'.cell? ⟨gw, i * 4, none⟩ = some (.int .i64 (f i).k) ∧ w'.cell? ⟨gw, i * 4 + 2, none⟩ = some (.string (sb (f i).l)) ∧ w'.cell? ⟨gw, i * 4 + 3, none⟩ = some (.slice (f i).m.P (f i).ps.length (f i).m.c) ∧ Pt w' (some ⟨gm i, 0, none⟩) (f i).en.ps (Q i) (C i) ∧ Pt w' (f i).m.P (f i).ps (f i).m.q (f i).m.cc) := hidden (fun w' hb => by
        have z := HZ.out.stay hb
        have o := (HW.out (by omega)).keep hb
        refine ⟨z.c0 i hin, z.c1 i hin, z.c2 i hin, ?_, ?_, ?_, (z.ow i hin).pt, (HP.out i hin).keep hb⟩
        · have := o.c0 i hin; rwa [Nat.zero_add] at this
        · have := o.c2 i hin; rwa [Nat.zero_add] at this
        · have := o.c3 i hin; rwa [Nat.zero_add] at this)
      have HSI := hidden (HS.out i hin)
      generalize f i = F at FC HSI
      obtain ⟨x0, x1, x2, y0, y2, y3, p0, p1⟩ := FC.out _ HB.out.drew
      go_upto_region 6 with fail
      go_cut [29] (fun v wx => v = .bool false ∧ Below w.heap.size w wx)
      case first =>
        go_big_region
        all_goals
          clear x0 x1 x2 y0 y2 y3 p0 p1
          go_wp2_with fail
          go_meet
          exact ⟨by first | rfl | simp, HB.out.drew⟩
      case rest =>
      obtain ⟨rfl, hb3⟩ := hcut
      replace HB := hidden hb3
      clear hb3 x0 x1 x2 y0 y2 y3 p0 p1
      obtain ⟨x0, x1, x2, y0, y2, y3, p0, p1⟩ := FC.out _ HB.out
      clear p0 p1
      by_cases hk : F.k = 2
      · have hE : F.en.ps = [] := by unfold Oq.en; exact if_pos hk
        have SA : Hid (∀ w', Below w.heap.size w w' → Calls Tryd.prog 21 #[.string (sb F.l), .slice (some ⟨gm i, 0, none⟩) F.en.ps.length F.en.ps.length, .string (sb F.l), .slice none 0 0] w' fun e w'' => e = .returned (.bool true) ∧ Below w'.heap.size w' w'') := hidden (fun w' hb => by
          have := same_any F.l F.l F.en.ps [] (some ⟨gm i, 0, none⟩) none F.en.ps.length 0 (Q i) (fun _ => none) (C i) (fun _ => 0) w' (FC.out w' hb).2.2.2.2.2.2.1 (Pt.empty _ _ _ _) (by rw [hE]; simp)
          rw [decide_eq_true ⟨rfl, hE⟩] at this
          exact this)
        have hkk : (F.k == 2) = true := by simpa using hk
        clear hE
        go_upto_region 11 with fail
        clear x0 x1 x2 y0 y2 y3
        obtain ⟨x0, x1, x2, y0, y2, y3, p0, p1⟩ := FC.out _ HB.out.drew
        clear p0 p1 x0 y0 y3
        go_cut [58] (fun v wx => v = .bool false ∧ Below w.heap.size w wx)
        case first =>
          go_region_law (first | (go_simp; go_at_call 21; refine (SA.out _ HB.out.drew).mono ?_; rintro e w2 ⟨rfl, hb⟩; have B2 := hidden (bl_trans HB.out.drew hb); clear hb))
          all_goals
            clear x1 x2 y2
            go_wp2_with fail
            go_meet
            exact ⟨rfl, B2.out⟩
        case rest =>
        obtain ⟨rfl, hb3⟩ := hcut
        replace HB := hidden hb3
        clear hb3 x1 x2 y2
        go_wp2_with fail
        go_roundw
        case rel => exact ⟨i + 1, by omega, by go_num, HB⟩
        case measure => simp [intOf]; omega
      · have hE : F.en.ps = F.ps := by unfold Oq.en; exact if_neg hk
        have SA : Hid (∀ w', Below w.heap.size w w' → Calls Tryd.prog 21 #[.string (sb F.l), .slice (some ⟨gm i, 0, none⟩) F.en.ps.length F.en.ps.length, .string (sb F.l), .slice F.m.P F.ps.length F.m.c] w' fun e w'' => e = .returned (.bool true) ∧ Below w'.heap.size w' w'') := hidden (fun w' hb => by
          have := same_any F.l F.l F.en.ps F.ps (some ⟨gm i, 0, none⟩) F.m.P F.en.ps.length F.m.c (Q i) F.m.q (C i) F.m.cc w' (FC.out w' hb).2.2.2.2.2.2.1 (FC.out w' hb).2.2.2.2.2.2.2 (by rw [hE]; exact HSI.out)
          rw [decide_eq_true ⟨rfl, hE⟩] at this
          exact this)
        have hkk : (F.k == 2) = false := by simpa using hk
        clear hE
        go_upto_region 11 with fail
        clear x0 x1 x2 y0 y2 y3
        obtain ⟨x0, x1, x2, y0, y2, y3, p0, p1⟩ := FC.out _ HB.out.drew
        clear p0 p1 x0 y0 y3
        go_cut [58] (fun v wx => v = .bool false ∧ Below w.heap.size w wx)
        case first =>
          go_region_law (first | (go_simp; go_at_call 21; refine (SA.out _ HB.out.drew).mono ?_; rintro e w2 ⟨rfl, hb⟩; have B2 := hidden (bl_trans HB.out.drew hb); clear hb))
          all_goals
            clear x1 x2 y2
            go_wp2_with fail
            go_meet
            exact ⟨rfl, B2.out⟩
        case rest =>
        obtain ⟨rfl, hb3⟩ := hcut
        replace HB := hidden hb3
        clear hb3 x1 x2 y2
        go_wp2_with fail
        go_roundw
        case rel => exact ⟨i + 1, by omega, by go_num, HB⟩
        case measure => simp [intOf]; omega
    · obtain rfl : i = n := by omega
      have lq : ¬ (i : Int) < (i : Int) := by omega
      go_wp2_with fail
      refine bodyPost_ret (v := .bool true) (by simp [results, Tryd.results14, go_sem]) rfl ⟨rfl, HB.out⟩
end Go.Proofs.YtagfneojcgcigaaDoor.Tr
