import Derived.Test.YtimjfndaleccaaaDoorCet
namespace Go.Proofs.YtimjfndaleccaaaDoor
open Go.RowKit
set_option linter.unusedVariables false
set_option linter.unusedSimpArgs false
open Cm (Wr Tm co bf Ls lf ins Eqm)
namespace Ci
set_option maxRecDepth 100000
set_option maxHeartbeats 8000000
def nilF : Nat → Value := fun _ => .slice none 0 0
theorem fi_start (w : World) (l : Sl) : Fi w l 0 nilF nilF (fun _ => 0) ((((w.alloc (.cells #[.slice l.p l.n l.c] 23)).alloc (.cells #[.slice none 0 0, .slice none 0 0, .slice none 0 0, .slice none 0 0] 31)).alloc (.cells #[.int .i64 0] 3)).alloc (.cells #[.slice none 0 0, .slice none 0 0, .slice none 0 0, .slice none 0 0] 31)) := by
 have e1 : (w.alloc (.cells #[.slice l.p l.n l.c] 23)).heap.size = w.heap.size + 1 := by simp
 have e2 : ((w.alloc (.cells #[.slice l.p l.n l.c] 23)).alloc (.cells #[.slice none 0 0, .slice none 0 0, .slice none 0 0, .slice none 0 0] 31)).heap.size = w.heap.size + 2 := by simp
 have e3 : (((w.alloc (.cells #[.slice l.p l.n l.c] 23)).alloc (.cells #[.slice none 0 0, .slice none 0 0, .slice none 0 0, .slice none 0 0] 31)).alloc (.cells #[.int .i64 0] 3)).heap.size = w.heap.size + 3 := by simp
 have bA := bl_alloc w (.cells #[.slice l.p l.n l.c] 23)
 have bB := bl_alloc (w.alloc (.cells #[.slice l.p l.n l.c] 23)) (.cells #[.slice none 0 0, .slice none 0 0, .slice none 0 0, .slice none 0 0] 31)
 have bC := bl_alloc ((w.alloc (.cells #[.slice l.p l.n l.c] 23)).alloc (.cells #[.slice none 0 0, .slice none 0 0, .slice none 0 0, .slice none 0 0] 31)) (.cells #[.int .i64 0] 3)
 have bD := bl_alloc (((w.alloc (.cells #[.slice l.p l.n l.c] 23)).alloc (.cells #[.slice none 0 0, .slice none 0 0, .slice none 0 0, .slice none 0 0] 31)).alloc (.cells #[.int .i64 0] 3)) (.cells #[.slice none 0 0, .slice none 0 0, .slice none 0 0, .slice none 0 0] 31)
 have rb := range_newM (w.alloc (.cells #[.slice l.p l.n l.c] 23)) [.slice none 0 0, .slice none 0 0, .slice none 0 0, .slice none 0 0] 31
 have tb := there_newM (w.alloc (.cells #[.slice l.p l.n l.c] 23)) [.slice none 0 0, .slice none 0 0, .slice none 0 0, .slice none 0 0] 31
 rw [e1] at rb tb
 have rd := range_newM (((w.alloc (.cells #[.slice l.p l.n l.c] 23)).alloc (.cells #[.slice none 0 0, .slice none 0 0, .slice none 0 0, .slice none 0 0] 31)).alloc (.cells #[.int .i64 0] 3)) [.slice none 0 0, .slice none 0 0, .slice none 0 0, .slice none 0 0] 31
 have td := there_newM (((w.alloc (.cells #[.slice l.p l.n l.c] 23)).alloc (.cells #[.slice none 0 0, .slice none 0 0, .slice none 0 0, .slice none 0 0] 31)).alloc (.cells #[.int .i64 0] 3)) [.slice none 0 0, .slice none 0 0, .slice none 0 0, .slice none 0 0] 31
 rw [e3] at rd td
 have ra := range_newM w [.slice l.p l.n l.c] 23
 have rc := range_newM ((w.alloc (.cells #[.slice l.p l.n l.c] 23)).alloc (.cells #[.slice none 0 0, .slice none 0 0, .slice none 0 0, .slice none 0 0] 31)) [.int .i64 0] 3
 have tc := there_newM ((w.alloc (.cells #[.slice l.p l.n l.c] 23)).alloc (.cells #[.slice none 0 0, .slice none 0 0, .slice none 0 0, .slice none 0 0] 31)) [.int .i64 0] 3
 rw [e2] at rc tc
 refine ⟨bl_trans (bl_trans (bl_trans bA bB) bC) bD, cell_keep (cell_keep (cell_keep (ra 0 _ rfl) bB) bC) bD, range_bl (range_bl rb bC) bD, there_bl (there_bl tb bC) bD, cell_keep (rc 0 _ rfl) bD, ?_, fun i hi => ?_, td, fun i hi => Rw.none _ _, fun i j _ _ _ k hk => (by have h0 : (none : Option Nat) = some k := hk; cases h0), (by simp)⟩
 ·have := (there_bl tc bD 0 (by simp)).2
  exact this
 ·match i, hi with
  | 0, _ => exact rd 0 _ rfl
  | 1, _ => exact rd 1 _ rfl
  | 2, _ => exact rd 2 _ rfl
  | 3, _ => exact rd 3 _ rfl
def Sl.hi (s : Sl) (b0 : Nat) : Prop := ∀ b o, 0 < s.n → s.p = some ⟨b, o, none⟩ → b0 ≤ b
theorem rw_hi {s : Sl} {x : World} {b0 b1 n : Nat} {v : Value} (hr : Rw x b0 v n) (ev : v = s.v) (hle : b1 ≤ b0) : s.hi b1 := by
 intro b o hn e
 obtain ⟨g, ho, _⟩ := hr
 have := (ho.lt b (by rw [ev]; unfold Sl.v; rw [e]; rfl)).1
 omega
theorem at_hi {s : Sl} {x y : World} {r b0 : Nat} (h : s.at x) (hh : s.hi b0) (hg : x.grownBy y (some r)) (hlt : r < b0) : s.at y := ⟨by
 obtain ⟨b, o, h1, h2⟩ := h.at'
 refine ⟨b, o, h1, fun hn => ?_⟩
 have hb := hh b o hn (h1 hn)
 have h4 := h2 hn
 exact ⟨fun k hk => gcell hg (h4.c0 k hk) (by omega), fun k hk => gcell hg (h4.c1 k hk) (by omega), fun k hk => gcell hg (h4.c2 k hk) (by omega), fun k hk => gcell hg (h4.c3 k hk) (by omega)⟩, h.ok⟩
theorem at_grown {s : Sl} {x y : World} {r b0 n : Nat} {v : Value} (h : s.at x) (hr : Rw x b0 v n) (ev : v = s.v) (hg : x.grownBy y (some r)) (hlt : r < b0) : s.at y := ⟨by
 obtain ⟨b, o, h1, h2⟩ := h.at'
 refine ⟨b, o, h1, fun hn => ?_⟩
 have e := h1 hn
 have hb : b0 ≤ b := by
  obtain ⟨g, ho, _⟩ := hr
  exact (ho.lt b (by rw [ev]; unfold Sl.v; rw [e]; rfl)).1
 have h4 := h2 hn
 exact ⟨fun k hk => gcell hg (h4.c0 k hk) (by omega), fun k hk => gcell hg (h4.c1 k hk) (by omega), fun k hk => gcell hg (h4.c2 k hk) (by omega), fun k hk => gcell hg (h4.c3 k hk) (by omega)⟩, h.ok⟩
theorem tsGates {w : World} {t m K : Nat} {Q : List (List Tm)} {x : World} (h : Ts w t m K Q x) : Calls Tryd.prog 8 #[.pointer (some ⟨t, 0, none⟩)] x fun e w' => e = .returned (.int .i64 (K : Int)) ∧ w' = x := by
 obtain ⟨base, v, vs, sy, hb, bl, wk⟩ := h
 exact Gates_any sy
theorem tsValues {w : World} {t m K : Nat} {Q : List (List Tm)} {x : World} (h : Ts w t m K Q x) : Calls Tryd.prog 9 #[.pointer (some ⟨t, 0, none⟩)] x fun e w' => e = .returned (.int .i64 (m : Int)) ∧ w' = x := by
 obtain ⟨base, v, vs, sy, hb, bl, wk⟩ := h
 exact Values_any sy
theorem fitted_any {w9 : World} {t m K : Nat} {Q : List (List Tm)} (l : Sl) (w : World) (hT : Tb w) (hts : Ts w9 t m K Q w) (hm : m ≤ 4096) (hl : l.at w) (hln : l.n ≤ 1048576) :
  Calls Tryd.prog 6 #[.pointer (some ⟨t, 0, none⟩), .slice l.p l.n l.c, .bool false] w fun e w' => ∃ a b c d : Sl, e = .returned (.agg #[a.v, b.v, c.v, d.v]) ∧ (a.at w' ∧ b.at w' ∧ c.at w' ∧ d.at w') ∧ (a.hi w.heap.size ∧ b.hi w.heap.size ∧ c.hi w.heap.size ∧ d.hi w.heap.size) ∧ (a.n = K ∧ b.n = K ∧ c.n = K ∧ d.n = m) ∧ Below w.heap.size w w' := by
 have F0 := hidden (fi_start w l)
 have CN := hidden (fun (k' : Nat) (C R : Nat → Value) (n : Nat → Nat) (x : World) (hk : k' ≤ 1000000) (h : Fi w l k' C R n x) => fi_next hT hl hk hln h)
 have HTS := hidden hts
 have HKM := hidden (And.intro hts.wk.k hm)
 have CG := hidden (fun y (hb : Below w.heap.size w y) => tsGates (hts.keep hb))
 have CV := hidden (fun y (hb : Below w.heap.size w y) => tsValues (hts.keep hb))
 clear hT hts hm hl hln
 go_enter Tryd.func6, Tryd.ntmps6
 go_upto_region 4 with fail
 generalize ((((w.alloc (.cells #[.slice l.p l.n l.c] 23)).alloc (.cells #[.slice none 0 0, .slice none 0 0, .slice none 0 0, .slice none 0 0] 31)).alloc (.cells #[.int .i64 0] 3)).alloc (.cells #[.slice none 0 0, .slice none 0 0, .slice none 0 0, .slice none 0 0] 31)) = w4 at *
 rw [show w.heap.size + 1 + 1 + 1 = w.heap.size + 3 from rfl, show w.heap.size + 1 + 1 = w.heap.size + 2 from rfl]
 go_upto_region 5 with fail
 go_loopw [10] (fun iv x => ∃ (i : Nat) (R : Nat → Value) (n : Nat → Nat), i ≤ K ∧ iv = .int .i64 (i : Int) ∧ Hid (Fi w l (3 * i) R R n x) ∧ Hid (n 0 = i ∧ n 1 = i ∧ n 2 = i ∧ n 3 = 0)) (fun i _ => K - (intOf i).toNat)
 case atStart => exact ⟨0, nilF, fun _ => 0, by omega, rfl, F0, hidden ⟨rfl, rfl, rfl, rfl⟩⟩
 case round =>
  clear F0
  obtain ⟨i, R, n, hi, rfl, hF, hN⟩ := hrel
  have CG1 := hidden (CG.out _ hF.out.bel)
  by_cases hin : i < K
  ·have i1 : (i : Int) < (K : Int) := by omega
   have w9' : IntKind.i64.wrap ((i : Int) + 1) = (i : Int) + 1 := IntWalk.i64_in _ (by have := HKM.out; omega)
   go_upto_region 7 with (go_at_call 8; refine CG1.out.mono ?_; rintro e wx ⟨rfl, hwx⟩; have hw2 := hwx.symm; clear hwx; subst hw2)
   refine ff7 _ w l (3 * i) R n _ _ _ _ _ _ _ _ _ _ _ _ _ _ _ _ _ _ _ _ _ _ _ _ _ _ _ _ _ _ _ _ _ _ _ _ _ _ _ _ _ _ _ _ _ _ _ _ _ _ _ _ _ _ _ _ _ _ _ _ _ _ _ _ _ _ _ _ wr ⟨hF, CN, hidden (by have := HKM.out; omega), hidden (by have := HKM.out; have := hN.out; omega), hidden (by have := HKM.out; have := hN.out; omega), hidden (by have := HKM.out; have := hN.out; omega)⟩ (hidden ?_)
   intro wz r1 r2 r3 t1 t2 t3 v1 v2 v3 hf
   have NF : Hid (Fi w l (3 * (i + 1)) (upd (upd (upd R 0 v1) 1 v2) 2 v3) (upd (upd (upd R 0 v1) 1 v2) 2 v3) (upd (upd (upd n 0 (n 0 + 1)) 1 (n 1 + 1)) 2 (n 2 + 1)) wz) := hidden hf
   have NN : Hid (upd (upd (upd n 0 (n 0 + 1)) 1 (n 1 + 1)) 2 (n 2 + 1) 0 = i + 1 ∧ upd (upd (upd n 0 (n 0 + 1)) 1 (n 1 + 1)) 2 (n 2 + 1) 1 = i + 1 ∧ upd (upd (upd n 0 (n 0 + 1)) 1 (n 1 + 1)) 2 (n 2 + 1) 2 = i + 1 ∧ upd (upd (upd n 0 (n 0 + 1)) 1 (n 1 + 1)) 2 (n 2 + 1) 3 = 0) := hidden (by
    obtain ⟨a0, a1, a2, a3⟩ := hN.out
    exact ⟨congrArg (· + 1) a0, congrArg (· + 1) a1, congrArg (· + 1) a2, a3⟩)
   clear hf hF hN CG1
   go_wp2_with fail
   go_roundw
   case rel => exact ⟨_, _, _, _, _, _, _, _, _, _, _, _, _, _, _, _, _, _, _, _, _, _, _, _, _, _, _, _, _, _, _, _, _, _, _, _, _, _, _, _, _, _, _, _, ⟨i + 1, _, _, by omega, by go_num, NF, NN⟩, rfl⟩
   case measure => simp [intOf]; omega
  ·obtain rfl : i = K := by omega
   have lq : ¬ (i : Int) < (i : Int) := by omega
   go_upto_region 10 with (go_at_call 8; refine CG1.out.mono ?_; rintro e wx ⟨rfl, hwx⟩; have hw2 := hwx.symm; clear hwx; subst hw2)
   clear CG1 lq
   go_upto_region 11 with fail
   go_loopw [11] (fun iv x => ∃ (j : Nat) (R : Nat → Value) (n : Nat → Nat), j ≤ m ∧ iv = .int .i64 (j : Int) ∧ Hid (Fi w l (3 * i + j) R R n x) ∧ Hid (n 0 = i ∧ n 1 = i ∧ n 2 = i ∧ n 3 = j)) (fun j _ => m - (intOf j).toNat)
   case atStart => exact ⟨0, R, n, by omega, rfl, hF, hN⟩
   case round =>
    clear hF hN
    obtain ⟨j, R, n, hj, rfl, hF, hN⟩ := hrel
    have CV1 := hidden (CV.out _ hF.out.bel)
    by_cases hjn : j < m
    ·have i1 : (j : Int) < (m : Int) := by omega
     have w9' : IntKind.i64.wrap ((j : Int) + 1) = (j : Int) + 1 := IntWalk.i64_in _ (by have := HKM.out; omega)
     go_upto_region 13 with (go_at_call 9; refine CV1.out.mono ?_; rintro e wx ⟨rfl, hwx⟩; have hw2 := hwx.symm; clear hwx; subst hw2)
     refine ff13 _ w l (3 * i + j) R n _ _ _ _ _ _ _ _ _ _ _ _ _ _ _ _ _ _ _ _ _ _ _ _ _ _ _ _ _ _ _ _ _ _ _ _ _ _ _ _ _ _ _ _ _ _ _ _ _ _ _ _ _ _ _ _ _ _ _ _ _ _ _ _ _ _ _ _ wr ⟨hF, CN, hidden (by have := HKM.out; omega), hidden (by have := HKM.out; have := hN.out; omega)⟩ (hidden ?_)
     intro wz r1 t1 v1 hf
     have NF : Hid (Fi w l (3 * i + (j + 1)) (upd R 3 v1) (upd R 3 v1) (upd n 3 (n 3 + 1)) wz) := hidden hf
     have NN : Hid (upd n 3 (n 3 + 1) 0 = i ∧ upd n 3 (n 3 + 1) 1 = i ∧ upd n 3 (n 3 + 1) 2 = i ∧ upd n 3 (n 3 + 1) 3 = j + 1) := hidden (by
      obtain ⟨a0, a1, a2, a3⟩ := hN.out
      exact ⟨a0, a1, a2, congrArg (· + 1) a3⟩)
     clear hf hF hN CV1
     go_wp2_with fail
     go_roundw
     case rel => exact ⟨_, _, _, _, _, _, _, _, _, _, _, _, _, _, ⟨j + 1, _, _, by omega, by go_num, NF, NN⟩, rfl⟩
     case measure => simp [intOf]; omega
    ·obtain rfl : j = m := by omega
     have lq : ¬ (j : Int) < (j : Int) := by omega
     obtain ⟨a, ea, na, aa⟩ := (hF.out.rw 0 (by omega)).sl
     obtain ⟨b, eb, nb, ab⟩ := (hF.out.rw 1 (by omega)).sl
     obtain ⟨c, ec, nc, ac⟩ := (hF.out.rw 2 (by omega)).sl
     obtain ⟨d, ed, nd, ad⟩ := (hF.out.rw 3 (by omega)).sl
     have c0 := hF.out.tc 0 (by omega)
     have c1 := hF.out.tc 1 (by omega)
     have c2 := hF.out.tc 2 (by omega)
     have c3 := hF.out.tc 3 (by omega)
     rw [ea] at c0
     rw [eb] at c1
     rw [ec] at c2
     rw [ed] at c3
     simp only [Sl.v] at c0 c1 c2 c3
     have z0 := hF.out.rz 0 _ rfl
     have z1 := hF.out.rz 1 _ rfl
     have z2 := hF.out.rz 2 _ rfl
     have z3 := hF.out.rz 3 _ rfl
     simp only [Nat.zero_add] at z0 z1 z2 z3
     have f0 := (hF.out.rt 0 (by omega)).2
     have f1 := (hF.out.rt 1 (by omega)).2
     have f2 := (hF.out.rt 2 (by omega)).2
     have f3 := (hF.out.rt 3 (by omega)).2
     simp only [Nat.zero_add] at f0 f1 f2 f3
     have GS := gb_setCells (w.heap.size + 1) [.slice a.p a.n a.c, .slice b.p b.n b.c, .slice c.p c.n c.c, .slice d.p d.n d.c] 0 wr
     have AT := hidden (And.intro (at_grown aa (hF.out.rw 0 (by omega)) ea GS (by omega)) (And.intro (at_grown ab (hF.out.rw 1 (by omega)) eb GS (by omega)) (And.intro (at_grown ac (hF.out.rw 2 (by omega)) ec GS (by omega)) (at_grown ad (hF.out.rw 3 (by omega)) ed GS (by omega)))))
     have HI := hidden (And.intro (rw_hi (hF.out.rw 0 (by omega)) ea (by omega)) (And.intro (rw_hi (hF.out.rw 1 (by omega)) eb (by omega)) (And.intro (rw_hi (hF.out.rw 2 (by omega)) ec (by omega)) (rw_hi (hF.out.rw 3 (by omega)) ed (by omega)))) : a.hi w.heap.size ∧ b.hi w.heap.size ∧ c.hi w.heap.size ∧ d.hi w.heap.size)
     have BG := hidden (hF.out.bel.grown GS hF.out.bel.size (fun i hi => by have := Option.some.inj hi; omega))
     have NNN := hidden (And.intro (na.trans hN.out.1) (And.intro (nb.trans hN.out.2.1) (And.intro (nc.trans hN.out.2.2.1) (nd.trans hN.out.2.2.2))))
     clear GS hF hN ea eb ec ed na nb nc nd aa ab ac ad
     go_wp2_with (go_at_call 9; refine CV1.out.mono ?_; rintro e wx ⟨rfl, hwx⟩; have hw2 := hwx.symm; clear hwx; subst hw2)
     exact bodyPost_ret (v := .agg #[.slice a.p a.n a.c, .slice b.p b.n b.c, .slice c.p c.n c.c, .slice d.p d.n d.c]) (by simp [results, Tryd.results6, go_sem, z0, z1, z2, z3]) rfl ⟨a, b, c, d, rfl, AT.out, HI.out, NNN.out, BG.out⟩
end Ci
end Go.Proofs.YtimjfndaleccaaaDoor
