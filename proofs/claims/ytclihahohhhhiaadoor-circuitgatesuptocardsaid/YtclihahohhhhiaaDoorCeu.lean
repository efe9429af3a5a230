import Derived.Test.YtclihahohhhhiaaDoorCet
namespace Go.Proofs.YtclihahohhhhiaaDoor
open Go.RowKit
set_option linter.unusedVariables false
set_option linter.unusedSimpArgs false
open Cm (Wr Tm co bf Ls lf ins Eqm)
namespace Ci
set_option maxRecDepth 100000
set_option maxHeartbeats 8000000
def nilF : Nat → Value := fun _ => .slice none 0 0
theorem fi_start (w : World) (l : Sl) : Fi w l 0 nilF nilF (fun _ => 0) ((((w.alloc (.cells #[.slice l.p l.n l.c] 25)).alloc (.cells #[.slice none 0 0, .slice none 0 0, .slice none 0 0, .slice none 0 0] 37)).alloc (.cells #[.int .i64 0] 3)).alloc (.cells #[.slice none 0 0, .slice none 0 0, .slice none 0 0, .slice none 0 0] 37)) := by
 have e1 : (w.alloc (.cells #[.slice l.p l.n l.c] 25)).heap.size = w.heap.size + 1 := by simp
 have e2 : ((w.alloc (.cells #[.slice l.p l.n l.c] 25)).alloc (.cells #[.slice none 0 0, .slice none 0 0, .slice none 0 0, .slice none 0 0] 37)).heap.size = w.heap.size + 2 := by simp
 have e3 : (((w.alloc (.cells #[.slice l.p l.n l.c] 25)).alloc (.cells #[.slice none 0 0, .slice none 0 0, .slice none 0 0, .slice none 0 0] 37)).alloc (.cells #[.int .i64 0] 3)).heap.size = w.heap.size + 3 := by simp
 have bA := bl_alloc w (.cells #[.slice l.p l.n l.c] 25)
 have bB := bl_alloc (w.alloc (.cells #[.slice l.p l.n l.c] 25)) (.cells #[.slice none 0 0, .slice none 0 0, .slice none 0 0, .slice none 0 0] 37)
 have bC := bl_alloc ((w.alloc (.cells #[.slice l.p l.n l.c] 25)).alloc (.cells #[.slice none 0 0, .slice none 0 0, .slice none 0 0, .slice none 0 0] 37)) (.cells #[.int .i64 0] 3)
 have bD := bl_alloc (((w.alloc (.cells #[.slice l.p l.n l.c] 25)).alloc (.cells #[.slice none 0 0, .slice none 0 0, .slice none 0 0, .slice none 0 0] 37)).alloc (.cells #[.int .i64 0] 3)) (.cells #[.slice none 0 0, .slice none 0 0, .slice none 0 0, .slice none 0 0] 37)
 have rb := range_newM (w.alloc (.cells #[.slice l.p l.n l.c] 25)) [.slice none 0 0, .slice none 0 0, .slice none 0 0, .slice none 0 0] 37
 have tb := there_newM (w.alloc (.cells #[.slice l.p l.n l.c] 25)) [.slice none 0 0, .slice none 0 0, .slice none 0 0, .slice none 0 0] 37
 rw [e1] at rb tb
 have rd := range_newM (((w.alloc (.cells #[.slice l.p l.n l.c] 25)).alloc (.cells #[.slice none 0 0, .slice none 0 0, .slice none 0 0, .slice none 0 0] 37)).alloc (.cells #[.int .i64 0] 3)) [.slice none 0 0, .slice none 0 0, .slice none 0 0, .slice none 0 0] 37
 have td := there_newM (((w.alloc (.cells #[.slice l.p l.n l.c] 25)).alloc (.cells #[.slice none 0 0, .slice none 0 0, .slice none 0 0, .slice none 0 0] 37)).alloc (.cells #[.int .i64 0] 3)) [.slice none 0 0, .slice none 0 0, .slice none 0 0, .slice none 0 0] 37
 rw [e3] at rd td
 have ra := range_newM w [.slice l.p l.n l.c] 25
 have rc := range_newM ((w.alloc (.cells #[.slice l.p l.n l.c] 25)).alloc (.cells #[.slice none 0 0, .slice none 0 0, .slice none 0 0, .slice none 0 0] 37)) [.int .i64 0] 3
 have tc := there_newM ((w.alloc (.cells #[.slice l.p l.n l.c] 25)).alloc (.cells #[.slice none 0 0, .slice none 0 0, .slice none 0 0, .slice none 0 0] 37)) [.int .i64 0] 3
 rw [e2] at rc tc
 refine ⟨bl_trans (bl_trans (bl_trans bA bB) bC) bD, cell_keep (cell_keep (cell_keep (ra 0 _ rfl) bB) bC) bD, range_bl (range_bl rb bC) bD, there_bl (there_bl tb bC) bD, cell_keep (rc 0 _ rfl) bD, ?_, fun i hi => ?_, td, fun i hi => Rw.none _ _, fun i j _ _ _ k hk => (by have h0 : (none : Option Nat) = some k := hk; cases h0), (by simp)⟩
 ·have := (there_bl tc bD 0 (by simp)).2
  exact this
 ·match i, hi with
  | 0, _ => exact rd 0 _ rfl
  | 1, _ => exact rd 1 _ rfl
  | 2, _ => exact rd 2 _ rfl
  | 3, _ => exact rd 3 _ rfl
def Sl.hi (s : Sl) (b0 : Nat) : Prop := ∀ b o, 0 < s.n → s.p = some ⟨b, o, none⟩ → b0 ≤ b
theorem rw_hi {s : Sl} {x : World} {b0 b1 n : Nat} {v : Value} (hr : Rw x b0 v n) (ev : v = s.v) (hle : b1 ≤ b0) : s.hi b1 := by
 intro b o hn e
 obtain ⟨g, ho, _⟩ := hr
 have := (ho.lt b (by rw [ev]; unfold Sl.v; rw [e]; rfl)).1
 omega
theorem at_grown {s : Sl} {x y : World} {r b0 n : Nat} {v : Value} (h : s.at x) (hr : Rw x b0 v n) (ev : v = s.v) (hg : x.grownBy y (some r)) (hlt : r < b0) : s.at y := ⟨by
 obtain ⟨b, o, h1, h2⟩ := h.at'
 refine ⟨b, o, h1, fun hn => ?_⟩
 have e := h1 hn
 have hb : b0 ≤ b := by
  obtain ⟨g, ho, _⟩ := hr
  exact (ho.lt b (by rw [ev]; unfold Sl.v; rw [e]; rfl)).1
 have h4 := h2 hn
 exact ⟨fun k hk => gcell hg (h4.c0 k hk) (by omega), fun k hk => gcell hg (h4.c1 k hk) (by omega), fun k hk => gcell hg (h4.c2 k hk) (by omega), fun k hk => gcell hg (h4.c3 k hk) (by omega)⟩, h.ok⟩
theorem tsGates {w : World} {t m K : Nat} {Q : List (List Tm)} {x : World} (h : Ts w t m K Q x) : Calls Tryd.prog 36 #[.pointer (some ⟨t, 0, none⟩)] x fun e w' => e = .returned (.int .i64 (K : Int)) ∧ w' = x := by
 obtain ⟨base, v, vs, sy, hb, bl, wk⟩ := h
 exact Gates_any sy
theorem tsValues {w : World} {t m K : Nat} {Q : List (List Tm)} {x : World} (h : Ts w t m K Q x) : Calls Tryd.prog 19 #[.pointer (some ⟨t, 0, none⟩)] x fun e w' => e = .returned (.int .i64 (m : Int)) ∧ w' = x := by
 obtain ⟨base, v, vs, sy, hb, bl, wk⟩ := h
 exact Values_any sy
end Ci
end Go.Proofs.YtclihahohhhhiaaDoor
