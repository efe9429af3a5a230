import Derived.Test.YtghcfcglakbkeaaGreatDoorCklz
import Derived.Laws.Strings
namespace Go.Proofs.YtghcfcglakbkeaaGreatDoor
open Go.RowKit
set_option linter.unusedVariables false
set_option linter.unusedSimpArgs false
open Cm (Wr Tm co bf Ls lf ins Eqm)
namespace Ci
set_option maxRecDepth 100000
set_option maxHeartbeats 16000000
def RqA (base : Nat) (w : World) (s m Kg : Nat) (v : Value) (vs : List Value) (Q : List (List Tm)) (X : List Tm) (w' : World) : Prop := ∃ v' u, Sy base w' s m Kg v' (vs ++ [u]) (Q ++ [X]) ∧ Fz s v w w' ∧ (∀ k, u.ownBlock = some k → w.heap.size ≤ k) ∧ ∀ k, v'.ownBlock = some k → v.ownBlock = some k ∨ w.heap.size ≤ k
theorem v4_of {w w2 : World} {o : Obj} {v4 v : Value} (hb : Below w.heap.size w w2) (h : v4.ownBlock = v.ownBlock ∨ v4.ownBlock = some (w2.alloc o).heap.size) : ∀ k, v4.ownBlock = some k → v.ownBlock = some k ∨ w.heap.size ≤ k := fun k hk => by
 rcases h with e | e
 ·rw [e] at hk; exact .inl hk
 ·rw [e] at hk
  have h9 := Option.some.inj hk
  have h8 := hb.size
  simp at h9
  exact .inr (by omega)
theorem Require_okA {base : Nat} {w : World} {s m Kg : Nat} {v : Value} {vs : List Value} {Q : List (List Tm)} (h : Sy base w s m Kg v vs Q) (hT : Tb w) (P : Option Addr) (n c : Nat) (f : Nat → Trm) (hn : n ≤ 2932031007402) (hf : ∀ k, k < n → (f k).a.ok) (hL : Lt w P n f) (hw : nm m Kg (lf Sm.L (glL n f)).length (ft (lf Sm.L (glL n f))) = true) (hq : Q.length < 4096) :
  Calls Tryz.prog 27 #[.pointer (some ⟨s, 0, none⟩), .slice P n c] w fun e w' => e = .returned (.int .i64 0) ∧ RqA base w s m Kg v vs Q (lf Sm.L (glL n f)) w' := by
 have C0 := Hn (none_any h)
 have C1 := Hn (Least_lin P n c f w hT hn hf hL)
 have XL := Hn (lf_len_le (glL n f))
 have GL : Hid ((glL n f).length = n) := Hn (by simp [glL])
 generalize lf Sm.L (glL n f) = X at *
 have C2 := Hn (fun y P' c' (hy : Below w.heap.size w y) (ho : y.ownsRow w.heap.size 123 6 (.slice P' X.length c') X.length (tls X)) => names_any (h.keep hy) P' X.length c' (ft X) (by have := XL.out; have := GL.out; omega) (own_lts ho))
 rw [hw] at C2
 have HS := Hn h
 obtain ⟨Pv, cv, hv, hlc, hpv⟩ := h.shape
 have HQ := Hn hq
 clear hT hn hf hL hw h hlc hpv hq
 go_enter Tryz.func27, Tryz.ntmps27
 go_upto_region 4 with (first | (go_at_call 44; refine C0.out.mono ?_; rintro e w0 ⟨rfl, rfl⟩) | (go_at_call 69; refine C1.out.mono ?_; rintro e w1 ⟨u, rfl, hq1⟩; have Q1 := Hn hq1; clear hq1))
 clear C0 C1
 obtain ⟨P1, c1, e1, _, _⟩ := own_shT Q1.out.1
 subst e1
 have C3 := Hn (C2.out w1 P1 c1 Q1.out.2.1 Q1.out.1)
 clear C2
 go_upto_region 6 with (first | (go_at_call 63; refine C3.out.mono ?_; rintro e w2 ⟨rfl, hb⟩; have B2 := Hn (bl_trans Q1.out.2.1 hb); have B3 := Hn hb; clear hb))
 clear C3
 have s2 := HS.out.keep B2.out
 have k2 := s2.c2
 have z2 := s2.fz 2
 have QL : Hid (Q.length ≤ 4398046510976 ∨ True) := Hn (.inr trivial)
 subst hv
 have l9 : ¬ (4096 : Int) ≤ (Q.length : Int) := by have := HQ.out; omega
 have O2 := Hn s2.row
 have HI := Hn llinfo
 have HZ0 : Hid ((Tryz.prog.info? 38).get!.zero = some (.slice none 0 0)) := Hn (by kernel_rfl)
 have HZ1 : Hid ((Tryz.prog.info? 38).get!.size = 1) := Hn (by kernel_rfl)
 have HZ2 : Hid ((Tryz.prog.info? 38).get!.bytes = 24) := Hn (by kernel_rfl)
 have T1 : Hid (Tryz.prog.underlying 25 = some (.slice 38)) := Hn (by kernel_rfl)
 have BS : Hid (base ≤ w2.heap.size) := Hn (by have := s2.lt; have := s2.bs; omega)
 have UO := Hn (own_keepT Q1.out.1 B3.out)
 have s2h := Hn s2.h
 clear s2
 generalize hnq : Q.length = nq at *
 have HNQ := Hn hnq
 generalize hxl : X.length = xl at *
 have HXL := Hn hxl
 clear hnq hxl
 go_upto_region 8 with fail
 go_wp2_with (first | (at_builtin; have x1 := own_keepT O2.out (bl_alloc w2 (.cells #[.slice P1 xl c1] 38)); have x2 := cells_newT w2 [.slice P1 xl c1] 38; have x3 : ∀ u ∈ ([.slice P1 xl c1] : List Value), u.oneCell' = true := (by simp [Value.oneCell']); have x4 : nq + 1 ≤ maxLen := (by have := HQ.out; unfold maxLen; omega); have x5 : (nq + 1) * 24 ≤ 140737488355328 := (by have := HQ.out; omega); have x6 : base ≤ (w2.alloc (.cells #[.slice P1 xl c1] 38)).heap.size := (by have := BS.out; simp; omega); refine wpList_append_own_at _ rfl _ _ 25 rfl base 38 _ _ 1 24 T1.out HI.out HZ0.out HZ1.out HZ2.out rfl (by decide) _ nq vs rfl x1 ⟨w2.heap.size, 0, none⟩ 1 1 [.slice P1 xl c1] rfl rfl x2 x3 x4 x5 x6 ?_; intro v4 w4 ho4 hg4 _ hv4; have V4 := Hn (v4_of B2.out hv4); clear hv4; obtain ⟨P4, c4, e4⟩ := own_sh1 ho4; subst e4; have O4 := Hn ho4; have G4 := Hn hg4; have k4 : w4.cell? ⟨s, 2, none⟩ = some (.slice Pv nq cv) := cell_row2 s2h.out O2.out hg4; have z4 : w4.frozen? ⟨s, 2, none⟩ = false := fz_row2 s2h.out O2.out hg4; clear ho4 hg4 x1 x2 x3 x4 x5 x6))
 refine bodyPost_ret (v := .int .i64 0) (by simp [results, Tryz.results27, go_sem]) rfl ⟨rfl, ?_⟩
 have UO2 : (w2.alloc (.cells #[.slice P1 xl c1] 38)).ownsRow 0 123 6 (.slice P1 X.length c1) X.length (tls X) := by rw [HXL.out]; exact own_monoT (own_keepT UO.out (bl_alloc _ _)) (Nat.zero_le _)
 rw [HXL.out] at UO2
 rw [HNQ.out]
 have hh := rq_more HS.out (bl_trans B2.out (bl_alloc _ _)) UO2 Q1.out.2.2 HNQ.out HXL.out O4.out G4.out
 exact ⟨.slice P4 (nq + 1) c4, _, hh.1, hh.2, fun k hk => (UO.out.lt k hk).1, V4.out⟩
section
variable {b1 b2 s t m K m2 K2 : Nat} {v v2 : Value} {vs vs2 : List Value} {Q Q2 : List (List Tm)} {x y : World}
theorem Sy.row_ne (h : Sy b1 x s m K v vs Q) (h2 : Sy b2 x t m2 K2 v2 vs2 Q2) : v2.ownBlock ≠ some s := fun e => ne_row2 h.h h2.row e.symm
theorem Sy.sum_ne (h : Sy b1 x s m K v vs Q) {u : Value} {n : Nat} {xs : List Value} (hu : x.ownsRow 0 123 6 u n xs) : u.ownBlock ≠ some s ∧ ∀ k, u.ownBlock = some k → v.ownBlock ≠ some k := by
 rcases hu.2 with ⟨e1, _⟩ | ⟨g, c, cur, e1, _, k1, _⟩
 ·rw [e1]
  exact ⟨fun e => (by cases e), fun k e => (by cases e)⟩
 ·rw [e1]
  refine ⟨fun e => ?_, fun k e => ?_⟩
  ·simp only [Value.ownBlock, Option.some.injEq] at e
   subst e
   rw [h.h] at k1
   simp only [Option.some.injEq, Obj.cells.injEq] at k1
   exact absurd k1.2.1 (by decide)
  ·simp only [Value.ownBlock, Option.some.injEq] at e
   subst e
   rcases h.row.2 with ⟨f1, _⟩ | ⟨g', c', cur', f1, _, k2, _⟩
   ·rw [f1]; intro e; cases e
   ·rw [f1]
    intro e
    simp only [Value.ownBlock, Option.some.injEq] at e
    subst e
    rw [k1] at k2
    simp only [Option.some.injEq, Obj.cells.injEq] at k2
    exact absurd k2.2.1 (by decide)
theorem own_fz {b n sz : Nat} {e : TypeId} {u : Value} {xs : List Value} (hu : x.ownsRow b e sz u n xs) (hf : Fz s v x y) (h1 : u.ownBlock ≠ some s) (h2 : ∀ k, u.ownBlock = some k → v.ownBlock ≠ some k) : y.ownsRow b e sz u n xs := ⟨hu.1, by
 rcases hu.2 with h | ⟨g, c, cur, e1, e2, e3, e4⟩
 ·exact .inl h
 ·rw [e1] at h1 h2
  exact .inr ⟨g, c, cur, e1, e2, (hf.block g (Array.getElem?_eq_some_iff.1 e3).1 (fun e => h1 (by rw [← e]; rfl)) (h2 g rfl)).trans e3, e4⟩⟩
theorem Sy.aside (h2 : Sy b2 x t m2 K2 v2 vs2 Q2) (h : Sy b1 x s m K v vs Q) (hf : Fz s v x y) (hst : t ≠ s) (hv : ∀ k, v2.ownBlock = some k → v.ownBlock ≠ some k) : Sy b2 y t m2 K2 v2 vs2 Q2 := by
 refine ⟨(hf.block t h2.lt hst (h2.row_ne h)).trans h2.h, own_fz h2.row hf (h.row_ne h2) hv, fun i X hX => ?_, h2.bs, h2.sm⟩
 obtain ⟨u, a1, a2⟩ := h2.ls i X hX
 exact ⟨u, a1, own_fz a2 hf (h.sum_ne a2).1 (h.sum_ne a2).2⟩
theorem Fz.gr (h : x.grownBy y (some s)) : Fz s v x y := ⟨h.os, h.tape, h.output, h.size, fun i hi his _ => h.block i hi (fun e => his (Option.some.inj e))⟩
end
def Tw (w0 : World) (s t m K : Nat) (Q : List (List Tm)) (x : World) : Prop := ∃ b1 v vs b2 v2 vs2, Sy b1 x s m K v vs Q ∧ Sy b2 x t m K v2 vs2 Q ∧ w0.heap.size ≤ b1 ∧ w0.heap.size ≤ b2 ∧ t ≠ s ∧ (∀ k, v2.ownBlock = some k → v.ownBlock ≠ some k) ∧ Below w0.heap.size w0 x
theorem Tw.keep {w0 x y : World} {s t m K : Nat} {Q : List (List Tm)} (h : Tw w0 s t m K Q x) (hb : Below x.heap.size x y) : Tw w0 s t m K Q y := by
 obtain ⟨b1, v, vs, b2, v2, vs2, h1, h2, h3, h4, h5, h6, h7⟩ := h
 exact ⟨b1, v, vs, b2, v2, vs2, h1.keep hb, h2.keep hb, h3, h4, h5, h6, bl_trans h7 hb⟩
end Ci
end Go.Proofs.YtghcfcglakbkeaaGreatDoor
namespace Go.Proofs.YtghcfcglakbkeaaGreatDoor
open Go.RowKit
set_option linter.unusedVariables false
set_option linter.unusedSimpArgs false
open Cm (Wr Tm co bf Ls lf ins Eqm)
namespace Ci
set_option maxRecDepth 100000
set_option maxHeartbeats 8000000
def rqE (m K : Nat) (Q : List (List Tm)) (X : List Tm) : Int := if nm m K X.length (ft X) = true then (if Q.length < 4096 then 0 else 201) else 200
def rqQ (m K : Nat) (Q : List (List Tm)) (X : List Tm) : List (List Tm) := if rqE m K Q X = 0 then Q ++ [X] else Q
def gtV (K : Nat) : Value := if K < 1024 then tup 2 K 3 K 4 K 0 else tup 0 0 0 0 0 0 201
def gtK (K : Nat) : Nat := if K < 1024 then K + 1 else K
section
variable {w0 x y : World} {m s t K1 K2 K : Nat} {Q Q1 Q2 : List (List Tm)} {X : List Tm}
theorem rq_ok (h : rqE m K Q X = 0) : nm m K X.length (ft X) = true ∧ Q.length < 4096 := by
 unfold rqE at h
 split at h
 ·split at h
  ·exact ⟨by assumption, by assumption⟩
  ·cases h
 ·cases h
theorem okY_rq (h : okY m K Q) (hX : Ls Sm.L X) (hl : X.length ≤ 2932031007402) : okY m K (rqQ m K Q X) := by
 unfold rqQ
 split
 ·rename_i e
  obtain ⟨h1, h2⟩ := rq_ok e
  refine okY_of ((wk_of h).req h1 hl h2) h.1 fun Y hY => ?_
  rcases List.mem_append.1 hY with hY | hY
  ·exact (h.2.2.2.1 Y hY).2.1
  ·rw [List.mem_singleton.1 hY]; exact hX
 ·exact h
theorem okY_gate (h : okY m K Q) : okY m (gtK K) Q := by
 unfold gtK
 split
 ·rename_i e
  exact okY_of ((wk_of h).gate e) h.1 fun Y hY => (h.2.2.2.1 Y hY).2.1
 ·exact h
theorem rq_same (h : ¬ rqE m K Q X = 0) : rqQ m K Q X = Q := by
 unfold rqQ
 rw [if_neg h]
end
end Ci
end Go.Proofs.YtghcfcglakbkeaaGreatDoor
namespace Go.Proofs.YtghcfcglakbkeaaGreatDoor
open Go.RowKit
def E4.put (o : E4) (k : Nat) (v : Int) : E4 := match k with
 | 0 => ⟨v, o.x1, o.x2, o.x3⟩
 | 1 => ⟨o.x0, v, o.x2, o.x3⟩
 | 2 => ⟨o.x0, o.x1, v, o.x3⟩
 | _ => ⟨o.x0, o.x1, o.x2, v⟩
theorem E4.put_get (o : E4) (k : Nat) (v : Int) : (o.put k v).get k = v := by
 unfold E4.put; split <;> simp_all [E4.get]
theorem E4.put_ok {o : E4} (h : o.ok) (k : Nat) {v : Int} (hv : Sm.Wd v) : (o.put k v).ok := by
 obtain ⟨h0, h1, h2, h3⟩ := h
 unfold E4.put; split
 ·exact ⟨hv, h1, h2, h3⟩
 ·exact ⟨h0, hv, h2, h3⟩
 ·exact ⟨h0, h1, hv, h3⟩
 ·exact ⟨h0, h1, h2, hv⟩
theorem E4.put_low (o : E4) (k : Nat) (v : Int) (hk : k < 4) : (o.put k v).low k = o.low k := by
 have hk4 : k = 0 ∨ k = 1 ∨ k = 2 ∨ k = 3 := by omega
 rcases hk4 with rfl | rfl | rfl | rfl <;> simp [E4.low, E4.get, E4.put]
theorem Wrt.get {w : World} {b : Nat} (h : Wrt w b) (k : Nat) (hk : k < 4) : w.frozen? ⟨b, k, none⟩ = false := by
 match k, hk with
 | 0, _ => exact h.f0
 | 1, _ => exact h.f1
 | 2, _ => exact h.f2
 | 3, _ => exact h.f3
theorem Blc.put {w : World} {b : Nat} {o : E4} (h : Blc w b o) (k : Nat) (hk : k < 4) (v : Int) : Blc (w.setCell ⟨b, k, none⟩ (.int .u64 v)) b (o.put k v) := by
 obtain ⟨h0, h1, h2, h3⟩ := h
 have hk4 : k = 0 ∨ k = 1 ∨ k = 2 ∨ k = 3 := by omega
 rcases hk4 with rfl | rfl | rfl | rfl <;> (simp only [E4.put]; constructor <;> go_simp)
theorem Blc.far1 {w : World} {b c : Nat} {o : E4} (h : Blc w b o) (hne : c ≠ b) (k : Nat) (v : Value) : Blc (w.setCell ⟨c, k, none⟩ v) b o :=
 ⟨(World.cell?_setCell_far w _ _ _ hne).trans h.c0, (World.cell?_setCell_far w _ _ _ hne).trans h.c1, (World.cell?_setCell_far w _ _ _ hne).trans h.c2, (World.cell?_setCell_far w _ _ _ hne).trans h.c3⟩
theorem Wrt.put {w : World} {b : Nat} (h : Wrt w b) (c k : Nat) (v : Value) : Wrt (w.setCell ⟨c, k, none⟩ v) b := by
 obtain ⟨h0, h1, h2, h3⟩ := h
 constructor <;> go_simp
theorem St.put {w0 : World} {L M : List (Nat × E4)} {R : List Nat} {w1 : World} {b : Nat} {o : E4} (h : St w0 L R w1) (k : Nat) (hk : k < 4) (v : Int) (hb : (b, o) ∈ L) (h0 : w0.heap.size ≤ b) (hs : ∀ p ∈ M, p ∈ L ∧ b ≠ p.1) :
  St w0 ((b, o.put k v) :: M) R (w1.setCell ⟨b, k, none⟩ (.int .u64 v)) := by
 refine ⟨fun p hp => ?_, fun c hc => ⟨(h.wrt c hc).1.put b k _, by simpa using (h.wrt c hc).2⟩, h.bel.setCell h0 _⟩
 rcases List.mem_cons.1 hp with rfl | hp
 ·exact (h.live _ hb).put k hk v
 ·exact (h.live p (hs p hp).1).far1 (hs p hp).2 k _
theorem below_math (a b : E4) (ha : a.ok) (hb : b.ok) (m : Nat) (hm : m < 4) (he : ∀ j, m < j → j < 4 → a.get j = b.get j) (hne : a.get m ≠ b.get m) : decide (a.get m < b.get m) = decide (a.n < b.n) := by
 obtain ⟨a0, a1, a2, a3⟩ := ha
 obtain ⟨b0, b1, b2, b3⟩ := hb
 unfold Sm.Wd at *
 rw [decide_eq_decide]
 have e1 := he 1
 have e2 := he 2
 have e3 := he 3
 have hm4 : m = 0 ∨ m = 1 ∨ m = 2 ∨ m = 3 := by omega
 rcases hm4 with rfl | rfl | rfl | rfl <;> simp only [E4.get, E4.n, Sm.V] at * <;> omega
theorem below_same (a b : E4) (he : ∀ j, j < 4 → a.get j = b.get j) : decide (a.n < b.n) = false := by
 have e0 := he 0 (by omega)
 have e1 := he 1 (by omega)
 have e2 := he 2 (by omega)
 have e3 := he 3 (by omega)
 simp only [E4.get] at e0 e1 e2 e3
 rw [decide_eq_false_iff_not]
 simp only [E4.n, e0, e1, e2, e3]
 omega
set_option maxRecDepth 100000 in
set_option maxHeartbeats 4000000 in
theorem rbelow_any (a b : E4) (w : World) (ha : a.ok) (hb : b.ok) :
  Calls Tryz.prog 92 #[a.v, b.v] w fun e w' => e = .returned (.bool (decide (a.n < b.n))) ∧ Below w.heap.size w w' := by
 have BM := Hn (below_math a b ha hb)
 have BS := Hn (below_same a b)
 have HA := Hn ha
 have HB := Hn hb
 have s0 := (St.start w a 52).new b 52
 simp only [World.size_alloc] at s0
 have S0 := Hn s0
 clear s0 ha hb
 simp only [E4.v]
 go_enter Tryz.func92, Tryz.ntmps92
 go_wp2_with fail
 go_loopw [5] (fun i w' => ∃ k : Nat, k ≤ 4 ∧ i = .int .i64 ((k : Int) - 1) ∧ (∀ j, k ≤ j → j < 4 → a.get j = b.get j) ∧ St w [(w.heap.size + 1, b), (w.heap.size, a)] [] w') (fun i _ => (intOf i + 1).toNat)
 case atStart => exact ⟨4, by omega, rfl, fun j h1 h2 => by omega, S0.out⟩
 case round =>
  obtain ⟨k, hk, rfl, heq, hst⟩ := hrel
  clear S0
  by_cases hk0 : k = 0
  ·subst hk0
   rw [show ((0 : Nat) : Int) - 1 = -1 from rfl]
   have BH := Hn hst.bel
   have hf := BS.out (fun j hj => heq j (by omega) hj)
   have HF := Hn hf
   clear hst heq hf
   go_wp2_with fail
   go_ret
   exact ⟨by rw [HF.out]; rfl, BH.out⟩
  ·obtain ⟨m, rfl⟩ : ∃ m, k = m + 1 := ⟨k - 1, by omega⟩
   have em : ((m + 1 : Nat) : Int) - 1 = (m : Int) := by omega
   rw [em]
   clear em hk0
   have kk0 : (0 : Int) ≤ (m : Int) := by omega
   have kk1 : (m : Int) < 4 := by omega
   have HEQ := Hn heq
   have ca := (hst.live (w.heap.size, a) (by simp)).get m (by omega)
   have cb := (hst.live (w.heap.size + 1, b) (by simp)).get m (by omega)
   have xa := E4.get_wd HA.out m
   have xb := E4.get_wd HB.out m
   unfold Sm.Wd at xa xb
   have BMm := Hn (fun h => BM.out m (by omega) (fun j h1 h2 => HEQ.out j (by omega) h2) h)
   have NE := Hn (fun (h : a.get m = b.get m) j (h1 : m ≤ j) (h2 : j < 4) => (if hj : j = m then by rw [hj]; exact h else HEQ.out j (by omega) h2 : a.get j = b.get j))
   have KS : Hid (∀ w', St w [(w.heap.size + 1, b), (w.heap.size, a)] [] w' → (fun w' => St w [(w.heap.size + 1, b), (w.heap.size, a)] [] w' ∧ w'.cell? ⟨w.heap.size, m, none⟩ = some (.int .u64 (a.get m)) ∧ w'.cell? ⟨w.heap.size + 1, m, none⟩ = some (.int .u64 (b.get m))) w') := Hn (fun w' h => ⟨h, (h.live (w.heap.size, a) (by simp)).get m (by omega), (h.live (w.heap.size + 1, b) (by simp)).get m (by omega)⟩)
   have K0 := Hn (KS.out _ hst.drew)
   have K1 := Hn (KS.out _ hst.drew.drew)
   have SD := Hn hst.drew
   clear hst heq ca cb KS
   generalize a.get m = x at *
   generalize b.get m = y at *
   by_cases hxy : x = y
   ·subst hxy
    go_upto_region 4 with fail
    go_region_held3 (fun w' => St w [(w.heap.size + 1, b), (w.heap.size, a)] [] w' ∧ w'.cell? ⟨w.heap.size, m, none⟩ = some (.int .u64 x) ∧ w'.cell? ⟨w.heap.size + 1, m, none⟩ = some (.int .u64 x)) (with_reducible exact K0.out) (fail)
    clear K0 K1
    go_wp2_with fail
    go_roundw
    case rel => exact ⟨m, by omega, by go_num, NE.out rfl, SD.out⟩
    case measure => simp [intOf]
   ·go_upto_region 4 with fail
    go_region_held3 (fun w' => St w [(w.heap.size + 1, b), (w.heap.size, a)] [] w' ∧ w'.cell? ⟨w.heap.size, m, none⟩ = some (.int .u64 x) ∧ w'.cell? ⟨w.heap.size + 1, m, none⟩ = some (.int .u64 y)) (with_reducible exact K0.out) (fail)
    go_upto_region 5 with fail
    go_region_held3 (fun w' => St w [(w.heap.size + 1, b), (w.heap.size, a)] [] w' ∧ w'.cell? ⟨w.heap.size, m, none⟩ = some (.int .u64 x) ∧ w'.cell? ⟨w.heap.size + 1, m, none⟩ = some (.int .u64 y)) (with_reducible exact K1.out) (fail)
    clear K0 K1
    go_wp2_with fail
    go_ret
    exact ⟨by rw [← BMm.out hxy]; rfl, SD.out.drew.bel⟩
end Go.Proofs.YtghcfcglakbkeaaGreatDoor
