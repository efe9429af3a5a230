import Derived.Test.YthngomhhafoamaaGreatDoorGz
import Derived.Test.YthngomhhafoamaaGreatDoorPy
import Derived.Test.YthngomhhafoamaaGreatDoorWrb
set_option linter.unusedVariables false
set_option linter.unusedSimpArgs false
set_option maxRecDepth 100000
set_option maxHeartbeats 8000000
namespace Go.Proofs.YthngomhhafoamaaGreatDoor
open Go.RowKit
theorem toldS_short (P : Option Addr) (c X : Nat) (bs : List UInt8) (w : World) (h32 : bs.length < 32) :
  Calls Tryz.prog 110 #[.slice P bs.length c, .pointer (some ⟨X, 0, none⟩)] w fun e w' => e = .returned (.tuple #[zero4.v, .int .i64 0, .int .i64 100]) ∧ Below w.heap.size w w' := by
 have n0 : (bs.length : Int) < 32 := by omega
 have B0 := Hn (bl_alloc w (.cells #[.int .u64 0, .int .u64 0, .int .u64 0, .int .u64 0] 35))
 have UT : Hid (Tryz.prog.underlying 35 = _) := Hn Tryz.underlying35
 clear h32
 go_enter Tryz.func110, Tryz.ntmps110
 go_wp2_with fail
 refine bodyPost_ret (v := .tuple #[.agg #[.int .u64 0, .int .u64 0, .int .u64 0, .int .u64 0], .int .i64 0, .int .i64 100]) (by simp [results, Tryz.results110, go_sem]) rfl ⟨rfl, B0.out⟩
theorem readS_short {w : World} {g c X : Nat} {P : Option Addr} {bs : List UInt8} (h : Tr.Rd w g P c bs 0) (h32 : bs.length < 32) :
  Calls Tryz.prog 109 #[.pointer (some ⟨g, 0, none⟩), .func (.func 110) #[] #[.pointer (some ⟨X, 0, none⟩)]] w fun e w' => e = .returned (.agg #[.int .u64 0, .int .u64 0, .int .u64 0, .int .u64 0]) ∧ Tr.Rd w' g P c bs 100 ∧ Tr.Kp g w w' := by
 have M0 := ((Mw.start w).new [.int .u64 0, .int .u64 0, .int .u64 0, .int .u64 0] 35).new [.int .u64 0, .int .u64 0, .int .u64 0, .int .u64 0] 35
 simp only [World.size_alloc] at M0
 have R0 := h.keep M0.bel
 have E := Hn (Tr.err_any R0)
 have T := Hn (fun y => toldS_short P c X bs y h32)
 have GL := Hn h.glt
 have BF := Hn h.fr
 have x0 := R0.c0
 have RR := Hn R0
 have MM := Hn M0
 generalize zero4 = z at T
 generalize hW : (w.alloc (.cells #[.int .u64 0, .int .u64 0, .int .u64 0, .int .u64 0] 35)).alloc (.cells #[.int .u64 0, .int .u64 0, .int .u64 0, .int .u64 0] 35) = W at T E RR MM x0
 clear h M0 R0 h32
 unfold E4.v at T
 have GO : ∀ wa, Below W.heap.size W wa → Mw w [(w.heap.size + 1, [.int .u64 0, .int .u64 0, .int .u64 0, .int .u64 0]), (w.heap.size, [.int .u64 0, .int .u64 0, .int .u64 0, .int .u64 0])] wa →
   Tr.Rd (((wa.alloc (.cells #[.int .u64 z.x0, .int .u64 z.x1, .int .u64 z.x2, .int .u64 z.x3] 35)).setCell ⟨g, 1, none⟩ (.int .i64 100)).setCells w.heap.size 0 [.int .u64 0, .int .u64 0, .int .u64 0, .int .u64 0]) g P c bs 100 ∧ Tr.Kp g w (((wa.alloc (.cells #[.int .u64 z.x0, .int .u64 z.x1, .int .u64 z.x2, .int .u64 z.x3] 35)).setCell ⟨g, 1, none⟩ (.int .i64 100)).setCells w.heap.size 0 [.int .u64 0, .int .u64 0, .int .u64 0, .int .u64 0]) ∧
   ((wa.alloc (.cells #[.int .u64 z.x0, .int .u64 z.x1, .int .u64 z.x2, .int .u64 z.x3] 35)).setCell ⟨g, 1, none⟩ (.int .i64 100)).there w.heap.size 0 ([.int .u64 0, .int .u64 0, .int .u64 0, .int .u64 0] : List Value).toArray.size ∧ (((wa.alloc (.cells #[.int .u64 z.x0, .int .u64 z.x1, .int .u64 z.x2, .int .u64 z.x3] 35)).setCell ⟨g, 1, none⟩ (.int .i64 100)).setCells w.heap.size 0 [.int .u64 0, .int .u64 0, .int .u64 0, .int .u64 0]).rangeAt w.heap.size 0 [.int .u64 0, .int .u64 0, .int .u64 0, .int .u64 0] ∧ ((wa.alloc (.cells #[.int .u64 z.x0, .int .u64 z.x1, .int .u64 z.x2, .int .u64 z.x3] 35)).setCell ⟨g, 1, none⟩ (.int .i64 100)).rangeAt (w.heap.size + 1) 0 [.int .u64 0, .int .u64 0, .int .u64 0, .int .u64 0] := by
  intro wa hwa MA
  have hl := GL.out
  have R1 := (RR.out.keep hwa).keep (Tr.bl_alloc wa (.cells #[.int .u64 z.x0, .int .u64 z.x1, .int .u64 z.x2, .int .u64 z.x3] 35))
  have R2 := R1.fail 100
  have K1 : Tr.Kp g w (wa.alloc (.cells #[.int .u64 z.x0, .int .u64 z.x1, .int .u64 z.x2, .int .u64 z.x3] 35)) := Tr.Kp.of (Tr.bl_trans MA.bel (Tr.bl_alloc wa _))
  have KS := Tr.Kp.grown (Tr.grown_set (wa.alloc (.cells #[.int .u64 z.x0, .int .u64 z.x1, .int .u64 z.x2, .int .u64 z.x3] 35)) g 1 (.int .i64 100))
  have KT := kp_setCells w.heap.size [.int .u64 0, .int .u64 0, .int .u64 0, .int .u64 0] 0 ((wa.alloc (.cells #[.int .u64 z.x0, .int .u64 z.x1, .int .u64 z.x2, .int .u64 z.x3] 35)).setCell ⟨g, 1, none⟩ (.int .i64 100))
  have t0 := (MA.r (w.heap.size, [.int .u64 0, .int .u64 0, .int .u64 0, .int .u64 0]) (by simp)).2.1
  have t1 := there_kp (there_keepM t0 (Tr.bl_alloc wa (.cells #[.int .u64 z.x0, .int .u64 z.x1, .int .u64 z.x2, .int .u64 z.x3] 35))) KS (by simp only; omega)
  exact ⟨rd_kp R2 KT (by omega) (fun a ha => by have := (BF.out a ha).2; omega), kp_new (K1.trans KS) KT (Nat.le_refl _), by simpa using t1, World.rangeAt_setCells_same _ w.heap.size 0 _ t1, range_kp (range_keepM (MA.r (w.heap.size + 1, [.int .u64 0, .int .u64 0, .int .u64 0, .int .u64 0]) (by simp)).1 (Tr.bl_alloc wa (.cells #[.int .u64 z.x0, .int .u64 z.x1, .int .u64 z.x2, .int .u64 z.x3] 35))) KS (by first | omega | (simp only; omega))⟩
 have HQ := Hn GO
 have I4 := Hn (i4aS zero4)
 have O4 := Hn (c4_one zero4)
 have I5 := Hn (i4S zero4)
 have UT : Hid (Tryz.prog.underlying 35 = _) := Hn Tryz.underlying35
 clear GO
 go_enter Tryz.func109, Tryz.ntmps109
 go_wp2_with (first | (go_at_call 72; refine E.out.mono ?_; rintro r w2 ⟨rfl, rfl⟩; clear E) | (go_at_call 110; refine (T.out _).mono ?_; rintro r wa ⟨rfl, ha⟩; have MA := Hn (MM.out.keep ha); have HA := Hn (HQ.out wa ha MA.out); have FA := Hn (Tr.fail_any ((RR.out.keep ha).keep (Tr.bl_alloc wa (.cells #[.int .u64 z.x0, .int .u64 z.x1, .int .u64 z.x2, .int .u64 z.x3] 35))) 100); have LD := Hn (run_loadVar_mid _ w.heap.size 0 35 [.int .u64 0, .int .u64 0, .int .u64 0, .int .u64 0] _ HA.out.2.2.2.1 UT.out rfl I5.out); clear T x0 ha MM RR HQ hW) | (go_at_call 76; refine FA.out.mono ?_; rintro r w3 ⟨rfl, rfl⟩; clear FA) | refine wpList_load_mid rfl 35 _ rfl (w.heap.size + 1) 0 (by rfl) [.int .u64 0, .int .u64 0, .int .u64 0, .int .u64 0] _ HA.out.2.2.2.2 UT.out rfl I5.out ?_ | refine wpList_storeL rfl 35 _ _ rfl rfl w.heap.size 0 [.int .u64 0, .int .u64 0, .int .u64 0, .int .u64 0] (by rfl) (by rfl) HA.out.2.2.1 I4.out O4.out ?_)
 refine bodyPost_ret (v := .agg [.int .u64 0, .int .u64 0, .int .u64 0, .int .u64 0].toArray) (results_cellM Tryz.results109 _ _ _ _ _ (by rfl) LD.out) rfl ⟨rfl, HA.out.1, HA.out.2.1⟩
def nd2 (bs : List UInt8) (e : Int) : E4 := if e = 0 ∧ bs.length < 32 then zero4 else nd bs e
def nb2 (bs : List UInt8) (e : Int) : List UInt8 := if e = 0 ∧ bs.length < 32 then bs else nb bs e
def ne2 (bs : List UInt8) (e : Int) : Int := if e = 0 ∧ bs.length < 32 then 100 else ne bs e
theorem readS2 {w : World} {g q X : Nat} {bs : List UInt8} {e : Int} (hT : Tb w) (h : Rb w g q bs e) (hX : w.cell? ⟨X, 0, none⟩ = some fvS) :
  Calls Tryz.prog 109 #[.pointer (some ⟨g, 0, none⟩), .func (.func 110) #[] #[.pointer (some ⟨X, 0, none⟩)]] w fun r w' => r = .returned (nd2 bs e).v ∧ Rb w' g q (nb2 bs e) (ne2 bs e) ∧ Tr.Kp g w w' := by
 unfold nd2 nb2 ne2
 by_cases hs : e = 0 ∧ bs.length < 32
 ·rw [if_pos hs, if_pos hs, if_pos hs]
  obtain ⟨rfl, h32⟩ := hs
  obtain ⟨P, c, hR, hq⟩ := h
  exact (readS_short hR h32).mono fun r w' ⟨h1, h2, h3⟩ => ⟨h1, ⟨P, c, h2, hq⟩, h3⟩
 ·rw [if_neg hs, if_neg hs, if_neg hs]
  exact readS hT h (fun he => by omega) hX
theorem decodedS2 {w : World} {g q : Nat} {bs : List UInt8} {e : Int} (hT : Tb w) (h : Rb w g q bs e) (hq : q < w.heap.size) :
  Calls Tryz.prog 96 #[.pointer (some ⟨g, 0, none⟩), .func (.func 97) #[] #[]] w fun r w' => r = .returned (nd2 bs e).v ∧ Rb w' g q (nb2 bs e) (ne2 bs e) ∧ Tr.Kp g w w' := by
 have M0 := ((Mw.start w).new [.func (.func 97) #[] #[]] 132).new [.int .u64 0, .int .u64 0, .int .u64 0, .int .u64 0] 35
 simp only [World.size_alloc] at M0
 have R := Hn (readS2 (X := w.heap.size) (hT.keep M0.bel) (h.keep M0.bel) ((M0.r (w.heap.size, [.func (.func 97) #[] #[]]) (by simp)).1 0 _ rfl))
 have hmf : ∀ (fn : Fn) (first cap : Array Value) (w : World), (Instr.makeFunc fn first cap).run Tryz.prog w = .ok (.func fn first cap) w := fun _ _ _ _ => rfl
 have GL := Hn h.glt
 have HQ := Hn hq
 have MM := Hn M0
 generalize hz : nd2 bs e = z at R ⊢
 generalize nb2 bs e = bs' at R ⊢
 generalize ne2 bs e = e' at R ⊢
 clear hz h hT M0 hq
 unfold E4.v at R ⊢
 generalize hW : (w.alloc (.cells #[.func (.func 97) #[] #[]] 132)).alloc (.cells #[.int .u64 0, .int .u64 0, .int .u64 0, .int .u64 0] 35) = W at R MM
 have GO : Hid (∀ wr, Rb wr g q bs' e' → Tr.Kp g W wr → wr.there (w.heap.size + 1) 0 ([.int .u64 z.x0, .int .u64 z.x1, .int .u64 z.x2, .int .u64 z.x3] : List Value).toArray.size ∧ (wr.setCells (w.heap.size + 1) 0 [.int .u64 z.x0, .int .u64 z.x1, .int .u64 z.x2, .int .u64 z.x3]).rangeAt (w.heap.size + 1) 0 [.int .u64 z.x0, .int .u64 z.x1, .int .u64 z.x2, .int .u64 z.x3] ∧ Rb (wr.setCells (w.heap.size + 1) 0 [.int .u64 z.x0, .int .u64 z.x1, .int .u64 z.x2, .int .u64 z.x3]) g q bs' e' ∧ Tr.Kp g w (wr.setCells (w.heap.size + 1) 0 [.int .u64 z.x0, .int .u64 z.x1, .int .u64 z.x2, .int .u64 z.x3])) := Hn (fun wr hr hk => by
  have := GL.out
  have := HQ.out
  have t0 := (MM.out.r (w.heap.size + 1, [.int .u64 0, .int .u64 0, .int .u64 0, .int .u64 0]) (by simp)).2.1
  have t1 := there_kp t0 hk (by simp only; omega)
  have KT := kp_setCells (w.heap.size + 1) [.int .u64 z.x0, .int .u64 z.x1, .int .u64 z.x2, .int .u64 z.x3] 0 wr
  exact ⟨t1, World.rangeAt_setCells_same _ (w.heap.size + 1) 0 _ t1, hr.kp KT (by omega) (by omega), kp_new ((Tr.Kp.of MM.out.bel).trans hk) KT (by omega)⟩)
 have I4 := Hn (i4aS z)
 have O4 := Hn (c4_one z)
 have I5 := Hn (i4S z)
 have UT : Hid (Tryz.prog.underlying 35 = _) := Hn Tryz.underlying35
 clear MM
 go_enter Tryz.func96, Tryz.ntmps96
 go_wp2_with (first | (go_at_call 109; refine R.out.mono ?_; rintro r wr ⟨rfl, hr, hk⟩; have HA := Hn (GO.out wr hr hk); have LD := Hn (run_loadVar_mid _ (w.heap.size + 1) 0 35 [.int .u64 z.x0, .int .u64 z.x1, .int .u64 z.x2, .int .u64 z.x3] _ HA.out.2.1 UT.out rfl I5.out); clear R GO hr hk hW) | refine wpList_storeL rfl 35 _ _ rfl rfl (w.heap.size + 1) 0 [.int .u64 z.x0, .int .u64 z.x1, .int .u64 z.x2, .int .u64 z.x3] (by rfl) (by rfl) HA.out.1 I4.out O4.out ?_)
 refine bodyPost_ret (v := .agg [.int .u64 z.x0, .int .u64 z.x1, .int .u64 z.x2, .int .u64 z.x3].toArray) (results_cellM Tryz.results96 _ _ _ _ _ (by rfl) LD.out) rfl ⟨rfl, HA.out.2.2.1, HA.out.2.2.2⟩
theorem nextS2 {w : World} {g q : Nat} {bs : List UInt8} {e : Int} (hT : Tb w) (h : Rb w g q bs e) (hq : q < w.heap.size) :
  Calls Tryz.prog 89 #[.pointer (some ⟨g, 0, none⟩)] w fun r w' => r = .returned (nd2 bs e).v ∧ Rb w' g q (nb2 bs e) (ne2 bs e) ∧ Tr.Kp g w w' := by
 have M0 := (Mw.start w).new [.int .u64 0, .int .u64 0, .int .u64 0, .int .u64 0] 35
 skip
 have R := Hn (decodedS2 (hT.keep M0.bel) (h.keep M0.bel) (Nat.lt_of_lt_of_le hq M0.bel.size))
 have hmf : ∀ (fn : Fn) (first cap : Array Value) (w : World), (Instr.makeFunc fn first cap).run Tryz.prog w = .ok (.func fn first cap) w := fun _ _ _ _ => rfl
 have GL := Hn h.glt
 have HQ := Hn hq
 have MM := Hn M0
 generalize hz : nd2 bs e = z at R ⊢
 generalize nb2 bs e = bs' at R ⊢
 generalize ne2 bs e = e' at R ⊢
 clear hz h hT M0 hq
 unfold E4.v at R ⊢
 have GO : Hid (∀ wr, Rb wr g q bs' e' → Tr.Kp g ((w.alloc (.cells #[.int .u64 0, .int .u64 0, .int .u64 0, .int .u64 0] 35))) wr → wr.there w.heap.size 0 ([.int .u64 z.x0, .int .u64 z.x1, .int .u64 z.x2, .int .u64 z.x3] : List Value).toArray.size ∧ (wr.setCells w.heap.size 0 [.int .u64 z.x0, .int .u64 z.x1, .int .u64 z.x2, .int .u64 z.x3]).rangeAt w.heap.size 0 [.int .u64 z.x0, .int .u64 z.x1, .int .u64 z.x2, .int .u64 z.x3] ∧ Rb (wr.setCells w.heap.size 0 [.int .u64 z.x0, .int .u64 z.x1, .int .u64 z.x2, .int .u64 z.x3]) g q bs' e' ∧ Tr.Kp g w (wr.setCells w.heap.size 0 [.int .u64 z.x0, .int .u64 z.x1, .int .u64 z.x2, .int .u64 z.x3])) := Hn (fun wr hr hk => by
  have := GL.out
  have := HQ.out
  have t0 := (MM.out.r (w.heap.size, [.int .u64 0, .int .u64 0, .int .u64 0, .int .u64 0]) (by simp)).2.1
  have t1 := there_kp t0 hk (by simp only; omega)
  have KT := kp_setCells w.heap.size [.int .u64 z.x0, .int .u64 z.x1, .int .u64 z.x2, .int .u64 z.x3] 0 wr
  exact ⟨t1, World.rangeAt_setCells_same _ w.heap.size 0 _ t1, hr.kp KT (by omega) (by omega), kp_new ((Tr.Kp.of MM.out.bel).trans hk) KT (by omega)⟩)
 have I4 := Hn (i4aS z)
 have O4 := Hn (c4_one z)
 have I5 := Hn (i4S z)
 have UT : Hid (Tryz.prog.underlying 35 = _) := Hn Tryz.underlying35
 clear MM
 go_enter Tryz.func89, Tryz.ntmps89
 go_wp2_with (first | (go_at_call 96; refine R.out.mono ?_; rintro r wr ⟨rfl, hr, hk⟩; have HA := Hn (GO.out wr hr hk); have LD := Hn (run_loadVar_mid _ w.heap.size 0 35 [.int .u64 z.x0, .int .u64 z.x1, .int .u64 z.x2, .int .u64 z.x3] _ HA.out.2.1 UT.out rfl I5.out); clear R GO hr hk) | refine wpList_storeL rfl 35 _ _ rfl rfl w.heap.size 0 [.int .u64 z.x0, .int .u64 z.x1, .int .u64 z.x2, .int .u64 z.x3] (by rfl) (by rfl) HA.out.1 I4.out O4.out ?_)
 refine bodyPost_ret (v := .agg [.int .u64 z.x0, .int .u64 z.x1, .int .u64 z.x2, .int .u64 z.x3].toArray) (results_cellM Tryz.results89 _ _ _ _ _ (by rfl) LD.out) rfl ⟨rfl, HA.out.2.2.1, HA.out.2.2.2⟩
def nn (most : Nat) (bs : List UInt8) (e : Int) : Nat := if e = 0 then (Tr.nm bs most).1 else 0
def nnb (most : Nat) (bs : List UInt8) (e : Int) : List UInt8 := if e = 0 then bs.drop (Tr.nm bs most).2.1 else bs
def nne (most : Nat) (bs : List UInt8) (e : Int) : Int := if e = 0 then ((Tr.nm bs most).2.2 : Int) else e
theorem Number_s {w : World} {g q : Nat} {bs : List UInt8} {e : Int} (most : Nat) (h : Rb w g q bs e) (hl : bs.length ≤ 2 ^ 62) :
  Calls Tryz.prog 43 #[.pointer (some ⟨g, 0, none⟩), .int .u64 (most : Int)] w fun r w' => r = .returned (.int .u64 (nn most bs e : Int)) ∧ Rb w' g q (nnb most bs e) (nne most bs e) ∧ Tr.Kp g w w' := by
 obtain ⟨P, c, hR, hq⟩ := h
 unfold nn nnb nne
 by_cases he : e = 0
 ·subst he
  rw [if_pos rfl, if_pos rfl, if_pos rfl]
  exact (Tr.Number_b most hR hl).mono fun r w' ⟨P', c', h1, h2, h3, h4⟩ => ⟨h1, ⟨P', c', h2, fun a ha => by obtain ⟨a2, k1, k2⟩ := h4 a ha; exact k2.trans (hq a2 k1)⟩, h3⟩
 ·rw [if_neg he, if_neg he, if_neg he]
  exact (Tr.Number_no most hR he).mono fun r w' ⟨h1, h2⟩ => ⟨h1, ⟨P, c, hR.keep h2, hq⟩, Tr.Kp.of h2⟩
theorem nnb_len (most : Nat) (bs : List UInt8) (e : Int) : (nnb most bs e).length ≤ bs.length := by unfold nnb; split <;> simp
theorem nb2_len (bs : List UInt8) (e : Int) : (nb2 bs e).length ≤ bs.length := by unfold nb2 nb; split <;> (try split) <;> simp
end Go.Proofs.YthngomhhafoamaaGreatDoor
