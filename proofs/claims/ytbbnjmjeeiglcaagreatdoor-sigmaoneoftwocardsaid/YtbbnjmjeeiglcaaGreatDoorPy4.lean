import Derived.Test.YtbbnjmjeeiglcaaGreatDoorPy3
set_option maxRecDepth 100000
set_option maxHeartbeats 32000000
set_option linter.unusedVariables false
set_option linter.unusedSimpArgs false
namespace Go.Proofs.YtbbnjmjeeiglcaaGreatDoor
namespace Sg
open Go.RowKit
def Gk (W : World) (D i : Nat) (f : Nat → E4) (x : World) : Prop := W.grownBy x (some D) ∧ ∀ j, j < i → x.rangeAt D (j * 4) (q4 (f j))
section
variable {W : World} {D i : Nat} {f : Nat → E4} {x x' : World}
theorem Gk.start (hd : ∀ j, j < i → W.rangeAt D (j * 4) (q4 (f j))) : Gk W D i f W.drew := ⟨gbI (bl_drew W) _, fun j hj => range_bl (hd j hj) (bl_drew W)⟩
theorem Gk.call (h : Gk W D i f x) (hb : Below x.heap.size x x') : Gk W D i f x' := ⟨h.1.trans (gbI hb _), fun j hj => range_bl (h.2 j hj) hb⟩
theorem Gk.sto (h : Gk W D i f x) (r : E4) : Gk W D i f (x.setCells D (i * 4) [.int .u64 r.x0, .int .u64 r.x1, .int .u64 r.x2, .int .u64 r.x3]) := ⟨h.1.trans (gb_setCells D [.int .u64 r.x0, .int .u64 r.x1, .int .u64 r.x2, .int .u64 r.x3] (i * 4) _), fun j hj => World.rangeAt_setCells_apart (h.2 j hj) _ _ _ (.inr (by simp [q4]; omega))⟩
end
theorem anR (Q : Exit → Act → World → Prop) (A D T5 T10 cA rr i : Nat) (f : Nat → E4) (a ch x u r : E4) (u1 u2 u3 u4 u6 u7 u11 u12 u13 u14 u15 u16 u17 u18 u19 u20 u21 u22 u23 u24 u25 u26 u27 u28 u29 u30 u31 u32 u33 u34 u35 u36 u37 u38 : Value) (W : World)
  (i0 : (0 : Int) ≤ (i : Int)) (i1 : (i : Int) < (rr : Int)) (hd : ∀ j, j < i → W.rangeAt D (j * 4) (q4 (f j))) (neA : A ≠ D) (ne5 : T5 ≠ D) (neX : T10 ≠ D) (th : W.there D 0 (rr * 4)) (ca0 : W.cell? ⟨A, i * 4, none⟩ = some (.int .u64 a.x0)) (ca1 : W.cell? ⟨A, i * 4 + 1, none⟩ = some (.int .u64 a.x1)) (ca2 : W.cell? ⟨A, i * 4 + 2, none⟩ = some (.int .u64 a.x2)) (ca3 : W.cell? ⟨A, i * 4 + 3, none⟩ = some (.int .u64 a.x3)) (cc0 : W.cell? ⟨T5, 0, none⟩ = some (.int .u64 ch.x0)) (cc1 : W.cell? ⟨T5, 1, none⟩ = some (.int .u64 ch.x1)) (cc2 : W.cell? ⟨T5, 2, none⟩ = some (.int .u64 ch.x2)) (cc3 : W.cell? ⟨T5, 3, none⟩ = some (.int .u64 ch.x3)) (cx0 : W.cell? ⟨T10, 0, none⟩ = some (.int .u64 x.x0)) (cx1 : W.cell? ⟨T10, 1, none⟩ = some (.int .u64 x.x1)) (cx2 : W.cell? ⟨T10, 2, none⟩ = some (.int .u64 x.x2)) (cx3 : W.cell? ⟨T10, 3, none⟩ = some (.int .u64 x.x3))
  (C8 : Hid (∀ y, W.grownBy y (some D) → Calls Tryz.prog 17 #[.agg #[.int .u64 ch.x0, .int .u64 ch.x1, .int .u64 ch.x2, .int .u64 ch.x3], .agg #[.int .u64 x.x0, .int .u64 x.x1, .int .u64 x.x2, .int .u64 x.x3]] y fun e w' => e = .returned (.agg #[.int .u64 u.x0, .int .u64 u.x1, .int .u64 u.x2, .int .u64 u.x3]) ∧ Below y.heap.size y w'))
  (C9 : Hid (∀ y, W.grownBy y (some D) → Calls Tryz.prog 13 #[.agg #[.int .u64 a.x0, .int .u64 a.x1, .int .u64 a.x2, .int .u64 a.x3], .agg #[.int .u64 u.x0, .int .u64 u.x1, .int .u64 u.x2, .int .u64 u.x3]] y fun e w' => e = .returned (.agg #[.int .u64 r.x0, .int .u64 r.x1, .int .u64 r.x2, .int .u64 r.x3]) ∧ Below y.heap.size y w'))
  (HQ : Hid (∀ (wz : World), (∃ wy, Gk W D i f wy ∧ wy.there D 0 (rr * 4) ∧ wz = wy.setCells D (i * 4) [.int .u64 r.x0, .int .u64 r.x1, .int .u64 r.x2, .int .u64 r.x3]) → Q .normal ⟨#[.slice (some ⟨A, 0, none⟩) rr cA, u1, u2, u3, u4, .pointer (some ⟨T5, 0, none⟩), u6, u7, .slice (some ⟨D, 0, none⟩) rr rr, .int .i64 (i : Int), .pointer (some ⟨T10, 0, none⟩), u11, u12, u13, u14, u15, u16, u17, u18, u19, u20, u21, u22, u23, u24, u25, .slice (some ⟨D, 0, none⟩) rr rr, .int .i64 (i : Int), .slice (some ⟨A, 0, none⟩) rr cA, .int .i64 (i : Int), .pointer (some ⟨A, i * 4, none⟩), .agg #[.int .u64 a.x0, .int .u64 a.x1, .int .u64 a.x2, .int .u64 a.x3], .agg #[.int .u64 ch.x0, .int .u64 ch.x1, .int .u64 ch.x2, .int .u64 ch.x3], .agg #[.int .u64 x.x0, .int .u64 x.x1, .int .u64 x.x2, .int .u64 x.x3], .agg #[.int .u64 u.x0, .int .u64 u.x1, .int .u64 u.x2, .int .u64 u.x3], .agg #[.int .u64 r.x0, .int .u64 r.x1, .int .u64 r.x2, .int .u64 r.x3], .pointer (some ⟨D, i * 4, none⟩), u37, u38], []⟩ wz)) : (Code.region 7 Li.an7o true).wp Tryz.prog Q ⟨#[.slice (some ⟨A, 0, none⟩) rr cA, u1, u2, u3, u4, .pointer (some ⟨T5, 0, none⟩), u6, u7, .slice (some ⟨D, 0, none⟩) rr rr, .int .i64 (i : Int), .pointer (some ⟨T10, 0, none⟩), u11, u12, u13, u14, u15, u16, u17, u18, u19, u20, u21, u22, u23, u24, u25, u26, u27, u28, u29, u30, u31, u32, u33, u34, u35, u36, u37, u38], []⟩ W := by
 have TH := hidden (Li.there_bl th (bl_drew W))
 clear th
 unfold Li.an7o
 refine wp_region_noPanic ?_
 refine wp_region_held_drew (S := fun x => Gk W D i f x) (by kernel_rfl) (Gk.start hd) (fun hH0 => ?_)
 refine wpAnyH_take (i := 0) (oi := { dst := some 26, op := Op.move (Operand.tmp 8), type := 23, pos := "sigma.go:45", after := #[], guard := none }) (v := .slice (some ⟨D, 0, none⟩) rr rr) rfl (by kernel_rfl) (by kernel_rfl) (by kernel_rfl) (fun _ _ _ h => h) (Or.inl ⟨by rfl, fun w0 hSw => ?_⟩) hH0 ?_
 ·(clear hSw; go_simp)
 simp only [Act.put, sA, sB, sC]
 refine wpAnyH_take (i := 1) (oi := { dst := some 27, op := Op.move (Operand.tmp 9), type := 3, pos := "sigma.go:45", after := #[], guard := none }) (v := .int .i64 (i : Int)) rfl (by kernel_rfl) (by kernel_rfl) (by kernel_rfl) (fun _ _ _ h => h) (Or.inl ⟨by rfl, fun w0 hSw => ?_⟩) hH0 ?_
 ·(clear hSw; go_simp)
 simp only [Act.put, sA, sB, sC]
 refine wpAnyH_take (i := 2) (oi := { dst := some 28, op := Op.move (Operand.tmp 0), type := 23, pos := "sigma.go:45", after := #[], guard := none }) (v := .slice (some ⟨A, 0, none⟩) rr cA) rfl (by kernel_rfl) (by kernel_rfl) (by kernel_rfl) (fun _ _ _ h => h) (Or.inl ⟨by rfl, fun w0 hSw => ?_⟩) hH0 ?_
 ·(clear hSw; go_simp)
 simp only [Act.put, sA, sB, sC]
 refine wpAnyH_take (i := 3) (oi := { dst := some 29, op := Op.move (Operand.tmp 9), type := 3, pos := "sigma.go:45", after := #[], guard := none }) (v := .int .i64 (i : Int)) rfl (by kernel_rfl) (by kernel_rfl) (by kernel_rfl) (fun _ _ _ h => h) (Or.inl ⟨by rfl, fun w0 hSw => ?_⟩) hH0 ?_
 ·(clear hSw; go_simp)
 simp only [Act.put, sA, sB, sC]
 refine wpAnyH_take (i := 6) (oi := { dst := some 32, op := Op.load 26 (Operand.tmp 5), type := 26, pos := "sigma.go:45", after := #[], guard := none }) (v := .agg #[.int .u64 ch.x0, .int .u64 ch.x1, .int .u64 ch.x2, .int .u64 ch.x3]) rfl (by kernel_rfl) (by kernel_rfl) (by kernel_rfl) (fun _ _ _ h => h) (Or.inl ⟨by rfl, fun w0 hSw => ?_⟩) hH0 ?_
 ·(have hS : W.grownBy w0 (some D) := hSw.1; have a0 := hS.cell cc0 (fun e => ne5 (Option.some.inj e)); have a1 := hS.cell cc1 (fun e => ne5 (Option.some.inj e)); have a2 := hS.cell cc2 (fun e => ne5 (Option.some.inj e)); have a3 := hS.cell cc3 (fun e => ne5 (Option.some.inj e)); clear hS hSw; go_simp)
 simp only [Act.put, sA, sB, sC]
 refine wpAnyH_take (i := 7) (oi := { dst := some 33, op := Op.load 26 (Operand.tmp 10), type := 26, pos := "sigma.go:45", after := #[], guard := none }) (v := .agg #[.int .u64 x.x0, .int .u64 x.x1, .int .u64 x.x2, .int .u64 x.x3]) rfl (by kernel_rfl) (by kernel_rfl) (by kernel_rfl) (fun _ _ _ h => h) (Or.inl ⟨by rfl, fun w0 hSw => ?_⟩) hH0 ?_
 ·(have hS : W.grownBy w0 (some D) := hSw.1; have a0 := hS.cell cx0 (fun e => neX (Option.some.inj e)); have a1 := hS.cell cx1 (fun e => neX (Option.some.inj e)); have a2 := hS.cell cx2 (fun e => neX (Option.some.inj e)); have a3 := hS.cell cx3 (fun e => neX (Option.some.inj e)); clear hS hSw; go_simp)
 simp only [Act.put, sA, sB, sC]
 refine wpAnyH_take (i := 4) (oi := { dst := some 30, op := Op.indexAddr 23 (Operand.tmp 28) (Operand.tmp 29), type := 0, pos := "sigma.go:45", after := #[{ on := 2, ground := Ground.data }, { on := 3, ground := Ground.data }], guard := none }) (v := .pointer (some ⟨A, i * 4, none⟩)) rfl (by kernel_rfl) (by kernel_rfl) (by kernel_rfl) (fun _ _ _ h => h) (Or.inl ⟨by rfl, fun w0 hSw => ?_⟩) hH0 ?_
 ·(clear hSw; go_simp)
 simp only [Act.put, sA, sB, sC]
 refine wpAnyH_take (i := 5) (oi := { dst := some 31, op := Op.load 26 (Operand.tmp 30), type := 26, pos := "sigma.go:45", after := #[{ on := 4, ground := Ground.data }], guard := none }) (v := .agg #[.int .u64 a.x0, .int .u64 a.x1, .int .u64 a.x2, .int .u64 a.x3]) rfl (by kernel_rfl) (by kernel_rfl) (by kernel_rfl) (fun _ _ _ h => h) (Or.inl ⟨by rfl, fun w0 hSw => ?_⟩) hH0 ?_
 ·(have hS : W.grownBy w0 (some D) := hSw.1; have a0 := hS.cell ca0 (fun e => neA (Option.some.inj e)); have a1 := hS.cell ca1 (fun e => neA (Option.some.inj e)); have a2 := hS.cell ca2 (fun e => neA (Option.some.inj e)); have a3 := hS.cell ca3 (fun e => neA (Option.some.inj e)); clear hS hSw; go_simp)
 simp only [Act.put, sA, sB, sC]
 refine wpAnyH_ready (rs := [8]) (by kernel_rfl) (by simp) ?_
 refine AllReadyH.cons (o := { dst := some 34, op := Op.call { callee := Callee.value (Operand.func 17), args := #[Operand.tmp 32, Operand.tmp 33], argTypes := #[26, 26] }, type := 26, pos := "sigma.go:45", after := #[{ on := 6, ground := Ground.data }, { on := 7, ground := Ground.data }], guard := none }) rfl (fun K hK => ?_) AllReadyH.nil
 have HH := hidden hH0
 clear hH0
 go_simp
 refine (C8.out _ HH.out.1).mono ?_
 rintro e wn1 ⟨rfl, hb⟩
 replace TH := hidden (Li.there_bl TH.out hb)
 have SN := hidden (HH.out.call hb)
 clear HH C8 hb
 go_wp2_with fail
 refine hK.out _ _ SN.out (fun hH1 => ?_)
 clear hK K SN
 refine wpAnyH_ready (rs := [9]) (by kernel_rfl) (by simp) ?_
 refine AllReadyH.cons (o := { dst := some 35, op := Op.call { callee := Callee.value (Operand.func 13), args := #[Operand.tmp 31, Operand.tmp 34], argTypes := #[26, 26] }, type := 26, pos := "sigma.go:45", after := #[{ on := 5, ground := Ground.data }, { on := 8, ground := Ground.data }, { on := 8, ground := Ground.chain }], guard := none }) rfl (fun K hK => ?_) AllReadyH.nil
 have HH := hidden hH1
 clear hH1
 go_simp
 refine (C9.out _ HH.out.1).mono ?_
 rintro e wn2 ⟨rfl, hb⟩
 replace TH := hidden (Li.there_bl TH.out hb)
 have SN := hidden (HH.out.call hb)
 clear HH C9 hb
 go_wp2_with fail
 refine hK.out _ _ SN.out (fun hH2 => ?_)
 clear hK K SN
 refine wpAnyH_take (i := 10) (oi := { dst := some 36, op := Op.indexAddr 23 (Operand.tmp 26) (Operand.tmp 27), type := 0, pos := "sigma.go:45", after := #[{ on := 0, ground := Ground.data }, { on := 1, ground := Ground.data }, { on := 0, ground := Ground.phase }, { on := 1, ground := Ground.phase }, { on := 2, ground := Ground.phase }, { on := 3, ground := Ground.phase }, { on := 4, ground := Ground.phase }, { on := 5, ground := Ground.phase }, { on := 6, ground := Ground.phase }, { on := 7, ground := Ground.phase }, { on := 8, ground := Ground.phase }, { on := 9, ground := Ground.phase }], guard := none }) (v := .pointer (some ⟨D, i * 4, none⟩)) rfl (by kernel_rfl) (by kernel_rfl) (by kernel_rfl) (fun _ _ _ h => h) (Or.inl ⟨by rfl, fun w0 hSw => ?_⟩) hH2 ?_
 ·(clear hSw; go_simp)
 simp only [Act.put, sA, sB, sC]
 refine wpAnyH_ready (rs := [11]) (by kernel_rfl) (by simp) ?_
 refine AllReadyH.cons (o := { dst := none, op := Op.store 26 (Operand.tmp 36) (Operand.tmp 35), type := 0, pos := "sigma.go:45", after := #[{ on := 10, ground := Ground.data }, { on := 9, ground := Ground.data }, { on := 9, ground := Ground.chain }, { on := 0, ground := Ground.phase }, { on := 1, ground := Ground.phase }, { on := 2, ground := Ground.phase }, { on := 3, ground := Ground.phase }, { on := 4, ground := Ground.phase }, { on := 5, ground := Ground.phase }, { on := 6, ground := Ground.phase }, { on := 7, ground := Ground.phase }, { on := 8, ground := Ground.phase }, { on := 9, ground := Ground.phase }], guard := none }) rfl (fun K hK => ?_) AllReadyH.nil
 have HH := hidden hH2
 clear hH2
 refine wp_storeE 26 _ _ rfl D (i * 4) ([.int .u64 r.x0, .int .u64 r.x1, .int .u64 r.x2, .int .u64 r.x3]) (by rfl) (by rfl) (there_part TH.out (by omega)) i4_s (one4 r) rfl (fun wn3 hw => ?_)
 have SN := hidden (HH.out.sto r)
 have FE := hidden ((⟨_, HH.out, TH.out, hw⟩ : ∃ wy, Gk W D i f wy ∧ wy.there D 0 (rr * 4) ∧ _ = wy.setCells D (i * 4) [.int .u64 r.x0, .int .u64 r.x1, .int .u64 r.x2, .int .u64 r.x3]))
 rw [← hw] at SN
 clear HH hw
 refine hK.out _ _ SN.out (fun hH3 => ?_)
 clear hK K SN
 have HH := hidden hH3
 have FQ := hidden (HQ.out _ FE.out)
 refine wpAnyH_done (by kernel_rfl) ?_ _
 refine NoPanic.normal ?_
 exact FQ.out
def Fa (ks xs : Nat → E4) (ch : E4) (i : Nat) : E4 := lst ((ks i).n + (lst (ch.n * (xs i).n)).n)
theorem answerR (A X n cA cX : Nat) (ks xs : Nat → E4) (ch : E4) (w : World) (hT : Tb w) (hn1 : 1 ≤ n) (hn : n ≤ 64) (oa : ∀ k, k < n → (ks k).ok) (ox : ∀ k, k < n → (xs k).ok) (oc : ch.ok) (ha : Rl w A 0 n ks) (hx : Rl w X 0 n xs) :
  Calls Tryz.prog 21 #[.slice (some ⟨A, 0, none⟩) n cA, .slice (some ⟨X, 0, none⟩) n cX, .agg #[.int .u64 ch.x0, .int .u64 ch.x1, .int .u64 ch.x2, .int .u64 ch.x3]] w fun e w' => e = .returned (.tuple #[.slice (some ⟨w.heap.size + 1, 0, none⟩) n n, .int .i64 0]) ∧ (∀ j, j < n → w'.rangeAt (w.heap.size + 1) (j * 4) (q4 (Fa ks xs ch j))) ∧ Below w.heap.size w w' := by
 obtain ⟨i0, hi, hz0, hz1, hz2⟩ := info_parts scinfo
 have hmk := fun w => run_make (P := Tryz.prog) w 23 26 i0 (.agg #[.int .u64 0, .int .u64 0, .int .u64 0, .int .u64 0]) (by kernel_rfl) hi hz0 .i64 .i64 (n : Int) (n : Int) (by omega) (Int.le_refl _) (by rw [hz2]; omega) (by omega)
 simp only [Int.toNat_natCast, hz1, Value.cells] at hmk
 clear hi hz0 hz1 hz2
 have B2 := bl_trans (bl_alloc w (.cells #[.int .u64 ch.x0, .int .u64 ch.x1, .int .u64 ch.x2, .int .u64 ch.x3] 26)) (bl_alloc (w.alloc (.cells #[.int .u64 ch.x0, .int .u64 ch.x1, .int .u64 ch.x2, .int .u64 ch.x3] 26)) (.cells (madeCells #[.int .u64 0, .int .u64 0, .int .u64 0, .int .u64 0] (n * 4)) 26))
 have c0 : ((w.alloc (.cells #[.int .u64 ch.x0, .int .u64 ch.x1, .int .u64 ch.x2, .int .u64 ch.x3] 26)).alloc (.cells (madeCells #[.int .u64 0, .int .u64 0, .int .u64 0, .int .u64 0] (n * 4)) 26)).cell? ⟨w.heap.size, 0, none⟩ = some (.int .u64 ch.x0) := cell_keep (by go_simp) (bl_alloc _ _)
 have c1 : ((w.alloc (.cells #[.int .u64 ch.x0, .int .u64 ch.x1, .int .u64 ch.x2, .int .u64 ch.x3] 26)).alloc (.cells (madeCells #[.int .u64 0, .int .u64 0, .int .u64 0, .int .u64 0] (n * 4)) 26)).cell? ⟨w.heap.size, 1, none⟩ = some (.int .u64 ch.x1) := cell_keep (by go_simp) (bl_alloc _ _)
 have c2 : ((w.alloc (.cells #[.int .u64 ch.x0, .int .u64 ch.x1, .int .u64 ch.x2, .int .u64 ch.x3] 26)).alloc (.cells (madeCells #[.int .u64 0, .int .u64 0, .int .u64 0, .int .u64 0] (n * 4)) 26)).cell? ⟨w.heap.size, 2, none⟩ = some (.int .u64 ch.x2) := cell_keep (by go_simp) (bl_alloc _ _)
 have c3 : ((w.alloc (.cells #[.int .u64 ch.x0, .int .u64 ch.x1, .int .u64 ch.x2, .int .u64 ch.x3] 26)).alloc (.cells (madeCells #[.int .u64 0, .int .u64 0, .int .u64 0, .int .u64 0] (n * 4)) 26)).cell? ⟨w.heap.size, 3, none⟩ = some (.int .u64 ch.x3) := cell_keep (by go_simp) (bl_alloc _ _)
 have th : ((w.alloc (.cells #[.int .u64 ch.x0, .int .u64 ch.x1, .int .u64 ch.x2, .int .u64 ch.x3] 26)).alloc (.cells (madeCells #[.int .u64 0, .int .u64 0, .int .u64 0, .int .u64 0] (n * 4)) 26)).there (w.heap.size + 1) 0 (n * 4) := by
  have := there_newM (w.alloc (.cells #[.int .u64 ch.x0, .int .u64 ch.x1, .int .u64 ch.x2, .int .u64 ch.x3] 26)) (madeCells #[.int .u64 0, .int .u64 0, .int .u64 0, .int .u64 0] (n * 4)).toList 26
  simpa [World.size_alloc, size_madeCells] using this
 have SZ2 : Hid (((w.alloc (.cells #[.int .u64 ch.x0, .int .u64 ch.x1, .int .u64 ch.x2, .int .u64 ch.x3] 26)).alloc (.cells (madeCells #[.int .u64 0, .int .u64 0, .int .u64 0, .int .u64 0] (n * 4)) 26)).heap.size = w.heap.size + 1 + 1) := hidden (by simp only [World.size_alloc])
 have lA := World.block_lt_of_cell? w _ (ha.c0 0 (by omega))
 have HH := hidden (And.intro hT (And.intro oa (And.intro ox (And.intro oc (And.intro ha hx)))))
 have HN := hidden hn
 have nn : ((n : Int) != (n : Int)) = false := by simp
 clear hx hT oa ox oc ha
 go_enter Tryz.func21, Tryz.ntmps21
 go_upto_region 4 with fail
 generalize ((w.alloc (.cells #[.int .u64 ch.x0, .int .u64 ch.x1, .int .u64 ch.x2, .int .u64 ch.x3] 26)).alloc (.cells (madeCells #[.int .u64 0, .int .u64 0, .int .u64 0, .int .u64 0] (n * 4)) 26)) = w2 at *
 clear hmk
 go_wp2_with fail
 go_loopw [21] (fun iv w' => ∃ i : Nat, i ≤ n ∧ iv = .int .i64 i ∧ Hid (St (w.heap.size + 1) w2 (w.heap.size + 1) n i (Fa ks xs ch) w')) (fun i _ => n - (intOf i).toNat)
 case atStart => exact ⟨0, by omega, rfl, hidden ⟨Below.refl _ _, th, fun j hj => absurd hj (by omega)⟩⟩
 case round =>
  obtain ⟨i, hi, rfl, hS⟩ := hrel
  by_cases hin : i < n
  ·have i0 : (0 : Int) ≤ (i : Int) := by omega
   have i1 : (i : Int) < (n : Int) := by omega
   have w9 : IntKind.i64.wrap ((i : Int) + 1) = (i : Int) + 1 := IntWalk.i64_in _ (by have := HN.out; omega)
   have BW := below_trans B2 (below_less hS.out.1 (Nat.le_succ _))
   have RX := HH.out.2.2.2.2.2.keep BW
   have x0 := RX.c0 i hin; have x1 := RX.c1 i hin; have x2 := RX.c2 i hin; have x3 := RX.c3 i hin
   have RA := HH.out.2.2.2.2.1.keep BW
   have y0 := RA.c0 i hin; have y1 := RA.c1 i hin; have y2 := RA.c2 i hin; have y3 := RA.c3 i hin
   simp only [Nat.zero_add] at x0 x1 x2 x3 y0 y1 y2 y3
   have oa := HH.out.2.1 i hin
   have ox := HH.out.2.2.1 i hin
   obtain ⟨rv, hrr⟩ : ∃ rv, Fa ks xs ch i = rv := ⟨_, rfl⟩
   have hr2 := hrr
   unfold Fa at hr2
   generalize ks i = a at *
   generalize xs i = x at *
   obtain ⟨u, hu⟩ : ∃ u, lst (ch.n * x.n) = u := ⟨_, rfl⟩
   rw [hu] at hr2
   have YY := hidden (And.intro y0 (And.intro y1 (And.intro y2 (And.intro y3 (And.intro oa ox)))))
   clear RX RA y0 y1 y2 y3 oa ox
   have BN := bl_alloc wr (.cells #[.int .u64 x.x0, .int .u64 x.x1, .int .u64 x.x2, .int .u64 x.x3] 26)
   have g0 : (wr.alloc (.cells #[.int .u64 x.x0, .int .u64 x.x1, .int .u64 x.x2, .int .u64 x.x3] 26)).cell? ⟨wr.heap.size, 0, none⟩ = some (.int .u64 x.x0) := by go_simp
   have g1 : (wr.alloc (.cells #[.int .u64 x.x0, .int .u64 x.x1, .int .u64 x.x2, .int .u64 x.x3] 26)).cell? ⟨wr.heap.size, 1, none⟩ = some (.int .u64 x.x1) := by go_simp
   have g2 : (wr.alloc (.cells #[.int .u64 x.x0, .int .u64 x.x1, .int .u64 x.x2, .int .u64 x.x3] 26)).cell? ⟨wr.heap.size, 2, none⟩ = some (.int .u64 x.x2) := by go_simp
   have g3 : (wr.alloc (.cells #[.int .u64 x.x0, .int .u64 x.x1, .int .u64 x.x2, .int .u64 x.x3] 26)).cell? ⟨wr.heap.size, 3, none⟩ = some (.int .u64 x.x3) := by go_simp
   go_upto_region 7 with fail
   obtain ⟨y0, y1, y2, y3, oa, ox⟩ := YY.out
   have sr := hS.out.1.size
   have sz := SZ2.out
   have TH2 := Li.there_bl hS.out.2.1 BN
   have BA : Below (w.heap.size + 1) w2 (wr.alloc (.cells #[.int .u64 x.x0, .int .u64 x.x1, .int .u64 x.x2, .int .u64 x.x3] 26)) := below_trans hS.out.1 (below_less BN (by omega))
   have d0 := (BA.cell (p := ⟨w.heap.size, 0, none⟩) (Nat.lt_succ_self _)).trans c0
   have d1 := (BA.cell (p := ⟨w.heap.size, 1, none⟩) (Nat.lt_succ_self _)).trans c1
   have d2 := (BA.cell (p := ⟨w.heap.size, 2, none⟩) (Nat.lt_succ_self _)).trans c2
   have d3 := (BA.cell (p := ⟨w.heap.size, 3, none⟩) (Nat.lt_succ_self _)).trans c3
   have B3 := bl_trans BW BN
   have EL := fun j (hj : j < i) => range_bl (hS.out.2.2 j hj) BN
   have z0 := cell_keep y0 BN
   have z1 := cell_keep y1 BN
   have z2 := cell_keep y2 BN
   have z3 := cell_keep y3 BN
   have s3 := BN.size
   generalize (wr.alloc (.cells #[.int .u64 x.x0, .int .u64 x.x1, .int .u64 x.x2, .int .u64 x.x3] 26)) = w3 at *
   have AL : ∀ y, w3.grownBy y (some (w.heap.size + 1)) → Below w.heap.size w y := fun y hy => B3.grown hy B3.size (fun j hj => by obtain rfl := Option.some.inj hj; omega)
   have C8 := hidden (fun y (hy : w3.grownBy y (some (w.heap.size + 1))) => fix (R := lst (ch.n * x.n)) (Mul_any ch x y (HH.out.1.keep (AL y hy)) HH.out.2.2.2.1 ox) rfl)
   have C9 := hidden (fun y (hy : w3.grownBy y (some (w.heap.size + 1))) => fix (R := lst (a.n + u.n)) (Add_any a u y (HH.out.1.keep (AL y hy)) oa (hu ▸ lst_ok _)) rfl)
   rw [hu] at C8
   rw [hr2] at C9
   refine anR _ A (w.heap.size + 1) w.heap.size wr.heap.size cA n i (Fa ks xs ch) a ch x u rv _ _ _ _ _ _ _ _ _ _ _ _ _ _ _ _ _ _ _ _ _ _ _ _ _ _ _ _ _ _ _ _ _ _ w3 i0 i1 EL (by first | omega | (simp only at lA; omega)) (by omega) (by omega) TH2 z0 z1 z2 z3 d0 d1 d2 d3 g0 g1 g2 g3 C8 C9 (hidden ?_)
   intro wz hz
   have PN : Hid (St (w.heap.size + 1) w2 (w.heap.size + 1) n (i + 1) (Fa ks xs ch) wz) := hidden (by
    obtain ⟨wy, hy, hty, rfl⟩ := hz
    exact St.next (wa := w3) ⟨below_grown hy.1 (by omega) (fun k hk => by have := Option.some.inj hk; omega), hy.2⟩ hty BA (by omega) hin hrr)
   clear C8 C9 TH2 AL hz g0 g1 g2 g3 d0 d1 d2 d3 hS EL
   go_wp2_with fail
   go_roundw
   case rel => exact ⟨i + 1, by omega, by go_num, PN⟩
   case measure => simp [intOf]; omega
  ·obtain rfl : i = n := by omega
   have lq : ¬ (i : Int) < (i : Int) := by omega
   go_wp2_with fail
   refine bodyPost_ret (v := .tuple #[.slice (some ⟨w.heap.size + 1, 0, none⟩) i i, .int .i64 0]) (by simp [results, Tryz.results21, go_sem]) rfl ⟨rfl, hS.out.2.2, below_trans B2 (below_less hS.out.1 (Nat.le_succ _))⟩
open Go.RowKit
theorem answeredR (A X n cA cX : Nat) (ks xs : Nat → E4) (ch : E4) (w : World) (hT : Tb w) (hn1 : 1 ≤ n) (hn : n ≤ 64) (oa : ∀ k, k < n → (ks k).ok) (ox : ∀ k, k < n → (xs k).ok) (oc : ch.ok) (ha : Rl w A 0 n ks) (hx : Rl w X 0 n xs) :
  Calls Tryz.prog 32 #[.slice (some ⟨A, 0, none⟩) n cA, .slice (some ⟨X, 0, none⟩) n cX, .agg #[.int .u64 ch.x0, .int .u64 ch.x1, .int .u64 ch.x2, .int .u64 ch.x3]] w fun e w' => e = .returned (.agg #[.int .u64 ch.x0, .int .u64 ch.x1, .int .u64 ch.x2, .int .u64 ch.x3, .slice (some ⟨w.heap.size + 1 + 1 + 1, 0, none⟩) n n]) ∧ (∀ j, j < n → w'.rangeAt (w.heap.size + 1 + 1 + 1) (j * 4) (q4 (Fa ks xs ch j))) ∧ Below w.heap.size w w' := by
 have B2 := bl_trans (bl_alloc w (.cells #[.int .u64 ch.x0, .int .u64 ch.x1, .int .u64 ch.x2, .int .u64 ch.x3] 26)) (bl_alloc (w.alloc (.cells #[.int .u64 ch.x0, .int .u64 ch.x1, .int .u64 ch.x2, .int .u64 ch.x3] 26)) (.cells #[.int .u64 0, .int .u64 0, .int .u64 0, .int .u64 0, .slice none 0 0] 77))
 have c0 : ((w.alloc (.cells #[.int .u64 ch.x0, .int .u64 ch.x1, .int .u64 ch.x2, .int .u64 ch.x3] 26)).alloc (.cells #[.int .u64 0, .int .u64 0, .int .u64 0, .int .u64 0, .slice none 0 0] 77)).cell? ⟨w.heap.size, 0, none⟩ = some (.int .u64 ch.x0) := cell_keep (by go_simp) (bl_alloc _ _)
 have c1 : ((w.alloc (.cells #[.int .u64 ch.x0, .int .u64 ch.x1, .int .u64 ch.x2, .int .u64 ch.x3] 26)).alloc (.cells #[.int .u64 0, .int .u64 0, .int .u64 0, .int .u64 0, .slice none 0 0] 77)).cell? ⟨w.heap.size, 1, none⟩ = some (.int .u64 ch.x1) := cell_keep (by go_simp) (bl_alloc _ _)
 have c2 : ((w.alloc (.cells #[.int .u64 ch.x0, .int .u64 ch.x1, .int .u64 ch.x2, .int .u64 ch.x3] 26)).alloc (.cells #[.int .u64 0, .int .u64 0, .int .u64 0, .int .u64 0, .slice none 0 0] 77)).cell? ⟨w.heap.size, 2, none⟩ = some (.int .u64 ch.x2) := cell_keep (by go_simp) (bl_alloc _ _)
 have c3 : ((w.alloc (.cells #[.int .u64 ch.x0, .int .u64 ch.x1, .int .u64 ch.x2, .int .u64 ch.x3] 26)).alloc (.cells #[.int .u64 0, .int .u64 0, .int .u64 0, .int .u64 0, .slice none 0 0] 77)).cell? ⟨w.heap.size, 3, none⟩ = some (.int .u64 ch.x3) := cell_keep (by go_simp) (bl_alloc _ _)
 have e0 : ((w.alloc (.cells #[.int .u64 ch.x0, .int .u64 ch.x1, .int .u64 ch.x2, .int .u64 ch.x3] 26)).alloc (.cells #[.int .u64 0, .int .u64 0, .int .u64 0, .int .u64 0, .slice none 0 0] 77)).cell? ⟨w.heap.size + 1, 0, none⟩ = some (.int .u64 0) := by go_simp
 have f0 : ((w.alloc (.cells #[.int .u64 ch.x0, .int .u64 ch.x1, .int .u64 ch.x2, .int .u64 ch.x3] 26)).alloc (.cells #[.int .u64 0, .int .u64 0, .int .u64 0, .int .u64 0, .slice none 0 0] 77)).frozen? ⟨w.heap.size + 1, 0, none⟩ = false := by go_simp
 have e1 : ((w.alloc (.cells #[.int .u64 ch.x0, .int .u64 ch.x1, .int .u64 ch.x2, .int .u64 ch.x3] 26)).alloc (.cells #[.int .u64 0, .int .u64 0, .int .u64 0, .int .u64 0, .slice none 0 0] 77)).cell? ⟨w.heap.size + 1, 1, none⟩ = some (.int .u64 0) := by go_simp
 have f1 : ((w.alloc (.cells #[.int .u64 ch.x0, .int .u64 ch.x1, .int .u64 ch.x2, .int .u64 ch.x3] 26)).alloc (.cells #[.int .u64 0, .int .u64 0, .int .u64 0, .int .u64 0, .slice none 0 0] 77)).frozen? ⟨w.heap.size + 1, 1, none⟩ = false := by go_simp
 have e2 : ((w.alloc (.cells #[.int .u64 ch.x0, .int .u64 ch.x1, .int .u64 ch.x2, .int .u64 ch.x3] 26)).alloc (.cells #[.int .u64 0, .int .u64 0, .int .u64 0, .int .u64 0, .slice none 0 0] 77)).cell? ⟨w.heap.size + 1, 2, none⟩ = some (.int .u64 0) := by go_simp
 have f2 : ((w.alloc (.cells #[.int .u64 ch.x0, .int .u64 ch.x1, .int .u64 ch.x2, .int .u64 ch.x3] 26)).alloc (.cells #[.int .u64 0, .int .u64 0, .int .u64 0, .int .u64 0, .slice none 0 0] 77)).frozen? ⟨w.heap.size + 1, 2, none⟩ = false := by go_simp
 have e3 : ((w.alloc (.cells #[.int .u64 ch.x0, .int .u64 ch.x1, .int .u64 ch.x2, .int .u64 ch.x3] 26)).alloc (.cells #[.int .u64 0, .int .u64 0, .int .u64 0, .int .u64 0, .slice none 0 0] 77)).cell? ⟨w.heap.size + 1, 3, none⟩ = some (.int .u64 0) := by go_simp
 have f3 : ((w.alloc (.cells #[.int .u64 ch.x0, .int .u64 ch.x1, .int .u64 ch.x2, .int .u64 ch.x3] 26)).alloc (.cells #[.int .u64 0, .int .u64 0, .int .u64 0, .int .u64 0, .slice none 0 0] 77)).frozen? ⟨w.heap.size + 1, 3, none⟩ = false := by go_simp
 have e4 : ((w.alloc (.cells #[.int .u64 ch.x0, .int .u64 ch.x1, .int .u64 ch.x2, .int .u64 ch.x3] 26)).alloc (.cells #[.int .u64 0, .int .u64 0, .int .u64 0, .int .u64 0, .slice none 0 0] 77)).cell? ⟨w.heap.size + 1, 4, none⟩ = some (.slice none 0 0) := by go_simp
 have f4 : ((w.alloc (.cells #[.int .u64 ch.x0, .int .u64 ch.x1, .int .u64 ch.x2, .int .u64 ch.x3] 26)).alloc (.cells #[.int .u64 0, .int .u64 0, .int .u64 0, .int .u64 0, .slice none 0 0] 77)).frozen? ⟨w.heap.size + 1, 4, none⟩ = false := by go_simp
 have SZ : ((w.alloc (.cells #[.int .u64 ch.x0, .int .u64 ch.x1, .int .u64 ch.x2, .int .u64 ch.x3] 26)).alloc (.cells #[.int .u64 0, .int .u64 0, .int .u64 0, .int .u64 0, .slice none 0 0] 77)).heap.size = w.heap.size + 1 + 1 := by simp only [World.size_alloc]
 have hlt : w.heap.size + 1 < ((w.alloc (.cells #[.int .u64 ch.x0, .int .u64 ch.x1, .int .u64 ch.x2, .int .u64 ch.x3] 26)).alloc (.cells #[.int .u64 0, .int .u64 0, .int .u64 0, .int .u64 0, .slice none 0 0] 77)).heap.size := by rw [SZ]; omega
 have AA := hidden ((answerR A X n cA cX ks xs ch ((w.alloc (.cells #[.int .u64 ch.x0, .int .u64 ch.x1, .int .u64 ch.x2, .int .u64 ch.x3] 26)).alloc (.cells #[.int .u64 0, .int .u64 0, .int .u64 0, .int .u64 0, .slice none 0 0] 77)) (hT.keep B2) hn1 hn oa ox oc (ha.keep B2) (hx.keep B2)).mono (R' := fun e w' => e = .returned (.tuple #[.slice (some ⟨w.heap.size + 1 + 1 + 1, 0, none⟩) n n, .int .i64 0]) ∧ (∀ j, j < n → w'.rangeAt (w.heap.size + 1 + 1 + 1) (j * 4) (q4 (Fa ks xs ch j))) ∧ Below ((w.alloc (.cells #[.int .u64 ch.x0, .int .u64 ch.x1, .int .u64 ch.x2, .int .u64 ch.x3] 26)).alloc (.cells #[.int .u64 0, .int .u64 0, .int .u64 0, .int .u64 0, .slice none 0 0] 77)).heap.size ((w.alloc (.cells #[.int .u64 ch.x0, .int .u64 ch.x1, .int .u64 ch.x2, .int .u64 ch.x3] 26)).alloc (.cells #[.int .u64 0, .int .u64 0, .int .u64 0, .int .u64 0, .slice none 0 0] 77)) w') (fun e w' h => ⟨by rw [h.1, SZ], fun j hj => by have := h.2.1 j hj; rwa [SZ] at this, h.2.2⟩))
 clear hT oa ox oc ha hx
 go_enter Tryz.func32, Tryz.ntmps32
 go_upto_region 1 with fail
 generalize ((w.alloc (.cells #[.int .u64 ch.x0, .int .u64 ch.x1, .int .u64 ch.x2, .int .u64 ch.x3] 26)).alloc (.cells #[.int .u64 0, .int .u64 0, .int .u64 0, .int .u64 0, .slice none 0 0] 77)) = w2 at *
 go_wp2_with (first | (go_at_call 21; refine AA.out.mono ?_; rintro e wa ⟨rfl, hq, ha⟩; have d0 := cell_keep c0 ha; have d1 := cell_keep c1 ha; have d2 := cell_keep c2 ha; have d3 := cell_keep c3 ha; have a0 := cell_keep e0 ha; have g0 := (ha.frozen (p := ⟨w.heap.size + 1, 0, none⟩) hlt).trans f0; have a1 := cell_keep e1 ha; have g1 := (ha.frozen (p := ⟨w.heap.size + 1, 1, none⟩) hlt).trans f1; have a2 := cell_keep e2 ha; have g2 := (ha.frozen (p := ⟨w.heap.size + 1, 2, none⟩) hlt).trans f2; have a3 := cell_keep e3 ha; have g3 := (ha.frozen (p := ⟨w.heap.size + 1, 3, none⟩) hlt).trans f3; have a4 := cell_keep e4 ha; have g4 := (ha.frozen (p := ⟨w.heap.size + 1, 4, none⟩) hlt).trans f4; have BA := hidden (bl_trans B2 ha); have HQ := hidden hq; clear ha hq AA c0 c1 c2 c3 e0 f0 e1 f1 e2 f2 e3 f3 e4 f4))
 have BF := below_trans BA.out (below_grown (gb_setCells (w.heap.size + 1) [.int .u64 ch.x0, .int .u64 ch.x1, .int .u64 ch.x2, .int .u64 ch.x3, .slice (some ⟨w.heap.size + 1 + 1 + 1, 0, none⟩) n n] 0 wa) BA.out.size (fun j hj => by have := Option.some.inj hj; omega))
 have QF : ∀ j, j < n → (wa.setCells (w.heap.size + 1) 0 [.int .u64 ch.x0, .int .u64 ch.x1, .int .u64 ch.x2, .int .u64 ch.x3, .slice (some ⟨w.heap.size + 1 + 1 + 1, 0, none⟩) n n]).rangeAt (w.heap.size + 1 + 1 + 1) (j * 4) (q4 (Fa ks xs ch j)) := fun j hj d u hu => (gb_setCells (w.heap.size + 1) [.int .u64 ch.x0, .int .u64 ch.x1, .int .u64 ch.x2, .int .u64 ch.x3, .slice (some ⟨w.heap.size + 1 + 1 + 1, 0, none⟩) n n] 0 wa).cell (HQ.out j hj d u hu) (fun e => by have := Option.some.inj e; first | omega | (simp only at this; omega) | (simp at this))
 refine bodyPost_ret (v := .agg #[.int .u64 ch.x0, .int .u64 ch.x1, .int .u64 ch.x2, .int .u64 ch.x3, .slice (some ⟨w.heap.size + 1 + 1 + 1, 0, none⟩) n n]) (by simp [results, Tryz.results32, go_sem, a0, a1, a2, a3, a4]) rfl ⟨rfl, QF, BF⟩
open Go.RowKit
def Ft (m : Nat) (ks : Nat → E4) (j : Nat) : E4 := if j < m then ks j else ⟨0, 0, 0, 0⟩
theorem rm_eq {w : World} {b n : Nat} {g g' : Nat → E4} (h : Rm w b n g) (e : ∀ j, j < n → g j = g' j) : Rm w b n g' :=
 ⟨h.lt, ⟨fun k hk => by rw [← e k hk]; exact h.r.c0 k hk, fun k hk => by rw [← e k hk]; exact h.r.c1 k hk, fun k hk => by rw [← e k hk]; exact h.r.c2 k hk, fun k hk => by rw [← e k hk]; exact h.r.c3 k hk⟩, h.fr⟩
theorem inOrderF1 (x y : Value) (w : World) : Calls Tryz.prog 27 #[.int .i64 1, x, y] w fun e w' => e = .returned (.tuple #[x, y]) ∧ w' = w := by
 go_enter Tryz.func27, Tryz.ntmps27
 go_wp2_with fail
 refine bodyPost_ret (v := .tuple #[x, y]) (by simp [results, Tryz.results27, go_sem]) rfl ⟨rfl, rfl⟩
theorem inOrderF2 (x y : Value) (w : World) : Calls Tryz.prog 27 #[.int .i64 2, x, y] w fun e w' => e = .returned (.tuple #[y, x]) ∧ w' = w := by
 go_enter Tryz.func27, Tryz.ntmps27
 go_wp2_with fail
 refine bodyPost_ret (v := .tuple #[y, x]) (by simp [results, Tryz.results27, go_sem]) rfl ⟨rfl, rfl⟩
theorem fittedR (R g n cn r cR m c : Nat) (P : Option Addr) (ks : Nat → E4) (w : World) (hr1 : 1 ≤ r) (hn : n ≤ 64) (hrow : w.cell? ⟨R, 0, none⟩ = some (.slice (some ⟨g, 0, none⟩) n cn)) (hl : Lm w P m ks) :
  Calls Tryz.prog 5 #[.slice (some ⟨R, 0, none⟩) r cR, .slice P m c] w fun e w' => e = .returned (.slice (some ⟨w.heap.size, 0, none⟩) n n) ∧ Rm w' w.heap.size n (Ft m ks) ∧ Below w.heap.size w w' := by
 have HN := hidden hn
 obtain ⟨i0, hi, hz0, hz1, hz2⟩ := info_parts scinfo
 have hmk := run_make (P := Tryz.prog) w 23 26 i0 (.agg #[.int .u64 0, .int .u64 0, .int .u64 0, .int .u64 0]) (by kernel_rfl) hi hz0 .i64 .i64 (n : Int) (n : Int) (by omega) (Int.le_refl _) (by rw [hz2]; omega) (by omega)
 simp only [Int.toNat_natCast, hz1, Value.cells] at hmk
 clear hi hz0 hz1 hz2
 have r1 : (0 : Int) < (r : Int) := by omega
 have S0 : Hid (Rm (w.alloc (.cells (madeCells #[.int .u64 0, .int .u64 0, .int .u64 0, .int .u64 0] (n * 4)) 26)) w.heap.size n (fun j => if j < 0 then ks j else ⟨0, 0, 0, 0⟩) ∧ Below w.heap.size w (w.alloc (.cells (madeCells #[.int .u64 0, .int .u64 0, .int .u64 0, .int .u64 0] (n * 4)) 26))) := hidden ⟨rm_eq (Rm.made w n 26) (fun j _ => by rw [if_neg (by omega)]), bl_alloc w _⟩
 obtain ⟨sb, so, h1, h2⟩ := hl
 have H2 := hidden h2
 have H1 := hidden h1
 clear h1 h2
 go_enter Tryz.func5, Tryz.ntmps5
 go_upto_region 2 with fail
 generalize (w.alloc (.cells (madeCells #[.int .u64 0, .int .u64 0, .int .u64 0, .int .u64 0] (n * 4)) 26)) = w1 at *
 clear hmk
 go_wp2_with fail
 go_loopw [6] (fun iv w' => ∃ i : Nat, i ≤ n ∧ i ≤ m ∧ iv = .int .i64 i ∧ Hid (Rm w' w.heap.size n (fun j => if j < i then ks j else ⟨0, 0, 0, 0⟩) ∧ Below w.heap.size w w')) (fun i _ => n - (intOf i).toNat)
 case atStart => exact ⟨0, by omega, by omega, rfl, S0⟩
 case round =>
  obtain ⟨i, hi, him, rfl, hS⟩ := hrel
  by_cases hin : i < n
  ·have i0 : (0 : Int) ≤ (i : Int) := by omega
   have i1 : (i : Int) < (n : Int) := by omega
   by_cases hm : i < m
   ·have i2 : (i : Int) < (m : Int) := by omega
    have w9 : IntKind.i64.wrap ((i : Int) + 1) = (i : Int) + 1 := IntWalk.i64_in _ (by have := HN.out; omega)
    obtain rfl := H1.out (by omega)
    have RR := (H2.out (by omega)).keep hS.out.2
    have x0 := RR.c0 i hm; have x1 := RR.c1 i hm; have x2 := RR.c2 i hm; have x3 := RR.c3 i hm
    have D := hS.out.1.r
    have s0 := D.c0 i hin; have s1 := D.c1 i hin; have s2 := D.c2 i hin; have s3 := D.c3 i hin
    have v0 := hS.out.1.fr (i * 4) (by omega); have v1 := hS.out.1.fr (i * 4 + 1) (by omega); have v2 := hS.out.1.fr (i * 4 + 2) (by omega); have v3 := hS.out.1.fr (i * 4 + 3) (by omega)
    simp only [Nat.zero_add] at s0 s1 s2 s3 v0 v1 v2 v3
    have NX := hidden (And.intro (rm_eq (hS.out.1.set i hin (ks i)) (g' := fun j => if j < i + 1 then ks j else ⟨0, 0, 0, 0⟩) (fun j hj => by
     by_cases e : j = i
     ·subst e; rw [if_pos rfl, if_pos (by omega)]
     ·rw [if_neg e]
      by_cases q : j < i
      ·rw [if_pos q, if_pos (by omega)]
      ·rw [if_neg q, if_neg (by omega)])) (setS_bel (o := i * 4) (x := ks i) hS.out.2 (Nat.le_refl _)))
    unfold setS at NX
    generalize ks i = a at x0 x1 x2 x3 NX
    clear RR D hS
    go_wp2_with fail
    go_roundw
    case rel => exact ⟨i + 1, by omega, by omega, by go_num, NX⟩
    case measure => simp [intOf]; omega
   ·obtain rfl : i = m := by omega
    have lq : ¬ (i : Int) < (i : Int) := by omega
    go_wp2_with fail
    refine bodyPost_ret (v := .slice (some ⟨w.heap.size, 0, none⟩) n n) (by simp [results, Tryz.results5, go_sem]) rfl ⟨rfl, rm_eq hS.out.1 (fun j hj => rfl), hS.out.2⟩
  ·obtain rfl : i = n := by omega
   have lq : ¬ (i : Int) < (i : Int) := by omega
   go_wp2_with fail
   refine bodyPost_ret (v := .slice (some ⟨w.heap.size, 0, none⟩) i i) (by simp [results, Tryz.results5, go_sem]) rfl ⟨rfl, rm_eq hS.out.1 (fun j hj => by unfold Ft; rw [if_pos hj, if_pos (by omega)]), hS.out.2⟩
open Go.RowKit
def im5o_0 : Oper := { dst := some 14, op := Op.load 26 (Operand.tmp 5), type := 26, pos := "outright.go:58", after := #[], guard := none }
def im5o_1 : Oper := { dst := some 15, op := Op.move (Operand.tmp 0), type := 23, pos := "outright.go:58", after := #[], guard := none }
def im5o_2 : Oper := { dst := some 16, op := Op.move (Operand.tmp 6), type := 3, pos := "outright.go:58", after := #[], guard := none }
def im5o_3 : Oper := { dst := some 17, op := Op.indexAddr 23 (Operand.tmp 15) (Operand.tmp 16), type := 0, pos := "outright.go:58", after := #[{ on := 1, ground := Ground.data }, { on := 2, ground := Ground.data }], guard := none }
def im5o_4 : Oper := { dst := some 18, op := Op.load 26 (Operand.tmp 17), type := 26, pos := "outright.go:58", after := #[{ on := 3, ground := Ground.data }], guard := none }
def im5o_5 : Oper := { dst := some 19, op := Op.move (Operand.tmp 1), type := 23, pos := "outright.go:58", after := #[], guard := none }
def im5o_6 : Oper := { dst := some 20, op := Op.move (Operand.tmp 6), type := 3, pos := "outright.go:58", after := #[], guard := none }
def im5o_7 : Oper := { dst := some 21, op := Op.indexAddr 23 (Operand.tmp 19) (Operand.tmp 20), type := 0, pos := "outright.go:58", after := #[{ on := 5, ground := Ground.data }, { on := 6, ground := Ground.data }], guard := none }
def im5o_8 : Oper := { dst := some 22, op := Op.load 26 (Operand.tmp 21), type := 26, pos := "outright.go:58", after := #[{ on := 7, ground := Ground.data }], guard := none }
def im5o_9 : Oper := { dst := some 23, op := Op.call { callee := Callee.value (Operand.func 17), args := #[Operand.tmp 18, Operand.tmp 22], argTypes := #[26, 26] }, type := 26, pos := "outright.go:58", after := #[{ on := 4, ground := Ground.data }, { on := 8, ground := Ground.data }], guard := none }
def im5o_10 : Oper := { dst := some 24, op := Op.call { callee := Callee.value (Operand.func 13), args := #[Operand.tmp 14, Operand.tmp 23], argTypes := #[26, 26] }, type := 26, pos := "outright.go:58", after := #[{ on := 0, ground := Ground.data }, { on := 9, ground := Ground.data }, { on := 9, ground := Ground.chain }], guard := none }
def im5o_11 : Oper := { dst := none, op := Op.store 26 (Operand.tmp 5) (Operand.tmp 24), type := 0, pos := "outright.go:58", after := #[{ on := 10, ground := Ground.data }, { on := 10, ground := Ground.chain }, { on := 0, ground := Ground.phase }, { on := 1, ground := Ground.phase }, { on := 2, ground := Ground.phase }, { on := 3, ground := Ground.phase }, { on := 4, ground := Ground.phase }, { on := 5, ground := Ground.phase }, { on := 6, ground := Ground.phase }, { on := 7, ground := Ground.phase }, { on := 8, ground := Ground.phase }, { on := 9, ground := Ground.phase }, { on := 10, ground := Ground.phase }], guard := none }
def im5o : Array Oper := #[im5o_0, im5o_1, im5o_2, im5o_3, im5o_4, im5o_5, im5o_6, im5o_7, im5o_8, im5o_9, im5o_10, im5o_11]
theorem im5 (Q : Exit → Act → World → Prop) (A X T5 n cA cX i : Nat) (z a x u r : E4) (u2 u3 u4 u7 u8 u9 u10 u11 u12 u13 u14 u15 u16 u17 u18 u19 u20 u21 u22 u23 u24 u25 : Value) (W : World)
  (i0 : (0 : Int) ≤ (i : Int)) (i1 : (i : Int) < (n : Int)) (neA : A ≠ T5) (neX : X ≠ T5) (rg : W.rangeAt T5 0 [.int .u64 z.x0, .int .u64 z.x1, .int .u64 z.x2, .int .u64 z.x3]) (th : W.there T5 0 4) (ca0 : W.cell? ⟨A, i * 4, none⟩ = some (.int .u64 a.x0)) (ca1 : W.cell? ⟨A, i * 4 + 1, none⟩ = some (.int .u64 a.x1)) (ca2 : W.cell? ⟨A, i * 4 + 2, none⟩ = some (.int .u64 a.x2)) (ca3 : W.cell? ⟨A, i * 4 + 3, none⟩ = some (.int .u64 a.x3)) (cx0 : W.cell? ⟨X, i * 4, none⟩ = some (.int .u64 x.x0)) (cx1 : W.cell? ⟨X, i * 4 + 1, none⟩ = some (.int .u64 x.x1)) (cx2 : W.cell? ⟨X, i * 4 + 2, none⟩ = some (.int .u64 x.x2)) (cx3 : W.cell? ⟨X, i * 4 + 3, none⟩ = some (.int .u64 x.x3))
  (C9 : Hid (∀ y, W.grownBy y (some T5) → Calls Tryz.prog 17 #[.agg #[.int .u64 a.x0, .int .u64 a.x1, .int .u64 a.x2, .int .u64 a.x3], .agg #[.int .u64 x.x0, .int .u64 x.x1, .int .u64 x.x2, .int .u64 x.x3]] y fun e w' => e = .returned (.agg #[.int .u64 u.x0, .int .u64 u.x1, .int .u64 u.x2, .int .u64 u.x3]) ∧ Below y.heap.size y w'))
  (C10 : Hid (∀ y, W.grownBy y (some T5) → Calls Tryz.prog 13 #[.agg #[.int .u64 z.x0, .int .u64 z.x1, .int .u64 z.x2, .int .u64 z.x3], .agg #[.int .u64 u.x0, .int .u64 u.x1, .int .u64 u.x2, .int .u64 u.x3]] y fun e w' => e = .returned (.agg #[.int .u64 r.x0, .int .u64 r.x1, .int .u64 r.x2, .int .u64 r.x3]) ∧ Below y.heap.size y w'))
  (HQ : Hid (∀ (wz : World), (∃ wy, W.grownBy wy (some T5) ∧ wy.there T5 0 4 ∧ wz = wy.setCells T5 0 [.int .u64 r.x0, .int .u64 r.x1, .int .u64 r.x2, .int .u64 r.x3]) → Q .normal ⟨#[.slice (some ⟨A, 0, none⟩) n cA, .slice (some ⟨X, 0, none⟩) n cX, u2, u3, u4, .pointer (some ⟨T5, 0, none⟩), .int .i64 (i : Int), u7, u8, u9, u10, u11, u12, u13, .agg #[.int .u64 z.x0, .int .u64 z.x1, .int .u64 z.x2, .int .u64 z.x3], .slice (some ⟨A, 0, none⟩) n cA, .int .i64 (i : Int), .pointer (some ⟨A, i * 4, none⟩), .agg #[.int .u64 a.x0, .int .u64 a.x1, .int .u64 a.x2, .int .u64 a.x3], .slice (some ⟨X, 0, none⟩) n cX, .int .i64 (i : Int), .pointer (some ⟨X, i * 4, none⟩), .agg #[.int .u64 x.x0, .int .u64 x.x1, .int .u64 x.x2, .int .u64 x.x3], .agg #[.int .u64 u.x0, .int .u64 u.x1, .int .u64 u.x2, .int .u64 u.x3], .agg #[.int .u64 r.x0, .int .u64 r.x1, .int .u64 r.x2, .int .u64 r.x3], u25], []⟩ wz)) : (Code.region 5 im5o true).wp Tryz.prog Q ⟨#[.slice (some ⟨A, 0, none⟩) n cA, .slice (some ⟨X, 0, none⟩) n cX, u2, u3, u4, .pointer (some ⟨T5, 0, none⟩), .int .i64 (i : Int), u7, u8, u9, u10, u11, u12, u13, u14, u15, u16, u17, u18, u19, u20, u21, u22, u23, u24, u25], []⟩ W := by
 have RG := hidden (range_bl rg (bl_drew W))
 have TH := hidden (Li.there_bl th (bl_drew W))
 clear rg th
 unfold im5o
 refine wp_region_noPanic ?_
 refine wp_region_held_drew (S := fun x => W.grownBy x (some T5)) (by kernel_rfl) (gbI (bl_drew W) _) (fun hH0 => ?_)
 refine tk 1 im5o_1 (.slice (some ⟨A, 0, none⟩) n cA) rfl (by kernel_rfl) hH0 rfl (fun w0 hSw => ?_) ?_
 ·(unfold im5o_1; clear hSw; go_simp)
 simp only [im5o_1, Act.put, sA, sB, sC]
 refine tk 2 im5o_2 (.int .i64 (i : Int)) rfl (by kernel_rfl) hH0 rfl (fun w0 hSw => ?_) ?_
 ·(unfold im5o_2; clear hSw; go_simp)
 simp only [im5o_2, Act.put, sA, sB, sC]
 refine tk 5 im5o_5 (.slice (some ⟨X, 0, none⟩) n cX) rfl (by kernel_rfl) hH0 rfl (fun w0 hSw => ?_) ?_
 ·(unfold im5o_5; clear hSw; go_simp)
 simp only [im5o_5, Act.put, sA, sB, sC]
 refine tk 6 im5o_6 (.int .i64 (i : Int)) rfl (by kernel_rfl) hH0 rfl (fun w0 hSw => ?_) ?_
 ·(unfold im5o_6; clear hSw; go_simp)
 simp only [im5o_6, Act.put, sA, sB, sC]
 refine tk 3 im5o_3 (.pointer (some ⟨A, i * 4, none⟩)) rfl (by kernel_rfl) hH0 rfl (fun w0 hSw => ?_) ?_
 ·(unfold im5o_3; clear hSw; go_simp)
 simp only [im5o_3, Act.put, sA, sB, sC]
 refine tk 7 im5o_7 (.pointer (some ⟨X, i * 4, none⟩)) rfl (by kernel_rfl) hH0 rfl (fun w0 hSw => ?_) ?_
 ·(unfold im5o_7; clear hSw; go_simp)
 simp only [im5o_7, Act.put, sA, sB, sC]
 refine tk 4 im5o_4 (.agg #[.int .u64 a.x0, .int .u64 a.x1, .int .u64 a.x2, .int .u64 a.x3]) rfl (by kernel_rfl) hH0 rfl (fun w0 hSw => ?_) ?_
 ·(unfold im5o_4; have hS : W.grownBy w0 (some T5) := hSw; have a0 := hS.cell ca0 (fun e => neA (Option.some.inj e)); have a1 := hS.cell ca1 (fun e => neA (Option.some.inj e)); have a2 := hS.cell ca2 (fun e => neA (Option.some.inj e)); have a3 := hS.cell ca3 (fun e => neA (Option.some.inj e)); clear hS hSw; go_simp)
 simp only [im5o_4, Act.put, sA, sB, sC]
 refine tk 8 im5o_8 (.agg #[.int .u64 x.x0, .int .u64 x.x1, .int .u64 x.x2, .int .u64 x.x3]) rfl (by kernel_rfl) hH0 rfl (fun w0 hSw => ?_) ?_
 ·(unfold im5o_8; have hS : W.grownBy w0 (some T5) := hSw; have a0 := hS.cell cx0 (fun e => neX (Option.some.inj e)); have a1 := hS.cell cx1 (fun e => neX (Option.some.inj e)); have a2 := hS.cell cx2 (fun e => neX (Option.some.inj e)); have a3 := hS.cell cx3 (fun e => neX (Option.some.inj e)); clear hS hSw; go_simp)
 simp only [im5o_8, Act.put, sA, sB, sC]
 refine wpAnyH_ready (rs := [0, 9]) (by kernel_rfl) (by simp) ?_
 refine AllReadyH.cons (o := im5o_0) rfl (fun K hK => ?_) (AllReadyH.cons (o := im5o_9) rfl (fun K hK => ?_) AllReadyH.nil)
 ·unfold im5o_0
  have HH := hidden hH0
  clear hH0
  refine wp_load_mid 26 _ rfl T5 0 (by rfl) [.int .u64 z.x0, .int .u64 z.x1, .int .u64 z.x2, .int .u64 z.x3] _ RG.out Tryz.underlying26 rfl i4_s ?_
  simp only [Act.put, sA, sB, sC]
  have SN := HH
  clear HH
  refine hK.out _ _ SN.out (fun hH1 => ?_)
  clear hK K SN
  refine wpAnyH_ready (rs := [9]) (by kernel_rfl) (by simp) ?_
  refine AllReadyH.cons (o := im5o_9) rfl (fun K hK => ?_) AllReadyH.nil
  unfold im5o_9
  have HH := hidden hH1
  clear hH1
  go_simp
  refine (C9.out _ HH.out).mono ?_
  rintro e wn2 ⟨rfl, hb⟩
  replace RG := hidden (range_bl RG.out hb)
  replace TH := hidden (Li.there_bl TH.out hb)
  have SN := hidden (HH.out.trans (gbI hb _))
  clear HH C9 hb
  go_wp2_with fail
  refine hK.out _ _ SN.out (fun hH2 => ?_)
  clear hK K SN
  refine wpAnyH_ready (rs := [10]) (by kernel_rfl) (by simp) ?_
  refine AllReadyH.cons (o := im5o_10) rfl (fun K hK => ?_) AllReadyH.nil
  unfold im5o_10
  have HH := hidden hH2
  clear hH2
  go_simp
  refine (C10.out _ HH.out).mono ?_
  rintro e wn3 ⟨rfl, hb⟩
  replace RG := hidden (range_bl RG.out hb)
  replace TH := hidden (Li.there_bl TH.out hb)
  have SN := hidden (HH.out.trans (gbI hb _))
  clear HH C10 hb
  go_wp2_with fail
  refine hK.out _ _ SN.out (fun hH3 => ?_)
  clear hK K SN
  refine wpAnyH_ready (rs := [11]) (by kernel_rfl) (by simp) ?_
  refine AllReadyH.cons (o := im5o_11) rfl (fun K hK => ?_) AllReadyH.nil
  unfold im5o_11
  have HH := hidden hH3
  clear hH3
  refine wp_storeE 26 _ _ rfl T5 0 ([.int .u64 r.x0, .int .u64 r.x1, .int .u64 r.x2, .int .u64 r.x3]) (by rfl) (by rfl) TH.out i4_s (one4 r) rfl (fun wn4 hw => ?_)
  have SN := hidden (HH.out.trans (gb_setCells T5 [.int .u64 r.x0, .int .u64 r.x1, .int .u64 r.x2, .int .u64 r.x3] 0 _))
  have FE := hidden ((⟨_, HH.out, TH.out, hw⟩ : ∃ wy, W.grownBy wy (some T5) ∧ wy.there T5 0 4 ∧ _ = wy.setCells T5 0 [.int .u64 r.x0, .int .u64 r.x1, .int .u64 r.x2, .int .u64 r.x3]))
  rw [← hw] at SN
  clear HH hw
  refine hK.out _ _ SN.out (fun hH4 => ?_)
  clear hK K SN
  have HH := hidden hH4
  have FQ := hidden (HQ.out _ FE.out)
  refine wpAnyH_done (by kernel_rfl) ?_ _
  refine NoPanic.normal ?_
  exact FQ.out
 ·unfold im5o_9
  have HH := hidden hH0
  clear hH0
  go_simp
  refine (C9.out _ HH.out).mono ?_
  rintro e wn1 ⟨rfl, hb⟩
  replace RG := hidden (range_bl RG.out hb)
  replace TH := hidden (Li.there_bl TH.out hb)
  have SN := hidden (HH.out.trans (gbI hb _))
  clear HH C9 hb
  go_wp2_with fail
  refine hK.out _ _ SN.out (fun hH1 => ?_)
  clear hK K SN
  refine wpAnyH_ready (rs := [0]) (by kernel_rfl) (by simp) ?_
  refine AllReadyH.cons (o := im5o_0) rfl (fun K hK => ?_) AllReadyH.nil
  unfold im5o_0
  have HH := hidden hH1
  clear hH1
  refine wp_load_mid 26 _ rfl T5 0 (by rfl) [.int .u64 z.x0, .int .u64 z.x1, .int .u64 z.x2, .int .u64 z.x3] _ RG.out Tryz.underlying26 rfl i4_s ?_
  simp only [Act.put, sA, sB, sC]
  have SN := HH
  clear HH
  refine hK.out _ _ SN.out (fun hH2 => ?_)
  clear hK K SN
  refine wpAnyH_ready (rs := [10]) (by kernel_rfl) (by simp) ?_
  refine AllReadyH.cons (o := im5o_10) rfl (fun K hK => ?_) AllReadyH.nil
  unfold im5o_10
  have HH := hidden hH2
  clear hH2
  go_simp
  refine (C10.out _ HH.out).mono ?_
  rintro e wn3 ⟨rfl, hb⟩
  replace RG := hidden (range_bl RG.out hb)
  replace TH := hidden (Li.there_bl TH.out hb)
  have SN := hidden (HH.out.trans (gbI hb _))
  clear HH C10 hb
  go_wp2_with fail
  refine hK.out _ _ SN.out (fun hH3 => ?_)
  clear hK K SN
  refine wpAnyH_ready (rs := [11]) (by kernel_rfl) (by simp) ?_
  refine AllReadyH.cons (o := im5o_11) rfl (fun K hK => ?_) AllReadyH.nil
  unfold im5o_11
  have HH := hidden hH3
  clear hH3
  refine wp_storeE 26 _ _ rfl T5 0 ([.int .u64 r.x0, .int .u64 r.x1, .int .u64 r.x2, .int .u64 r.x3]) (by rfl) (by rfl) TH.out i4_s (one4 r) rfl (fun wn4 hw => ?_)
  have SN := hidden (HH.out.trans (gb_setCells T5 [.int .u64 r.x0, .int .u64 r.x1, .int .u64 r.x2, .int .u64 r.x3] 0 _))
  have FE := hidden ((⟨_, HH.out, TH.out, hw⟩ : ∃ wy, W.grownBy wy (some T5) ∧ wy.there T5 0 4 ∧ _ = wy.setCells T5 0 [.int .u64 r.x0, .int .u64 r.x1, .int .u64 r.x2, .int .u64 r.x3]))
  rw [← hw] at SN
  clear HH hw
  refine hK.out _ _ SN.out (fun hH4 => ?_)
  clear hK K SN
  have HH := hidden hH4
  have FQ := hidden (HQ.out _ FE.out)
  refine wpAnyH_done (by kernel_rfl) ?_ _
  refine NoPanic.normal ?_
  exact FQ.out
def ims (ks xs : Nat → E4) : Nat → E4
 | 0 => ⟨0, 0, 0, 0⟩
 | i + 1 => lst ((ims ks xs i).n + (lst ((ks i).n * (xs i).n)).n)
theorem ims_ok (ks xs : Nat → E4) : ∀ i, (ims ks xs i).ok
 | 0 => zok
 | i + 1 => lst_ok _
theorem ims_is (ks xs : Nat → E4) : ∀ i, lst (ims ks xs i).n = lst (tot (fun q => (ks q).n * (xs q).n) i)
 | 0 => rfl
 | i + 1 => by
  show lst (lst ((ims ks xs i).n + (lst ((ks i).n * (xs i).n)).n)).n = _
  rw [lst_n', tot]
  exact lst_two (ims_is ks xs i) (lst_n' _)
def Is (w w2 : World) (r : E4) (x : World) : Prop := Below (w.heap.size + 1) w2 x ∧ x.rangeAt (w.heap.size + 1) 0 [.int .u64 r.x0, .int .u64 r.x1, .int .u64 r.x2, .int .u64 r.x3] ∧ x.there (w.heap.size + 1) 0 4
theorem imageR (A X n cA cX : Nat) (ks xs : Nat → E4) (w : World) (hT : Tb w) (hn1 : 1 ≤ n) (hn : n ≤ 64) (oa : ∀ k, k < n → (ks k).ok) (ox : ∀ k, k < n → (xs k).ok) (ha : Rl w A 0 n ks) (hx : Rl w X 0 n xs) :
  Calls Tryz.prog 18 #[.slice (some ⟨A, 0, none⟩) n cA, .slice (some ⟨X, 0, none⟩) n cX] w fun e w' => e = .returned (.agg #[.int .u64 (ims ks xs n).x0, .int .u64 (ims ks xs n).x1, .int .u64 (ims ks xs n).x2, .int .u64 (ims ks xs n).x3]) ∧ Below w.heap.size w w' := by
 have B2 := bl_alloc2 w (.cells #[.int .u64 0, .int .u64 0, .int .u64 0, .int .u64 0] 26) (.cells #[.int .u64 0, .int .u64 0, .int .u64 0, .int .u64 0] 26)
 have S0 : Hid (Is w ((w.alloc (.cells #[.int .u64 0, .int .u64 0, .int .u64 0, .int .u64 0] 26)).alloc (.cells #[.int .u64 0, .int .u64 0, .int .u64 0, .int .u64 0] 26)) (ims ks xs 0) ((w.alloc (.cells #[.int .u64 0, .int .u64 0, .int .u64 0, .int .u64 0] 26)).alloc (.cells #[.int .u64 0, .int .u64 0, .int .u64 0, .int .u64 0] 26))) := hidden ⟨Below.refl _ _, Li.range4 (p := ⟨0, 0, 0, 0⟩) (by go_simp) (by go_simp) (by go_simp) (by go_simp), by
  have := there_newM (w.alloc (.cells #[.int .u64 0, .int .u64 0, .int .u64 0, .int .u64 0] 26)) [.int .u64 0, .int .u64 0, .int .u64 0, .int .u64 0] 26
  simpa [World.size_alloc] using this⟩
 have e0 : ((w.alloc (.cells #[.int .u64 0, .int .u64 0, .int .u64 0, .int .u64 0] 26)).alloc (.cells #[.int .u64 0, .int .u64 0, .int .u64 0, .int .u64 0] 26)).cell? ⟨w.heap.size, 0, none⟩ = some (.int .u64 0) := by go_simp
 have f0 : ((w.alloc (.cells #[.int .u64 0, .int .u64 0, .int .u64 0, .int .u64 0] 26)).alloc (.cells #[.int .u64 0, .int .u64 0, .int .u64 0, .int .u64 0] 26)).frozen? ⟨w.heap.size, 0, none⟩ = false := by go_simp
 have e1 : ((w.alloc (.cells #[.int .u64 0, .int .u64 0, .int .u64 0, .int .u64 0] 26)).alloc (.cells #[.int .u64 0, .int .u64 0, .int .u64 0, .int .u64 0] 26)).cell? ⟨w.heap.size, 1, none⟩ = some (.int .u64 0) := by go_simp
 have f1 : ((w.alloc (.cells #[.int .u64 0, .int .u64 0, .int .u64 0, .int .u64 0] 26)).alloc (.cells #[.int .u64 0, .int .u64 0, .int .u64 0, .int .u64 0] 26)).frozen? ⟨w.heap.size, 1, none⟩ = false := by go_simp
 have e2 : ((w.alloc (.cells #[.int .u64 0, .int .u64 0, .int .u64 0, .int .u64 0] 26)).alloc (.cells #[.int .u64 0, .int .u64 0, .int .u64 0, .int .u64 0] 26)).cell? ⟨w.heap.size, 2, none⟩ = some (.int .u64 0) := by go_simp
 have f2 : ((w.alloc (.cells #[.int .u64 0, .int .u64 0, .int .u64 0, .int .u64 0] 26)).alloc (.cells #[.int .u64 0, .int .u64 0, .int .u64 0, .int .u64 0] 26)).frozen? ⟨w.heap.size, 2, none⟩ = false := by go_simp
 have e3 : ((w.alloc (.cells #[.int .u64 0, .int .u64 0, .int .u64 0, .int .u64 0] 26)).alloc (.cells #[.int .u64 0, .int .u64 0, .int .u64 0, .int .u64 0] 26)).cell? ⟨w.heap.size, 3, none⟩ = some (.int .u64 0) := by go_simp
 have f3 : ((w.alloc (.cells #[.int .u64 0, .int .u64 0, .int .u64 0, .int .u64 0] 26)).alloc (.cells #[.int .u64 0, .int .u64 0, .int .u64 0, .int .u64 0] 26)).frozen? ⟨w.heap.size, 3, none⟩ = false := by go_simp
 have lA := World.block_lt_of_cell? w _ (ha.c0 0 (by omega))
 have lX := World.block_lt_of_cell? w _ (hx.c0 0 (by omega))
 have SZ : Hid (((w.alloc (.cells #[.int .u64 0, .int .u64 0, .int .u64 0, .int .u64 0] 26)).alloc (.cells #[.int .u64 0, .int .u64 0, .int .u64 0, .int .u64 0] 26)).heap.size = w.heap.size + 1 + 1) := hidden (by simp only [World.size_alloc])
 have HH := hidden (And.intro hT (And.intro oa (And.intro ox (And.intro ha hx))))
 have HN := hidden hn
 clear hT oa ox ha hx
 go_enter Tryz.func18, Tryz.ntmps18
 go_upto_region 2 with fail
 generalize ((w.alloc (.cells #[.int .u64 0, .int .u64 0, .int .u64 0, .int .u64 0] 26)).alloc (.cells #[.int .u64 0, .int .u64 0, .int .u64 0, .int .u64 0] 26)) = w2 at *
 go_wp2_with fail
 go_loopw [6] (fun iv w' => ∃ i : Nat, i ≤ n ∧ iv = .int .i64 i ∧ Hid (Is w w2 (ims ks xs i) w')) (fun i _ => n - (intOf i).toNat)
 case atStart => exact ⟨0, by omega, rfl, S0⟩
 case round =>
  obtain ⟨i, hi, rfl, hS⟩ := hrel
  by_cases hin : i < n
  ·have i0 : (0 : Int) ≤ (i : Int) := by omega
   have i1 : (i : Int) < (n : Int) := by omega
   have w9 : IntKind.i64.wrap ((i : Int) + 1) = (i : Int) + 1 := IntWalk.i64_in _ (by have := HN.out; omega)
   go_upto_region 5 with fail
   have BW := below_trans B2 (below_less hS.out.1 (Nat.le_succ _))
   have RA := HH.out.2.2.2.1.keep BW
   have RX := HH.out.2.2.2.2.keep BW
   have y0 := RA.c0 i hin; have y1 := RA.c1 i hin; have y2 := RA.c2 i hin; have y3 := RA.c3 i hin
   have x0 := RX.c0 i hin; have x1 := RX.c1 i hin; have x2 := RX.c2 i hin; have x3 := RX.c3 i hin
   simp only [Nat.zero_add] at x0 x1 x2 x3 y0 y1 y2 y3
   have oa := HH.out.2.1 i hin
   have ox := HH.out.2.2.1 i hin
   have sz := SZ.out
   have sr := hS.out.1.size
   have oz := ims_ok ks xs i
   obtain ⟨u, hu⟩ : ∃ u, lst ((ks i).n * (xs i).n) = u := ⟨_, rfl⟩
   have hr : lst ((ims ks xs i).n + u.n) = ims ks xs (i + 1) := by rw [← hu]; rfl
   have NS : ∀ wy, wr.grownBy wy (some (w.heap.size + 1)) → wy.there (w.heap.size + 1) 0 4 → Is w w2 (ims ks xs (i + 1)) (wy.setCells (w.heap.size + 1) 0 [.int .u64 (ims ks xs (i + 1)).x0, .int .u64 (ims ks xs (i + 1)).x1, .int .u64 (ims ks xs (i + 1)).x2, .int .u64 (ims ks xs (i + 1)).x3]) := fun wy hy ht => by
    have b1 : Below (w.heap.size + 1) w2 wy := below_trans hS.out.1 (below_grown hy (by omega) (fun k hk => by have := Option.some.inj hk; omega))
    exact ⟨below_trans b1 (below_grown (gb_setCells _ _ 0 _) (by have := b1.size; omega) (fun k hk => by have := Option.some.inj hk; omega)), World.rangeAt_setCells_same wy (w.heap.size + 1) 0 _ ht, there_set ht _ 0 _⟩
   have AL : ∀ y, wr.grownBy y (some (w.heap.size + 1)) → Below w.heap.size w y := fun y hy => BW.grown hy BW.size (fun j hj => by obtain rfl := Option.some.inj hj; omega)
   have RG := hS.out.2.1
   have TH := hS.out.2.2
   generalize hv : ims ks xs (i + 1) = rv at hr NS
   have HE := hidden hv
   clear hv
   generalize ims ks xs i = z at *
   generalize ks i = a at *
   generalize xs i = x at *
   have C9 := hidden (fun y (hy : wr.grownBy y (some (w.heap.size + 1))) => fix (R := lst (a.n * x.n)) (Mul_any a x y (HH.out.1.keep (AL y hy)) oa ox) rfl)
   have C10 := hidden (fun y (hy : wr.grownBy y (some (w.heap.size + 1))) => fix (R := lst (z.n + u.n)) (Add_any z u y (HH.out.1.keep (AL y hy)) oz (hu ▸ lst_ok _)) rfl)
   rw [hu] at C9
   rw [hr] at C10
   refine im5 _ A X (w.heap.size + 1) n cA cX i z a x u rv _ _ _ _ _ _ _ _ _ _ _ _ _ _ _ _ _ _ _ _ _ _ wr i0 i1 (by first | omega | (simp only at lA; omega)) (by first | omega | (simp only at lX; omega)) RG TH y0 y1 y2 y3 x0 x1 x2 x3 C9 C10 (hidden ?_)
   intro wz hz
   have PN : Hid (Is w w2 rv wz) := hidden (by
    obtain ⟨wy, hy, hty, rfl⟩ := hz
    exact NS wy hy hty)
   clear C9 C10 AL hz RA RX hS RG TH NS
   go_wp2_with fail
   go_roundw
   case rel => exact ⟨i + 1, by omega, by go_num, by rw [HE.out]; exact PN⟩
   case measure => simp [intOf]; omega
  ·obtain rfl : i = n := by omega
   have lq : ¬ (i : Int) < (i : Int) := by omega
   have a0 := (hS.out.1.cell (p := ⟨w.heap.size, 0, none⟩) (Nat.lt_succ_self _)).trans e0
   have g0 := (hS.out.1.frozen (p := ⟨w.heap.size, 0, none⟩) (Nat.lt_succ_self _)).trans f0
   have t0 : wr.cell? ⟨w.heap.size + 1, 0, none⟩ = some (.int .u64 (ims ks xs i).x0) := hS.out.2.1 0 _ rfl
   have a1 := (hS.out.1.cell (p := ⟨w.heap.size, 1, none⟩) (Nat.lt_succ_self _)).trans e1
   have g1 := (hS.out.1.frozen (p := ⟨w.heap.size, 1, none⟩) (Nat.lt_succ_self _)).trans f1
   have t1 : wr.cell? ⟨w.heap.size + 1, 1, none⟩ = some (.int .u64 (ims ks xs i).x1) := hS.out.2.1 1 _ rfl
   have a2 := (hS.out.1.cell (p := ⟨w.heap.size, 2, none⟩) (Nat.lt_succ_self _)).trans e2
   have g2 := (hS.out.1.frozen (p := ⟨w.heap.size, 2, none⟩) (Nat.lt_succ_self _)).trans f2
   have t2 : wr.cell? ⟨w.heap.size + 1, 2, none⟩ = some (.int .u64 (ims ks xs i).x2) := hS.out.2.1 2 _ rfl
   have a3 := (hS.out.1.cell (p := ⟨w.heap.size, 3, none⟩) (Nat.lt_succ_self _)).trans e3
   have g3 := (hS.out.1.frozen (p := ⟨w.heap.size, 3, none⟩) (Nat.lt_succ_self _)).trans f3
   have t3 : wr.cell? ⟨w.heap.size + 1, 3, none⟩ = some (.int .u64 (ims ks xs i).x3) := hS.out.2.1 3 _ rfl
   go_wp2_with fail
   have BF := below_trans (below_trans B2 (below_less hS.out.1 (Nat.le_succ _))) (below_grown (gb_setCells w.heap.size [.int .u64 (ims ks xs i).x0, .int .u64 (ims ks xs i).x1, .int .u64 (ims ks xs i).x2, .int .u64 (ims ks xs i).x3] 0 wr) (by have := hS.out.1.size; have := SZ.out; omega) (fun k hk => by have := Option.some.inj hk; omega))
   refine bodyPost_ret (v := .agg #[.int .u64 (ims ks xs i).x0, .int .u64 (ims ks xs i).x1, .int .u64 (ims ks xs i).x2, .int .u64 (ims ks xs i).x3]) (by simp [results, Tryz.results18, go_sem, a0, a1, a2, a3]) rfl ⟨rfl, BF⟩
open Go.RowKit
theorem one4c (a : E4) : ∀ u ∈ [Value.int .u64 a.x0, .int .u64 a.x1, .int .u64 a.x2, .int .u64 a.x3], u.oneCell' = true := by simp [Value.oneCell']
def Fi (n : Nat) (gs : Nat → Nat → E4) (xs : Nat → E4) (i : Nat) : E4 := ims (gs i) xs n
theorem imagesR (R X r n cR cX : Nat) (g cn : Nat → Nat) (gs : Nat → Nat → E4) (xs : Nat → E4) (w : World) (hT : Tb w) (hr2 : r ≤ 64) (hn1 : 1 ≤ n) (hn : n ≤ 64) (hrow : ∀ i, i < r → w.cell? ⟨R, i, none⟩ = some (.slice (some ⟨g i, 0, none⟩) n (cn i))) (hrl : ∀ i, i < r → Rl w (g i) 0 n (gs i)) (og : ∀ i, i < r → ∀ j, j < n → (gs i j).ok) (ox : ∀ k, k < n → (xs k).ok) (hx : Rl w X 0 n xs) :
  Calls Tryz.prog 6 #[.slice (some ⟨R, 0, none⟩) r cR, .slice (some ⟨X, 0, none⟩) n cX] w fun e w' => ∃ L : Value, e = .returned L ∧ w'.ownsRow w.heap.size 26 4 L r (svs r (Fi n gs xs)) ∧ Below w.heap.size w w' := by
 obtain ⟨i0, hi, hz0, hz1, hz2⟩ := info_parts scinfo
 have HI := hidden hi
 have HZ0 := hidden hz0
 have HZ1 := hidden hz1
 have HZ2 := hidden hz2
 have HU : Hid (Tryz.prog.underlying 23 = some (.slice 26)) := hidden (by kernel_rfl)
 have HR2 := hidden hr2
 have HC := hidden (fun i (hi : i < r) (x : World) (hb : Below w.heap.size w x) => imageR (g i) X n (cn i) cX (gs i) xs x (hT.keep hb) hn1 hn (og i hi) ox ((hrl i hi).keep hb) (hx.keep hb))
 have HW := hidden hrow
 clear hi hz0 hz1 hz2 hT hrow hrl og ox hx
 go_enter Tryz.func6, Tryz.ntmps6
 go_wp2_with fail
 go_loopw [5, 6] (fun cv kv w' => ∃ k : Nat, k ≤ r ∧ kv = .int .i64 (k : Int) ∧ Hid (w'.ownsRow w.heap.size 26 4 cv k (svs k (Fi n gs xs))) ∧ Hid (Below w.heap.size w w')) (fun _ k _ => r - (intOf k).toNat)
 case atStart => exact ⟨0, by omega, rfl, hidden (World.ownsRow_nil _ _ _ _), hidden (Below.refl _ _)⟩
 case round =>
  obtain ⟨k, hk, rfl, hO, hB⟩ := hrel
  by_cases hkn : k < r
  ·have k0 : (0 : Int) ≤ (k : Int) := by omega
   have k1 : (k : Int) < (r : Int) := by omega
   have w9 : IntKind.i64.wrap ((k : Int) + 1) = (k : Int) + 1 := IntWalk.i64_in _ (by have := HR2.out; omega)
   have rk := cell_keep (HW.out k hkn) hB.out
   have IC := hidden (HC.out k hkn _ hB.out)
   have NX := hidden (svs_succ k (Fi n gs xs))
   generalize ha : Fi n gs xs k = a at NX
   rw [show ims (gs k) xs n = a from ha] at IC
   clear ha
   generalize g k = gk at *
   generalize cn k = ck at *
   go_wp2_with (first
    | (go_at_call 18; refine IC.out.mono ?_; rintro e wa ⟨rfl, hb⟩; have OA := hidden (Tr.own_stay hO.out hb); have BA := hidden (bl_trans hB.out hb); clear hb IC rk hO hB)
    | (at_builtin; refine wpList_append_own_at _ rfl _ _ 23 rfl w.heap.size 26 i0 (.agg #[.int .u64 0, .int .u64 0, .int .u64 0, .int .u64 0]) 4 32 HU.out HI.out HZ0.out HZ1.out HZ2.out rfl (by decide) _ k (svs k (Fi n gs xs)) rfl (OA.out.alloc (.cells #[.int .u64 a.x0, .int .u64 a.x1, .int .u64 a.x2, .int .u64 a.x3] 26)) ⟨wa.heap.size, 0, none⟩ 1 1 [.int .u64 a.x0, .int .u64 a.x1, .int .u64 a.x2, .int .u64 a.x3] rfl rfl (cells_new wa [.int .u64 a.x0, .int .u64 a.x1, .int .u64 a.x2, .int .u64 a.x3] 26) (one4c a) (by have := HR2.out; unfold maxLen; omega) (by have := HR2.out; omega) (by have := BA.out.size; simp; omega) ?_; intro v4 w4 how4 hgr4 hnil4 hat4; have HO4 := hidden how4; have B4 := hidden (below_trans (bl_trans BA.out (bl_alloc wa (.cells #[.int .u64 a.x0, .int .u64 a.x1, .int .u64 a.x2, .int .u64 a.x3] 26))) (below_grown hgr4 (by have := BA.out.size; simp; omega) (fun k hk => ((OA.out.alloc (.cells #[.int .u64 a.x0, .int .u64 a.x1, .int .u64 a.x2, .int .u64 a.x3] 26)).lt k hk).1))); clear how4 hgr4 hnil4 hat4 OA BA))
   go_roundw
   case rel => exact ⟨k + 1, by omega, by go_num, hidden (by rw [NX.out]; exact HO4.out), B4⟩
   case measure => simp [intOf]; omega
  ·obtain rfl : k = r := by omega
   have lq : ¬ (k : Int) < (k : Int) := by omega
   go_wp2_with fail
   exact bodyPost_ret (by simp [results, Tryz.results6, go_sem]) rfl ⟨_, rfl, hO.out, hB.out⟩
open Go.RowKit
theorem svs_at (n : Nat) (g : Nat → E4) (ys : List Value) (i : Nat) (hi : i < n) : (svs n g ++ ys)[i * 4]? = some (.int .u64 (g i).x0) ∧ (svs n g ++ ys)[i * 4 + 1]? = some (.int .u64 (g i).x1) ∧ (svs n g ++ ys)[i * 4 + 2]? = some (.int .u64 (g i).x2) ∧ (svs n g ++ ys)[i * 4 + 3]? = some (.int .u64 (g i).x3) := by
 induction n generalizing ys with
 | zero => omega
 | succ n ih =>
  rw [svs_succ, List.append_assoc]
  by_cases e : i < n
  ·exact ih _ e
  ·obtain rfl : i = n := by omega
   have l := svs_len i g
   refine ⟨?_, ?_, ?_, ?_⟩ <;> (rw [List.getElem?_append_right (by omega), l]; simp)
theorem own_rlS {w : World} {B g n m cap : Nat} {t : TypeId} {f : Nat → E4} {ys : List Value} (h : w.ownsRow B t 4 (.slice (some ⟨g, 0, none⟩) m cap) m (svs n f ++ ys)) (hnm : n ≤ m) : Rl w g 0 n f := by
 have c : ∀ j, j < m * 4 → w.cell? ⟨g, j, none⟩ = (svs n f ++ ys)[j]? := fun j hj => h.cellAt j hj
 exact ⟨fun k hk => by rw [Nat.zero_add, c _ (by omega)]; exact (svs_at n f ys k hk).1, fun k hk => by rw [Nat.zero_add, c _ (by omega)]; exact (svs_at n f ys k hk).2.1, fun k hk => by rw [Nat.zero_add, c _ (by omega)]; exact (svs_at n f ys k hk).2.2.1, fun k hk => by rw [Nat.zero_add, c _ (by omega)]; exact (svs_at n f ys k hk).2.2.2⟩
theorem own_shapeS {w : World} {base n s : Nat} {e : TypeId} {v : Value} {xs : List Value} (h : w.ownsRow base e s v n xs) (hn : 0 < n) : ∃ g c : Nat, v = .slice (some ⟨g, 0, none⟩) n c ∧ n ≤ c ∧ base ≤ g ∧ g < w.heap.size := by
 have hl := h.lt
 rcases h.2 with ⟨_, h0⟩ | ⟨g, cap, cur, rfl, hB, _, hnc, _⟩
 ·omega
 ·exact ⟨g, cap, rfl, hnc, hB, (hl g rfl).2⟩
theorem marksR (lb n lc : Nat) (ks : Nat → E4) (w : World) (hn : n ≤ 64) (hr : Rl w lb 0 n ks) :
  Calls Tryz.prog 50 #[.slice (some ⟨lb, 0, none⟩) n lc] w fun e w' => ∃ L : Value, e = .returned L ∧ w'.ownsRow w.heap.size 39 4 L (n + 2) (svs n ks ++ [.int .u64 91, .int .u64 0, .int .u64 0, .int .u64 0, .int .u64 92, .int .u64 0, .int .u64 0, .int .u64 0]) ∧ Below w.heap.size w w' := by
 obtain ⟨i0, hi, hz0, hz1, hz2⟩ := info_parts Li.linfo
 have HI := hidden hi
 have HZ0 := hidden hz0
 have HZ1 := hidden hz1
 have HZ2 := hidden hz2
 have HU : Hid (Tryz.prog.underlying 41 = some (.slice 39)) := hidden (by kernel_rfl)
 have HN := hidden hn
 have HR := hidden hr
 clear hi hz0 hz1 hz2 hr
 go_enter Tryz.func50, Tryz.ntmps50
 go_wp2_with fail
 go_loopw [3, 4] (fun cv kv w' => ∃ k : Nat, k ≤ n ∧ kv = .int .i64 (k : Int) ∧ Hid (w'.ownsRow w.heap.size 39 4 cv k (svs k ks)) ∧ Hid (Below w.heap.size w w')) (fun _ k _ => n - (intOf k).toNat)
 case atStart => exact ⟨0, by omega, rfl, hidden (World.ownsRow_nil _ _ _ _), hidden (Below.refl _ _)⟩
 case round =>
  obtain ⟨k, hk, rfl, hO, hB⟩ := hrel
  by_cases hkn : k < n
  ·have k0 : (0 : Int) ≤ (k : Int) := by omega
   have k1 : (k : Int) < (n : Int) := by omega
   have w9 : IntKind.i64.wrap ((k : Int) + 1) = (k : Int) + 1 := IntWalk.i64_in _ (by have := HN.out; omega)
   have RR := HR.out.keep hB.out
   have x0 := RR.c0 k hkn; have x1 := RR.c1 k hkn; have x2 := RR.c2 k hkn; have x3 := RR.c3 k hkn
   simp only [Nat.zero_add] at x0 x1 x2 x3
   have NX := hidden (svs_succ k ks)
   generalize ha : ks k = a at NX x0 x1 x2 x3
   clear ha RR
   go_wp2_with (first | (at_builtin; refine wpList_append_own_at _ rfl _ _ 41 rfl w.heap.size 39 i0 (.agg #[.int .u64 0, .int .u64 0, .int .u64 0, .int .u64 0]) 4 32 HU.out HI.out HZ0.out HZ1.out HZ2.out rfl (by decide) _ k (svs k ks) rfl (hO.out.alloc (.cells #[.int .u64 a.x0, .int .u64 a.x1, .int .u64 a.x2, .int .u64 a.x3] 39)) ⟨wr.heap.size, 0, none⟩ 1 1 [.int .u64 a.x0, .int .u64 a.x1, .int .u64 a.x2, .int .u64 a.x3] rfl rfl (cells_new wr [.int .u64 a.x0, .int .u64 a.x1, .int .u64 a.x2, .int .u64 a.x3] 39) (one4c a) (by have := HN.out; unfold maxLen; omega) (by have := HN.out; omega) (by have := hB.out.size; simp; omega) ?_; intro v4 w4 how4 hgr4 hnil4 hat4; have HO4 := hidden how4; have B4 := hidden (below_trans (bl_trans hB.out (bl_alloc wr (.cells #[.int .u64 a.x0, .int .u64 a.x1, .int .u64 a.x2, .int .u64 a.x3] 39))) (below_grown hgr4 (by have := hB.out.size; simp; omega) (fun k hk => ((hO.out.alloc (.cells #[.int .u64 a.x0, .int .u64 a.x1, .int .u64 a.x2, .int .u64 a.x3] 39)).lt k hk).1))); clear how4 hgr4 hnil4 hat4 hO hB x0 x1 x2 x3))
   go_roundw
   case rel => exact ⟨k + 1, by omega, by go_num, hidden (by rw [NX.out]; exact HO4.out), B4⟩
   case measure => simp [intOf]; omega
  ·obtain rfl : k = n := by omega
   have lq : ¬ (k : Int) < (k : Int) := by omega
   go_wp2_with (first | (at_builtin; refine wpList_append_own_at _ rfl _ _ 41 rfl w.heap.size 39 i0 (.agg #[.int .u64 0, .int .u64 0, .int .u64 0, .int .u64 0]) 4 32 HU.out HI.out HZ0.out HZ1.out HZ2.out rfl (by decide) _ k (svs k ks) rfl (hO.out.alloc (.cells #[.int .u64 91, .int .u64 0, .int .u64 0, .int .u64 0, .int .u64 92, .int .u64 0, .int .u64 0, .int .u64 0] 39)) ⟨wr.heap.size, 0, none⟩ 2 2 [.int .u64 91, .int .u64 0, .int .u64 0, .int .u64 0, .int .u64 92, .int .u64 0, .int .u64 0, .int .u64 0] rfl rfl (cells_new wr [.int .u64 91, .int .u64 0, .int .u64 0, .int .u64 0, .int .u64 92, .int .u64 0, .int .u64 0, .int .u64 0] 39) (by simp [Value.oneCell']) (by have := HN.out; unfold maxLen; omega) (by have := HN.out; omega) (by have := hB.out.size; simp; omega) ?_; intro v4 w4 how4 hgr4 hnil4 hat4; have HO4 := hidden how4; have B4 := hidden (below_trans (bl_trans hB.out (bl_alloc wr (.cells #[.int .u64 91, .int .u64 0, .int .u64 0, .int .u64 0, .int .u64 92, .int .u64 0, .int .u64 0, .int .u64 0] 39))) (below_grown hgr4 (by have := hB.out.size; simp; omega) (fun k hk => ((hO.out.alloc (.cells #[.int .u64 91, .int .u64 0, .int .u64 0, .int .u64 0, .int .u64 92, .int .u64 0, .int .u64 0, .int .u64 0] 39)).lt k hk).1))); clear how4 hgr4 hnil4 hat4 hO hB))
   exact bodyPost_ret (by simp [results, Tryz.results50, go_sem]) rfl ⟨_, rfl, HO4.out, B4.out⟩
theorem linesR (lb n lc : Nat) (ks : Nat → E4) (w : World) (hn1 : 1 ≤ n) (hn : n ≤ 64) (hr : Rl w lb 0 n ks) :
  Calls Tryz.prog 34 #[.slice (some ⟨lb, 0, none⟩) n lc] w fun e w' => ∃ G c : Nat, e = .returned (.slice (some ⟨G, 0, none⟩) n c) ∧ w.heap.size ≤ G ∧ Rl w' G 0 n ks ∧ Below w.heap.size w w' := by
 have MM := hidden (marksR lb n lc ks w hn hr)
 have n0 : (0 : Int) ≤ (n : Int) := by omega
 clear hr
 go_enter Tryz.func34, Tryz.ntmps34
 go_wp2_with (first | (go_at_call 50; refine MM.out.mono ?_; rintro e wa ⟨L, rfl, ho, hb⟩; obtain ⟨gg, cp, rfl, hcp, hgb, hgl⟩ := own_shapeS ho (by omega); have c1 : (n : Int) ≤ (cp : Int) := (by omega); have RR := hidden (And.intro hgb (And.intro (own_rlS ho (by omega)) hb)); clear ho hb MM))
 obtain ⟨h1, h2, h3⟩ := RR.out
 exact bodyPost_ret (v := .slice (some ⟨gg, 0, none⟩) n cp) (by simp [results, Tryz.results34, go_sem]) rfl ⟨gg, cp, rfl, h1, h2, h3⟩
open Go.RowKit
theorem pinfo5 : (Tryz.prog.info? 77).map (·.size) = some 5 := by kernel_rfl
theorem one5 (p : E4) (Pa : Option Addr) (Pn Pc : Nat) : ([.int .u64 p.x0, .int .u64 p.x1, .int .u64 p.x2, .int .u64 p.x3, .slice Pa Pn Pc] : List Value).toArray.all (·.oneCell') = true := by simp [Value.oneCell']
def io3o_0 : Oper := { dst := some 12, op := Op.load 77 (Operand.tmp 4), type := 77, pos := "proofs.go:129", after := #[], guard := none }
def io3o_1 : Oper := { dst := some 13, op := Op.load 77 (Operand.tmp 5), type := 77, pos := "proofs.go:129", after := #[{ on := 2, ground := Ground.gcOnly Departure.lateStores }], guard := none }
def io3o_2 : Oper := { dst := none, op := Op.store 77 (Operand.tmp 6) (Operand.tmp 12), type := 0, pos := "proofs.go:129", after := #[{ on := 0, ground := Ground.data }, { on := 0, ground := Ground.phase }, { on := 1, ground := Ground.textOnly Departure.lateStores }], guard := none }
def io3o_3 : Oper := { dst := none, op := Op.store 77 (Operand.tmp 7) (Operand.tmp 13), type := 0, pos := "proofs.go:129", after := #[{ on := 1, ground := Ground.data }, { on := 2, ground := Ground.chain }, { on := 0, ground := Ground.phase }, { on := 1, ground := Ground.phase }, { on := 2, ground := Ground.phase }], guard := none }
def io3o : Array Oper := #[io3o_0, io3o_1, io3o_2, io3o_3]
theorem io3 (Q : Exit → Act → World → Prop) (T4 T5 T6 T7 : Nat) (p q : E4) (Pa Qa : Option Addr) (Pn Pc Qn Qc : Nat) (u0 u1 u2 u3 u8 u9 u10 u11 u12 u13 : Value) (W : World)
  (hW : T6 ≤ W.heap.size) (h7 : T6 < T7) (l4 : T4 < T6) (l5 : T5 < T6) (r6 : W.rangeAt T6 0 [.int .u64 0, .int .u64 0, .int .u64 0, .int .u64 0, .slice none 0 0]) (r7 : W.rangeAt T7 0 [.int .u64 0, .int .u64 0, .int .u64 0, .int .u64 0, .slice none 0 0]) (th6 : W.there T6 0 5) (th7 : W.there T7 0 5) (cp0 : W.cell? ⟨T4, 0, none⟩ = some (.int .u64 p.x0)) (cp1 : W.cell? ⟨T4, 1, none⟩ = some (.int .u64 p.x1)) (cp2 : W.cell? ⟨T4, 2, none⟩ = some (.int .u64 p.x2)) (cp3 : W.cell? ⟨T4, 3, none⟩ = some (.int .u64 p.x3)) (cp4 : W.cell? ⟨T4, 4, none⟩ = some (.slice Pa Pn Pc)) (cq0 : W.cell? ⟨T5, 0, none⟩ = some (.int .u64 q.x0)) (cq1 : W.cell? ⟨T5, 1, none⟩ = some (.int .u64 q.x1)) (cq2 : W.cell? ⟨T5, 2, none⟩ = some (.int .u64 q.x2)) (cq3 : W.cell? ⟨T5, 3, none⟩ = some (.int .u64 q.x3)) (cq4 : W.cell? ⟨T5, 4, none⟩ = some (.slice Qa Qn Qc))
  (HQ : Hid (∀ (wz : World), (Below T6 W wz ∧ wz.rangeAt T6 0 [.int .u64 p.x0, .int .u64 p.x1, .int .u64 p.x2, .int .u64 p.x3, .slice Pa Pn Pc] ∧ wz.rangeAt T7 0 [.int .u64 q.x0, .int .u64 q.x1, .int .u64 q.x2, .int .u64 q.x3, .slice Qa Qn Qc]) → Q .normal ⟨#[u0, u1, u2, u3, .pointer (some ⟨T4, 0, none⟩), .pointer (some ⟨T5, 0, none⟩), .pointer (some ⟨T6, 0, none⟩), .pointer (some ⟨T7, 0, none⟩), u8, u9, u10, u11, .agg #[.int .u64 p.x0, .int .u64 p.x1, .int .u64 p.x2, .int .u64 p.x3, .slice Pa Pn Pc], .agg #[.int .u64 q.x0, .int .u64 q.x1, .int .u64 q.x2, .int .u64 q.x3, .slice Qa Qn Qc]], []⟩ wz)) : (Code.region 3 io3o true).wp Tryz.prog Q ⟨#[u0, u1, u2, u3, .pointer (some ⟨T4, 0, none⟩), .pointer (some ⟨T5, 0, none⟩), .pointer (some ⟨T6, 0, none⟩), .pointer (some ⟨T7, 0, none⟩), u8, u9, u10, u11, u12, u13], []⟩ W := by
 have R6 := hidden (range_bl r6 (bl_drew W))
 have R7 := hidden (range_bl r7 (bl_drew W))
 have TH6 := hidden (Li.there_bl th6 (bl_drew W))
 have TH7 := hidden (Li.there_bl th7 (bl_drew W))
 clear r6 r7 th6 th7
 unfold io3o
 refine wp_region_noPanic ?_
 refine wp_region_held_drew (S := fun x => Below T6 W x) (by kernel_rfl) (below_less (bl_drew W) hW) (fun hH0 => ?_)
 refine tk 0 io3o_0 (.agg #[.int .u64 p.x0, .int .u64 p.x1, .int .u64 p.x2, .int .u64 p.x3, .slice Pa Pn Pc]) rfl (by kernel_rfl) hH0 rfl (fun w0 hSw => ?_) ?_
 ·(unfold io3o_0; have hS : Below T6 W w0 := hSw; have a0 := (hS.cell (p := ⟨T4, 0, none⟩) l4).trans cp0; have a1 := (hS.cell (p := ⟨T4, 1, none⟩) l4).trans cp1; have a2 := (hS.cell (p := ⟨T4, 2, none⟩) l4).trans cp2; have a3 := (hS.cell (p := ⟨T4, 3, none⟩) l4).trans cp3; have a4 := (hS.cell (p := ⟨T4, 4, none⟩) l4).trans cp4; clear hS hSw; go_simp)
 simp only [io3o_0, Act.put, sA, sB, sC]
 refine tk 1 io3o_1 (.agg #[.int .u64 q.x0, .int .u64 q.x1, .int .u64 q.x2, .int .u64 q.x3, .slice Qa Qn Qc]) rfl (by kernel_rfl) hH0 rfl (fun w0 hSw => ?_) ?_
 ·(unfold io3o_1; have hS : Below T6 W w0 := hSw; have a0 := (hS.cell (p := ⟨T5, 0, none⟩) l5).trans cq0; have a1 := (hS.cell (p := ⟨T5, 1, none⟩) l5).trans cq1; have a2 := (hS.cell (p := ⟨T5, 2, none⟩) l5).trans cq2; have a3 := (hS.cell (p := ⟨T5, 3, none⟩) l5).trans cq3; have a4 := (hS.cell (p := ⟨T5, 4, none⟩) l5).trans cq4; clear hS hSw; go_simp)
 simp only [io3o_1, Act.put, sA, sB, sC]
 refine wpAnyH_ready (rs := [2]) (by kernel_rfl) (by simp) ?_
 refine AllReadyH.cons (o := io3o_2) rfl (fun K hK => ?_) AllReadyH.nil
 unfold io3o_2
 have HH := hidden hH0
 clear hH0
 refine wp_storeE 77 _ _ rfl T6 0 ([.int .u64 p.x0, .int .u64 p.x1, .int .u64 p.x2, .int .u64 p.x3, .slice Pa Pn Pc]) (by rfl) (by rfl) TH6.out pinfo5 (one5 p Pa Pn Pc) rfl (fun wn1 hw => ?_)
 have SN := hidden (below_trans HH.out (below_grown (gb_setCells T6 [.int .u64 p.x0, .int .u64 p.x1, .int .u64 p.x2, .int .u64 p.x3, .slice Pa Pn Pc] 0 _) (Nat.le_trans hW HH.out.size) (fun k hk => by have := Option.some.inj hk; omega)))
 replace R6 := hidden (World.rangeAt_setCells_same _ T6 0 [.int .u64 p.x0, .int .u64 p.x1, .int .u64 p.x2, .int .u64 p.x3, .slice Pa Pn Pc] TH6.out)
 replace R7 := hidden (World.rangeAt_setCells_apart R7.out T6 0 [.int .u64 p.x0, .int .u64 p.x1, .int .u64 p.x2, .int .u64 p.x3, .slice Pa Pn Pc] (.inl (by omega)))
 replace TH6 := hidden (there_set TH6.out T6 0 [.int .u64 p.x0, .int .u64 p.x1, .int .u64 p.x2, .int .u64 p.x3, .slice Pa Pn Pc])
 replace TH7 := hidden (there_set TH7.out T6 0 [.int .u64 p.x0, .int .u64 p.x1, .int .u64 p.x2, .int .u64 p.x3, .slice Pa Pn Pc])
 rw [← hw] at SN R6 R7 TH6 TH7
 clear HH hw
 refine hK.out _ _ SN.out (fun hH1 => ?_)
 clear hK K SN
 refine wpAnyH_ready (rs := [3]) (by kernel_rfl) (by simp) ?_
 refine AllReadyH.cons (o := io3o_3) rfl (fun K hK => ?_) AllReadyH.nil
 unfold io3o_3
 have HH := hidden hH1
 clear hH1
 refine wp_storeE 77 _ _ rfl T7 0 ([.int .u64 q.x0, .int .u64 q.x1, .int .u64 q.x2, .int .u64 q.x3, .slice Qa Qn Qc]) (by rfl) (by rfl) TH7.out pinfo5 (one5 q Qa Qn Qc) rfl (fun wn2 hw => ?_)
 have SN := hidden (below_trans HH.out (below_grown (gb_setCells T7 [.int .u64 q.x0, .int .u64 q.x1, .int .u64 q.x2, .int .u64 q.x3, .slice Qa Qn Qc] 0 _) (Nat.le_trans hW HH.out.size) (fun k hk => by have := Option.some.inj hk; omega)))
 replace R7 := hidden (World.rangeAt_setCells_same _ T7 0 [.int .u64 q.x0, .int .u64 q.x1, .int .u64 q.x2, .int .u64 q.x3, .slice Qa Qn Qc] TH7.out)
 replace R6 := hidden (World.rangeAt_setCells_apart R6.out T7 0 [.int .u64 q.x0, .int .u64 q.x1, .int .u64 q.x2, .int .u64 q.x3, .slice Qa Qn Qc] (.inl (by omega)))
 replace TH6 := hidden (there_set TH6.out T7 0 [.int .u64 q.x0, .int .u64 q.x1, .int .u64 q.x2, .int .u64 q.x3, .slice Qa Qn Qc])
 replace TH7 := hidden (there_set TH7.out T7 0 [.int .u64 q.x0, .int .u64 q.x1, .int .u64 q.x2, .int .u64 q.x3, .slice Qa Qn Qc])
 rw [← hw] at SN R7 R6 TH6 TH7
 clear HH hw
 refine hK.out _ _ SN.out (fun hH2 => ?_)
 clear hK K SN
 have HH := hidden hH2
 have FQ := hidden (HQ.out _ ⟨HH.out, R6.out, R7.out⟩)
 refine wpAnyH_done (by kernel_rfl) ?_ _
 refine NoPanic.normal ?_
 exact FQ.out
def io2o_0 : Oper := { dst := some 10, op := Op.load 77 (Operand.tmp 5), type := 77, pos := "proofs.go:127", after := #[], guard := none }
def io2o_1 : Oper := { dst := some 11, op := Op.load 77 (Operand.tmp 4), type := 77, pos := "proofs.go:127", after := #[{ on := 2, ground := Ground.gcOnly Departure.lateStores }], guard := none }
def io2o_2 : Oper := { dst := none, op := Op.store 77 (Operand.tmp 6) (Operand.tmp 10), type := 0, pos := "proofs.go:127", after := #[{ on := 0, ground := Ground.data }, { on := 0, ground := Ground.phase }, { on := 1, ground := Ground.textOnly Departure.lateStores }], guard := none }
def io2o_3 : Oper := { dst := none, op := Op.store 77 (Operand.tmp 7) (Operand.tmp 11), type := 0, pos := "proofs.go:127", after := #[{ on := 1, ground := Ground.data }, { on := 2, ground := Ground.chain }, { on := 0, ground := Ground.phase }, { on := 1, ground := Ground.phase }, { on := 2, ground := Ground.phase }], guard := none }
def io2o : Array Oper := #[io2o_0, io2o_1, io2o_2, io2o_3]
theorem io2 (Q : Exit → Act → World → Prop) (T4 T5 T6 T7 : Nat) (p q : E4) (Pa Qa : Option Addr) (Pn Pc Qn Qc : Nat) (u0 u1 u2 u3 u8 u9 u10 u11 u12 u13 : Value) (W : World)
  (hW : T6 ≤ W.heap.size) (h7 : T6 < T7) (l4 : T4 < T6) (l5 : T5 < T6) (r6 : W.rangeAt T6 0 [.int .u64 0, .int .u64 0, .int .u64 0, .int .u64 0, .slice none 0 0]) (r7 : W.rangeAt T7 0 [.int .u64 0, .int .u64 0, .int .u64 0, .int .u64 0, .slice none 0 0]) (th6 : W.there T6 0 5) (th7 : W.there T7 0 5) (cp0 : W.cell? ⟨T4, 0, none⟩ = some (.int .u64 p.x0)) (cp1 : W.cell? ⟨T4, 1, none⟩ = some (.int .u64 p.x1)) (cp2 : W.cell? ⟨T4, 2, none⟩ = some (.int .u64 p.x2)) (cp3 : W.cell? ⟨T4, 3, none⟩ = some (.int .u64 p.x3)) (cp4 : W.cell? ⟨T4, 4, none⟩ = some (.slice Pa Pn Pc)) (cq0 : W.cell? ⟨T5, 0, none⟩ = some (.int .u64 q.x0)) (cq1 : W.cell? ⟨T5, 1, none⟩ = some (.int .u64 q.x1)) (cq2 : W.cell? ⟨T5, 2, none⟩ = some (.int .u64 q.x2)) (cq3 : W.cell? ⟨T5, 3, none⟩ = some (.int .u64 q.x3)) (cq4 : W.cell? ⟨T5, 4, none⟩ = some (.slice Qa Qn Qc))
  (HQ : Hid (∀ (wz : World), (Below T6 W wz ∧ wz.rangeAt T6 0 [.int .u64 q.x0, .int .u64 q.x1, .int .u64 q.x2, .int .u64 q.x3, .slice Qa Qn Qc] ∧ wz.rangeAt T7 0 [.int .u64 p.x0, .int .u64 p.x1, .int .u64 p.x2, .int .u64 p.x3, .slice Pa Pn Pc]) → Q .normal ⟨#[u0, u1, u2, u3, .pointer (some ⟨T4, 0, none⟩), .pointer (some ⟨T5, 0, none⟩), .pointer (some ⟨T6, 0, none⟩), .pointer (some ⟨T7, 0, none⟩), u8, u9, .agg #[.int .u64 q.x0, .int .u64 q.x1, .int .u64 q.x2, .int .u64 q.x3, .slice Qa Qn Qc], .agg #[.int .u64 p.x0, .int .u64 p.x1, .int .u64 p.x2, .int .u64 p.x3, .slice Pa Pn Pc], u12, u13], []⟩ wz)) : (Code.region 2 io2o true).wp Tryz.prog Q ⟨#[u0, u1, u2, u3, .pointer (some ⟨T4, 0, none⟩), .pointer (some ⟨T5, 0, none⟩), .pointer (some ⟨T6, 0, none⟩), .pointer (some ⟨T7, 0, none⟩), u8, u9, u10, u11, u12, u13], []⟩ W := by
 have R6 := hidden (range_bl r6 (bl_drew W))
 have R7 := hidden (range_bl r7 (bl_drew W))
 have TH6 := hidden (Li.there_bl th6 (bl_drew W))
 have TH7 := hidden (Li.there_bl th7 (bl_drew W))
 clear r6 r7 th6 th7
 unfold io2o
 refine wp_region_noPanic ?_
 refine wp_region_held_drew (S := fun x => Below T6 W x) (by kernel_rfl) (below_less (bl_drew W) hW) (fun hH0 => ?_)
 refine tk 0 io2o_0 (.agg #[.int .u64 q.x0, .int .u64 q.x1, .int .u64 q.x2, .int .u64 q.x3, .slice Qa Qn Qc]) rfl (by kernel_rfl) hH0 rfl (fun w0 hSw => ?_) ?_
 ·(unfold io2o_0; have hS : Below T6 W w0 := hSw; have a0 := (hS.cell (p := ⟨T5, 0, none⟩) l5).trans cq0; have a1 := (hS.cell (p := ⟨T5, 1, none⟩) l5).trans cq1; have a2 := (hS.cell (p := ⟨T5, 2, none⟩) l5).trans cq2; have a3 := (hS.cell (p := ⟨T5, 3, none⟩) l5).trans cq3; have a4 := (hS.cell (p := ⟨T5, 4, none⟩) l5).trans cq4; clear hS hSw; go_simp)
 simp only [io2o_0, Act.put, sA, sB, sC]
 refine tk 1 io2o_1 (.agg #[.int .u64 p.x0, .int .u64 p.x1, .int .u64 p.x2, .int .u64 p.x3, .slice Pa Pn Pc]) rfl (by kernel_rfl) hH0 rfl (fun w0 hSw => ?_) ?_
 ·(unfold io2o_1; have hS : Below T6 W w0 := hSw; have a0 := (hS.cell (p := ⟨T4, 0, none⟩) l4).trans cp0; have a1 := (hS.cell (p := ⟨T4, 1, none⟩) l4).trans cp1; have a2 := (hS.cell (p := ⟨T4, 2, none⟩) l4).trans cp2; have a3 := (hS.cell (p := ⟨T4, 3, none⟩) l4).trans cp3; have a4 := (hS.cell (p := ⟨T4, 4, none⟩) l4).trans cp4; clear hS hSw; go_simp)
 simp only [io2o_1, Act.put, sA, sB, sC]
 refine wpAnyH_ready (rs := [2]) (by kernel_rfl) (by simp) ?_
 refine AllReadyH.cons (o := io2o_2) rfl (fun K hK => ?_) AllReadyH.nil
 unfold io2o_2
 have HH := hidden hH0
 clear hH0
 refine wp_storeE 77 _ _ rfl T6 0 ([.int .u64 q.x0, .int .u64 q.x1, .int .u64 q.x2, .int .u64 q.x3, .slice Qa Qn Qc]) (by rfl) (by rfl) TH6.out pinfo5 (one5 q Qa Qn Qc) rfl (fun wn1 hw => ?_)
 have SN := hidden (below_trans HH.out (below_grown (gb_setCells T6 [.int .u64 q.x0, .int .u64 q.x1, .int .u64 q.x2, .int .u64 q.x3, .slice Qa Qn Qc] 0 _) (Nat.le_trans hW HH.out.size) (fun k hk => by have := Option.some.inj hk; omega)))
 replace R6 := hidden (World.rangeAt_setCells_same _ T6 0 [.int .u64 q.x0, .int .u64 q.x1, .int .u64 q.x2, .int .u64 q.x3, .slice Qa Qn Qc] TH6.out)
 replace R7 := hidden (World.rangeAt_setCells_apart R7.out T6 0 [.int .u64 q.x0, .int .u64 q.x1, .int .u64 q.x2, .int .u64 q.x3, .slice Qa Qn Qc] (.inl (by omega)))
 replace TH6 := hidden (there_set TH6.out T6 0 [.int .u64 q.x0, .int .u64 q.x1, .int .u64 q.x2, .int .u64 q.x3, .slice Qa Qn Qc])
 replace TH7 := hidden (there_set TH7.out T6 0 [.int .u64 q.x0, .int .u64 q.x1, .int .u64 q.x2, .int .u64 q.x3, .slice Qa Qn Qc])
 rw [← hw] at SN R6 R7 TH6 TH7
 clear HH hw
 refine hK.out _ _ SN.out (fun hH1 => ?_)
 clear hK K SN
 refine wpAnyH_ready (rs := [3]) (by kernel_rfl) (by simp) ?_
 refine AllReadyH.cons (o := io2o_3) rfl (fun K hK => ?_) AllReadyH.nil
 unfold io2o_3
 have HH := hidden hH1
 clear hH1
 refine wp_storeE 77 _ _ rfl T7 0 ([.int .u64 p.x0, .int .u64 p.x1, .int .u64 p.x2, .int .u64 p.x3, .slice Pa Pn Pc]) (by rfl) (by rfl) TH7.out pinfo5 (one5 p Pa Pn Pc) rfl (fun wn2 hw => ?_)
 have SN := hidden (below_trans HH.out (below_grown (gb_setCells T7 [.int .u64 p.x0, .int .u64 p.x1, .int .u64 p.x2, .int .u64 p.x3, .slice Pa Pn Pc] 0 _) (Nat.le_trans hW HH.out.size) (fun k hk => by have := Option.some.inj hk; omega)))
 replace R7 := hidden (World.rangeAt_setCells_same _ T7 0 [.int .u64 p.x0, .int .u64 p.x1, .int .u64 p.x2, .int .u64 p.x3, .slice Pa Pn Pc] TH7.out)
 replace R6 := hidden (World.rangeAt_setCells_apart R6.out T7 0 [.int .u64 p.x0, .int .u64 p.x1, .int .u64 p.x2, .int .u64 p.x3, .slice Pa Pn Pc] (.inl (by omega)))
 replace TH6 := hidden (there_set TH6.out T7 0 [.int .u64 p.x0, .int .u64 p.x1, .int .u64 p.x2, .int .u64 p.x3, .slice Pa Pn Pc])
 replace TH7 := hidden (there_set TH7.out T7 0 [.int .u64 p.x0, .int .u64 p.x1, .int .u64 p.x2, .int .u64 p.x3, .slice Pa Pn Pc])
 rw [← hw] at SN R7 R6 TH6 TH7
 clear HH hw
 refine hK.out _ _ SN.out (fun hH2 => ?_)
 clear hK K SN
 have HH := hidden hH2
 have FQ := hidden (HQ.out _ ⟨HH.out, R6.out, R7.out⟩)
 refine wpAnyH_done (by kernel_rfl) ?_ _
 refine NoPanic.normal ?_
 exact FQ.out
theorem inOrderP1 (p q : E4) (Pa Qa : Option Addr) (Pn Pc Qn Qc : Nat) (w : World) : Calls Tryz.prog 31 #[.int .i64 1, .agg #[.int .u64 p.x0, .int .u64 p.x1, .int .u64 p.x2, .int .u64 p.x3, .slice Pa Pn Pc], .agg #[.int .u64 q.x0, .int .u64 q.x1, .int .u64 q.x2, .int .u64 q.x3, .slice Qa Qn Qc]] w fun e w' => e = .returned (.tuple #[.agg #[.int .u64 p.x0, .int .u64 p.x1, .int .u64 p.x2, .int .u64 p.x3, .slice Pa Pn Pc], .agg #[.int .u64 q.x0, .int .u64 q.x1, .int .u64 q.x2, .int .u64 q.x3, .slice Qa Qn Qc]]) ∧ Below w.heap.size w w' := by
 have B4 : Below w.heap.size w ((((w.alloc (.cells #[.int .u64 p.x0, .int .u64 p.x1, .int .u64 p.x2, .int .u64 p.x3, .slice Pa Pn Pc] 77)).alloc (.cells #[.int .u64 q.x0, .int .u64 q.x1, .int .u64 q.x2, .int .u64 q.x3, .slice Qa Qn Qc] 77)).alloc (.cells #[.int .u64 0, .int .u64 0, .int .u64 0, .int .u64 0, .slice none 0 0] 77)).alloc (.cells #[.int .u64 0, .int .u64 0, .int .u64 0, .int .u64 0, .slice none 0 0] 77)) := bl_trans (bl_trans (bl_trans (bl_alloc w _) (bl_alloc _ _)) (bl_alloc _ _)) (bl_alloc _ _)
 have cp0 : ((((w.alloc (.cells #[.int .u64 p.x0, .int .u64 p.x1, .int .u64 p.x2, .int .u64 p.x3, .slice Pa Pn Pc] 77)).alloc (.cells #[.int .u64 q.x0, .int .u64 q.x1, .int .u64 q.x2, .int .u64 q.x3, .slice Qa Qn Qc] 77)).alloc (.cells #[.int .u64 0, .int .u64 0, .int .u64 0, .int .u64 0, .slice none 0 0] 77)).alloc (.cells #[.int .u64 0, .int .u64 0, .int .u64 0, .int .u64 0, .slice none 0 0] 77)).cell? ⟨w.heap.size, 0, none⟩ = some (.int .u64 p.x0) := by go_simp
 have cq0 : ((((w.alloc (.cells #[.int .u64 p.x0, .int .u64 p.x1, .int .u64 p.x2, .int .u64 p.x3, .slice Pa Pn Pc] 77)).alloc (.cells #[.int .u64 q.x0, .int .u64 q.x1, .int .u64 q.x2, .int .u64 q.x3, .slice Qa Qn Qc] 77)).alloc (.cells #[.int .u64 0, .int .u64 0, .int .u64 0, .int .u64 0, .slice none 0 0] 77)).alloc (.cells #[.int .u64 0, .int .u64 0, .int .u64 0, .int .u64 0, .slice none 0 0] 77)).cell? ⟨w.heap.size + 1, 0, none⟩ = some (.int .u64 q.x0) := by go_simp
 have cp1 : ((((w.alloc (.cells #[.int .u64 p.x0, .int .u64 p.x1, .int .u64 p.x2, .int .u64 p.x3, .slice Pa Pn Pc] 77)).alloc (.cells #[.int .u64 q.x0, .int .u64 q.x1, .int .u64 q.x2, .int .u64 q.x3, .slice Qa Qn Qc] 77)).alloc (.cells #[.int .u64 0, .int .u64 0, .int .u64 0, .int .u64 0, .slice none 0 0] 77)).alloc (.cells #[.int .u64 0, .int .u64 0, .int .u64 0, .int .u64 0, .slice none 0 0] 77)).cell? ⟨w.heap.size, 1, none⟩ = some (.int .u64 p.x1) := by go_simp
 have cq1 : ((((w.alloc (.cells #[.int .u64 p.x0, .int .u64 p.x1, .int .u64 p.x2, .int .u64 p.x3, .slice Pa Pn Pc] 77)).alloc (.cells #[.int .u64 q.x0, .int .u64 q.x1, .int .u64 q.x2, .int .u64 q.x3, .slice Qa Qn Qc] 77)).alloc (.cells #[.int .u64 0, .int .u64 0, .int .u64 0, .int .u64 0, .slice none 0 0] 77)).alloc (.cells #[.int .u64 0, .int .u64 0, .int .u64 0, .int .u64 0, .slice none 0 0] 77)).cell? ⟨w.heap.size + 1, 1, none⟩ = some (.int .u64 q.x1) := by go_simp
 have cp2 : ((((w.alloc (.cells #[.int .u64 p.x0, .int .u64 p.x1, .int .u64 p.x2, .int .u64 p.x3, .slice Pa Pn Pc] 77)).alloc (.cells #[.int .u64 q.x0, .int .u64 q.x1, .int .u64 q.x2, .int .u64 q.x3, .slice Qa Qn Qc] 77)).alloc (.cells #[.int .u64 0, .int .u64 0, .int .u64 0, .int .u64 0, .slice none 0 0] 77)).alloc (.cells #[.int .u64 0, .int .u64 0, .int .u64 0, .int .u64 0, .slice none 0 0] 77)).cell? ⟨w.heap.size, 2, none⟩ = some (.int .u64 p.x2) := by go_simp
 have cq2 : ((((w.alloc (.cells #[.int .u64 p.x0, .int .u64 p.x1, .int .u64 p.x2, .int .u64 p.x3, .slice Pa Pn Pc] 77)).alloc (.cells #[.int .u64 q.x0, .int .u64 q.x1, .int .u64 q.x2, .int .u64 q.x3, .slice Qa Qn Qc] 77)).alloc (.cells #[.int .u64 0, .int .u64 0, .int .u64 0, .int .u64 0, .slice none 0 0] 77)).alloc (.cells #[.int .u64 0, .int .u64 0, .int .u64 0, .int .u64 0, .slice none 0 0] 77)).cell? ⟨w.heap.size + 1, 2, none⟩ = some (.int .u64 q.x2) := by go_simp
 have cp3 : ((((w.alloc (.cells #[.int .u64 p.x0, .int .u64 p.x1, .int .u64 p.x2, .int .u64 p.x3, .slice Pa Pn Pc] 77)).alloc (.cells #[.int .u64 q.x0, .int .u64 q.x1, .int .u64 q.x2, .int .u64 q.x3, .slice Qa Qn Qc] 77)).alloc (.cells #[.int .u64 0, .int .u64 0, .int .u64 0, .int .u64 0, .slice none 0 0] 77)).alloc (.cells #[.int .u64 0, .int .u64 0, .int .u64 0, .int .u64 0, .slice none 0 0] 77)).cell? ⟨w.heap.size, 3, none⟩ = some (.int .u64 p.x3) := by go_simp
 have cq3 : ((((w.alloc (.cells #[.int .u64 p.x0, .int .u64 p.x1, .int .u64 p.x2, .int .u64 p.x3, .slice Pa Pn Pc] 77)).alloc (.cells #[.int .u64 q.x0, .int .u64 q.x1, .int .u64 q.x2, .int .u64 q.x3, .slice Qa Qn Qc] 77)).alloc (.cells #[.int .u64 0, .int .u64 0, .int .u64 0, .int .u64 0, .slice none 0 0] 77)).alloc (.cells #[.int .u64 0, .int .u64 0, .int .u64 0, .int .u64 0, .slice none 0 0] 77)).cell? ⟨w.heap.size + 1, 3, none⟩ = some (.int .u64 q.x3) := by go_simp
 have cp4 : ((((w.alloc (.cells #[.int .u64 p.x0, .int .u64 p.x1, .int .u64 p.x2, .int .u64 p.x3, .slice Pa Pn Pc] 77)).alloc (.cells #[.int .u64 q.x0, .int .u64 q.x1, .int .u64 q.x2, .int .u64 q.x3, .slice Qa Qn Qc] 77)).alloc (.cells #[.int .u64 0, .int .u64 0, .int .u64 0, .int .u64 0, .slice none 0 0] 77)).alloc (.cells #[.int .u64 0, .int .u64 0, .int .u64 0, .int .u64 0, .slice none 0 0] 77)).cell? ⟨w.heap.size, 4, none⟩ = some (.slice Pa Pn Pc) := by go_simp
 have cq4 : ((((w.alloc (.cells #[.int .u64 p.x0, .int .u64 p.x1, .int .u64 p.x2, .int .u64 p.x3, .slice Pa Pn Pc] 77)).alloc (.cells #[.int .u64 q.x0, .int .u64 q.x1, .int .u64 q.x2, .int .u64 q.x3, .slice Qa Qn Qc] 77)).alloc (.cells #[.int .u64 0, .int .u64 0, .int .u64 0, .int .u64 0, .slice none 0 0] 77)).alloc (.cells #[.int .u64 0, .int .u64 0, .int .u64 0, .int .u64 0, .slice none 0 0] 77)).cell? ⟨w.heap.size + 1, 4, none⟩ = some (.slice Qa Qn Qc) := by go_simp
 have SZ : ((((w.alloc (.cells #[.int .u64 p.x0, .int .u64 p.x1, .int .u64 p.x2, .int .u64 p.x3, .slice Pa Pn Pc] 77)).alloc (.cells #[.int .u64 q.x0, .int .u64 q.x1, .int .u64 q.x2, .int .u64 q.x3, .slice Qa Qn Qc] 77)).alloc (.cells #[.int .u64 0, .int .u64 0, .int .u64 0, .int .u64 0, .slice none 0 0] 77)).alloc (.cells #[.int .u64 0, .int .u64 0, .int .u64 0, .int .u64 0, .slice none 0 0] 77)).heap.size = w.heap.size + 1 + 1 + 1 + 1 := by simp only [World.size_alloc]
 have r6 : ((((w.alloc (.cells #[.int .u64 p.x0, .int .u64 p.x1, .int .u64 p.x2, .int .u64 p.x3, .slice Pa Pn Pc] 77)).alloc (.cells #[.int .u64 q.x0, .int .u64 q.x1, .int .u64 q.x2, .int .u64 q.x3, .slice Qa Qn Qc] 77)).alloc (.cells #[.int .u64 0, .int .u64 0, .int .u64 0, .int .u64 0, .slice none 0 0] 77)).alloc (.cells #[.int .u64 0, .int .u64 0, .int .u64 0, .int .u64 0, .slice none 0 0] 77)).rangeAt (w.heap.size + 1 + 1) 0 [.int .u64 0, .int .u64 0, .int .u64 0, .int .u64 0, .slice none 0 0] := by
  have := range_newM ((w.alloc (.cells #[.int .u64 p.x0, .int .u64 p.x1, .int .u64 p.x2, .int .u64 p.x3, .slice Pa Pn Pc] 77)).alloc (.cells #[.int .u64 q.x0, .int .u64 q.x1, .int .u64 q.x2, .int .u64 q.x3, .slice Qa Qn Qc] 77)) [.int .u64 0, .int .u64 0, .int .u64 0, .int .u64 0, .slice none 0 0] 77
  simp only [World.size_alloc] at this
  exact range_bl this (bl_alloc _ _)
 have t6 : ((((w.alloc (.cells #[.int .u64 p.x0, .int .u64 p.x1, .int .u64 p.x2, .int .u64 p.x3, .slice Pa Pn Pc] 77)).alloc (.cells #[.int .u64 q.x0, .int .u64 q.x1, .int .u64 q.x2, .int .u64 q.x3, .slice Qa Qn Qc] 77)).alloc (.cells #[.int .u64 0, .int .u64 0, .int .u64 0, .int .u64 0, .slice none 0 0] 77)).alloc (.cells #[.int .u64 0, .int .u64 0, .int .u64 0, .int .u64 0, .slice none 0 0] 77)).there (w.heap.size + 1 + 1) 0 5 := by
  have := there_newM ((w.alloc (.cells #[.int .u64 p.x0, .int .u64 p.x1, .int .u64 p.x2, .int .u64 p.x3, .slice Pa Pn Pc] 77)).alloc (.cells #[.int .u64 q.x0, .int .u64 q.x1, .int .u64 q.x2, .int .u64 q.x3, .slice Qa Qn Qc] 77)) [.int .u64 0, .int .u64 0, .int .u64 0, .int .u64 0, .slice none 0 0] 77
  simp only [World.size_alloc] at this
  exact Li.there_bl this (bl_alloc _ _)
 have r7 : ((((w.alloc (.cells #[.int .u64 p.x0, .int .u64 p.x1, .int .u64 p.x2, .int .u64 p.x3, .slice Pa Pn Pc] 77)).alloc (.cells #[.int .u64 q.x0, .int .u64 q.x1, .int .u64 q.x2, .int .u64 q.x3, .slice Qa Qn Qc] 77)).alloc (.cells #[.int .u64 0, .int .u64 0, .int .u64 0, .int .u64 0, .slice none 0 0] 77)).alloc (.cells #[.int .u64 0, .int .u64 0, .int .u64 0, .int .u64 0, .slice none 0 0] 77)).rangeAt (w.heap.size + 1 + 1 + 1) 0 [.int .u64 0, .int .u64 0, .int .u64 0, .int .u64 0, .slice none 0 0] := by
  have := range_newM (((w.alloc (.cells #[.int .u64 p.x0, .int .u64 p.x1, .int .u64 p.x2, .int .u64 p.x3, .slice Pa Pn Pc] 77)).alloc (.cells #[.int .u64 q.x0, .int .u64 q.x1, .int .u64 q.x2, .int .u64 q.x3, .slice Qa Qn Qc] 77)).alloc (.cells #[.int .u64 0, .int .u64 0, .int .u64 0, .int .u64 0, .slice none 0 0] 77)) [.int .u64 0, .int .u64 0, .int .u64 0, .int .u64 0, .slice none 0 0] 77
  simp only [World.size_alloc] at this
  exact this
 have t7 : ((((w.alloc (.cells #[.int .u64 p.x0, .int .u64 p.x1, .int .u64 p.x2, .int .u64 p.x3, .slice Pa Pn Pc] 77)).alloc (.cells #[.int .u64 q.x0, .int .u64 q.x1, .int .u64 q.x2, .int .u64 q.x3, .slice Qa Qn Qc] 77)).alloc (.cells #[.int .u64 0, .int .u64 0, .int .u64 0, .int .u64 0, .slice none 0 0] 77)).alloc (.cells #[.int .u64 0, .int .u64 0, .int .u64 0, .int .u64 0, .slice none 0 0] 77)).there (w.heap.size + 1 + 1 + 1) 0 5 := by
  have := there_newM (((w.alloc (.cells #[.int .u64 p.x0, .int .u64 p.x1, .int .u64 p.x2, .int .u64 p.x3, .slice Pa Pn Pc] 77)).alloc (.cells #[.int .u64 q.x0, .int .u64 q.x1, .int .u64 q.x2, .int .u64 q.x3, .slice Qa Qn Qc] 77)).alloc (.cells #[.int .u64 0, .int .u64 0, .int .u64 0, .int .u64 0, .slice none 0 0] 77)) [.int .u64 0, .int .u64 0, .int .u64 0, .int .u64 0, .slice none 0 0] 77
  simp only [World.size_alloc] at this
  exact this
 have ALL := hidden (And.intro r6 (And.intro t6 (And.intro r7 t7)))
 have CA := hidden (And.intro cp0 (And.intro cp1 (And.intro cp2 (And.intro cp3 (And.intro cp4 (And.intro cq0 (And.intro cq1 (And.intro cq2 (And.intro cq3 cq4)))))))))
 clear r6 t6 r7 t7 cp0 cq0 cp1 cq1 cp2 cq2 cp3 cq3 cp4 cq4
 go_enter Tryz.func31, Tryz.ntmps31
 go_upto_region 3 with fail
 generalize ((((w.alloc (.cells #[.int .u64 p.x0, .int .u64 p.x1, .int .u64 p.x2, .int .u64 p.x3, .slice Pa Pn Pc] 77)).alloc (.cells #[.int .u64 q.x0, .int .u64 q.x1, .int .u64 q.x2, .int .u64 q.x3, .slice Qa Qn Qc] 77)).alloc (.cells #[.int .u64 0, .int .u64 0, .int .u64 0, .int .u64 0, .slice none 0 0] 77)).alloc (.cells #[.int .u64 0, .int .u64 0, .int .u64 0, .int .u64 0, .slice none 0 0] 77)) = w4 at *
 obtain ⟨cp0, cp1, cp2, cp3, cp4, cq0, cq1, cq2, cq3, cq4⟩ := CA.out
 refine io3 _ w.heap.size (w.heap.size + 1) (w.heap.size + 1 + 1) (w.heap.size + 1 + 1 + 1) p q Pa Qa Pn Pc Qn Qc _ _ _ _ _ _ _ _ _ _ w4 (by omega) (by omega) (by omega) (by omega) ALL.out.1 ALL.out.2.2.1 ALL.out.2.1 ALL.out.2.2.2 cp0 cp1 cp2 cp3 cp4 cq0 cq1 cq2 cq3 cq4 (hidden ?_)
 intro wz HZ
 have y0 := HZ.2.1 0 _ rfl
 have z0 := HZ.2.2 0 _ rfl
 have y1 := HZ.2.1 1 _ rfl
 have z1 := HZ.2.2 1 _ rfl
 have y2 := HZ.2.1 2 _ rfl
 have z2 := HZ.2.2 2 _ rfl
 have y3 := HZ.2.1 3 _ rfl
 have z3 := HZ.2.2 3 _ rfl
 have y4 := HZ.2.1 4 _ rfl
 have z4 := HZ.2.2 4 _ rfl
 have BF := below_trans B4 (below_less HZ.1 (by omega))
 clear HZ ALL CA cp0 cp1 cp2 cp3 cp4 cq0 cq1 cq2 cq3 cq4
 go_wp2_with fail
 refine bodyPost_ret (v := .tuple #[.agg #[.int .u64 p.x0, .int .u64 p.x1, .int .u64 p.x2, .int .u64 p.x3, .slice Pa Pn Pc], .agg #[.int .u64 q.x0, .int .u64 q.x1, .int .u64 q.x2, .int .u64 q.x3, .slice Qa Qn Qc]]) (by simp [results, Tryz.results31, go_sem, y0, z0, y1, z1, y2, z2, y3, z3, y4, z4]) rfl ⟨rfl, BF⟩
theorem inOrderP2 (p q : E4) (Pa Qa : Option Addr) (Pn Pc Qn Qc : Nat) (w : World) : Calls Tryz.prog 31 #[.int .i64 2, .agg #[.int .u64 p.x0, .int .u64 p.x1, .int .u64 p.x2, .int .u64 p.x3, .slice Pa Pn Pc], .agg #[.int .u64 q.x0, .int .u64 q.x1, .int .u64 q.x2, .int .u64 q.x3, .slice Qa Qn Qc]] w fun e w' => e = .returned (.tuple #[.agg #[.int .u64 q.x0, .int .u64 q.x1, .int .u64 q.x2, .int .u64 q.x3, .slice Qa Qn Qc], .agg #[.int .u64 p.x0, .int .u64 p.x1, .int .u64 p.x2, .int .u64 p.x3, .slice Pa Pn Pc]]) ∧ Below w.heap.size w w' := by
 have B4 : Below w.heap.size w ((((w.alloc (.cells #[.int .u64 p.x0, .int .u64 p.x1, .int .u64 p.x2, .int .u64 p.x3, .slice Pa Pn Pc] 77)).alloc (.cells #[.int .u64 q.x0, .int .u64 q.x1, .int .u64 q.x2, .int .u64 q.x3, .slice Qa Qn Qc] 77)).alloc (.cells #[.int .u64 0, .int .u64 0, .int .u64 0, .int .u64 0, .slice none 0 0] 77)).alloc (.cells #[.int .u64 0, .int .u64 0, .int .u64 0, .int .u64 0, .slice none 0 0] 77)) := bl_trans (bl_trans (bl_trans (bl_alloc w _) (bl_alloc _ _)) (bl_alloc _ _)) (bl_alloc _ _)
 have cp0 : ((((w.alloc (.cells #[.int .u64 p.x0, .int .u64 p.x1, .int .u64 p.x2, .int .u64 p.x3, .slice Pa Pn Pc] 77)).alloc (.cells #[.int .u64 q.x0, .int .u64 q.x1, .int .u64 q.x2, .int .u64 q.x3, .slice Qa Qn Qc] 77)).alloc (.cells #[.int .u64 0, .int .u64 0, .int .u64 0, .int .u64 0, .slice none 0 0] 77)).alloc (.cells #[.int .u64 0, .int .u64 0, .int .u64 0, .int .u64 0, .slice none 0 0] 77)).cell? ⟨w.heap.size, 0, none⟩ = some (.int .u64 p.x0) := by go_simp
 have cq0 : ((((w.alloc (.cells #[.int .u64 p.x0, .int .u64 p.x1, .int .u64 p.x2, .int .u64 p.x3, .slice Pa Pn Pc] 77)).alloc (.cells #[.int .u64 q.x0, .int .u64 q.x1, .int .u64 q.x2, .int .u64 q.x3, .slice Qa Qn Qc] 77)).alloc (.cells #[.int .u64 0, .int .u64 0, .int .u64 0, .int .u64 0, .slice none 0 0] 77)).alloc (.cells #[.int .u64 0, .int .u64 0, .int .u64 0, .int .u64 0, .slice none 0 0] 77)).cell? ⟨w.heap.size + 1, 0, none⟩ = some (.int .u64 q.x0) := by go_simp
 have cp1 : ((((w.alloc (.cells #[.int .u64 p.x0, .int .u64 p.x1, .int .u64 p.x2, .int .u64 p.x3, .slice Pa Pn Pc] 77)).alloc (.cells #[.int .u64 q.x0, .int .u64 q.x1, .int .u64 q.x2, .int .u64 q.x3, .slice Qa Qn Qc] 77)).alloc (.cells #[.int .u64 0, .int .u64 0, .int .u64 0, .int .u64 0, .slice none 0 0] 77)).alloc (.cells #[.int .u64 0, .int .u64 0, .int .u64 0, .int .u64 0, .slice none 0 0] 77)).cell? ⟨w.heap.size, 1, none⟩ = some (.int .u64 p.x1) := by go_simp
 have cq1 : ((((w.alloc (.cells #[.int .u64 p.x0, .int .u64 p.x1, .int .u64 p.x2, .int .u64 p.x3, .slice Pa Pn Pc] 77)).alloc (.cells #[.int .u64 q.x0, .int .u64 q.x1, .int .u64 q.x2, .int .u64 q.x3, .slice Qa Qn Qc] 77)).alloc (.cells #[.int .u64 0, .int .u64 0, .int .u64 0, .int .u64 0, .slice none 0 0] 77)).alloc (.cells #[.int .u64 0, .int .u64 0, .int .u64 0, .int .u64 0, .slice none 0 0] 77)).cell? ⟨w.heap.size + 1, 1, none⟩ = some (.int .u64 q.x1) := by go_simp
 have cp2 : ((((w.alloc (.cells #[.int .u64 p.x0, .int .u64 p.x1, .int .u64 p.x2, .int .u64 p.x3, .slice Pa Pn Pc] 77)).alloc (.cells #[.int .u64 q.x0, .int .u64 q.x1, .int .u64 q.x2, .int .u64 q.x3, .slice Qa Qn Qc] 77)).alloc (.cells #[.int .u64 0, .int .u64 0, .int .u64 0, .int .u64 0, .slice none 0 0] 77)).alloc (.cells #[.int .u64 0, .int .u64 0, .int .u64 0, .int .u64 0, .slice none 0 0] 77)).cell? ⟨w.heap.size, 2, none⟩ = some (.int .u64 p.x2) := by go_simp
 have cq2 : ((((w.alloc (.cells #[.int .u64 p.x0, .int .u64 p.x1, .int .u64 p.x2, .int .u64 p.x3, .slice Pa Pn Pc] 77)).alloc (.cells #[.int .u64 q.x0, .int .u64 q.x1, .int .u64 q.x2, .int .u64 q.x3, .slice Qa Qn Qc] 77)).alloc (.cells #[.int .u64 0, .int .u64 0, .int .u64 0, .int .u64 0, .slice none 0 0] 77)).alloc (.cells #[.int .u64 0, .int .u64 0, .int .u64 0, .int .u64 0, .slice none 0 0] 77)).cell? ⟨w.heap.size + 1, 2, none⟩ = some (.int .u64 q.x2) := by go_simp
 have cp3 : ((((w.alloc (.cells #[.int .u64 p.x0, .int .u64 p.x1, .int .u64 p.x2, .int .u64 p.x3, .slice Pa Pn Pc] 77)).alloc (.cells #[.int .u64 q.x0, .int .u64 q.x1, .int .u64 q.x2, .int .u64 q.x3, .slice Qa Qn Qc] 77)).alloc (.cells #[.int .u64 0, .int .u64 0, .int .u64 0, .int .u64 0, .slice none 0 0] 77)).alloc (.cells #[.int .u64 0, .int .u64 0, .int .u64 0, .int .u64 0, .slice none 0 0] 77)).cell? ⟨w.heap.size, 3, none⟩ = some (.int .u64 p.x3) := by go_simp
 have cq3 : ((((w.alloc (.cells #[.int .u64 p.x0, .int .u64 p.x1, .int .u64 p.x2, .int .u64 p.x3, .slice Pa Pn Pc] 77)).alloc (.cells #[.int .u64 q.x0, .int .u64 q.x1, .int .u64 q.x2, .int .u64 q.x3, .slice Qa Qn Qc] 77)).alloc (.cells #[.int .u64 0, .int .u64 0, .int .u64 0, .int .u64 0, .slice none 0 0] 77)).alloc (.cells #[.int .u64 0, .int .u64 0, .int .u64 0, .int .u64 0, .slice none 0 0] 77)).cell? ⟨w.heap.size + 1, 3, none⟩ = some (.int .u64 q.x3) := by go_simp
 have cp4 : ((((w.alloc (.cells #[.int .u64 p.x0, .int .u64 p.x1, .int .u64 p.x2, .int .u64 p.x3, .slice Pa Pn Pc] 77)).alloc (.cells #[.int .u64 q.x0, .int .u64 q.x1, .int .u64 q.x2, .int .u64 q.x3, .slice Qa Qn Qc] 77)).alloc (.cells #[.int .u64 0, .int .u64 0, .int .u64 0, .int .u64 0, .slice none 0 0] 77)).alloc (.cells #[.int .u64 0, .int .u64 0, .int .u64 0, .int .u64 0, .slice none 0 0] 77)).cell? ⟨w.heap.size, 4, none⟩ = some (.slice Pa Pn Pc) := by go_simp
 have cq4 : ((((w.alloc (.cells #[.int .u64 p.x0, .int .u64 p.x1, .int .u64 p.x2, .int .u64 p.x3, .slice Pa Pn Pc] 77)).alloc (.cells #[.int .u64 q.x0, .int .u64 q.x1, .int .u64 q.x2, .int .u64 q.x3, .slice Qa Qn Qc] 77)).alloc (.cells #[.int .u64 0, .int .u64 0, .int .u64 0, .int .u64 0, .slice none 0 0] 77)).alloc (.cells #[.int .u64 0, .int .u64 0, .int .u64 0, .int .u64 0, .slice none 0 0] 77)).cell? ⟨w.heap.size + 1, 4, none⟩ = some (.slice Qa Qn Qc) := by go_simp
 have SZ : ((((w.alloc (.cells #[.int .u64 p.x0, .int .u64 p.x1, .int .u64 p.x2, .int .u64 p.x3, .slice Pa Pn Pc] 77)).alloc (.cells #[.int .u64 q.x0, .int .u64 q.x1, .int .u64 q.x2, .int .u64 q.x3, .slice Qa Qn Qc] 77)).alloc (.cells #[.int .u64 0, .int .u64 0, .int .u64 0, .int .u64 0, .slice none 0 0] 77)).alloc (.cells #[.int .u64 0, .int .u64 0, .int .u64 0, .int .u64 0, .slice none 0 0] 77)).heap.size = w.heap.size + 1 + 1 + 1 + 1 := by simp only [World.size_alloc]
 have r6 : ((((w.alloc (.cells #[.int .u64 p.x0, .int .u64 p.x1, .int .u64 p.x2, .int .u64 p.x3, .slice Pa Pn Pc] 77)).alloc (.cells #[.int .u64 q.x0, .int .u64 q.x1, .int .u64 q.x2, .int .u64 q.x3, .slice Qa Qn Qc] 77)).alloc (.cells #[.int .u64 0, .int .u64 0, .int .u64 0, .int .u64 0, .slice none 0 0] 77)).alloc (.cells #[.int .u64 0, .int .u64 0, .int .u64 0, .int .u64 0, .slice none 0 0] 77)).rangeAt (w.heap.size + 1 + 1) 0 [.int .u64 0, .int .u64 0, .int .u64 0, .int .u64 0, .slice none 0 0] := by
  have := range_newM ((w.alloc (.cells #[.int .u64 p.x0, .int .u64 p.x1, .int .u64 p.x2, .int .u64 p.x3, .slice Pa Pn Pc] 77)).alloc (.cells #[.int .u64 q.x0, .int .u64 q.x1, .int .u64 q.x2, .int .u64 q.x3, .slice Qa Qn Qc] 77)) [.int .u64 0, .int .u64 0, .int .u64 0, .int .u64 0, .slice none 0 0] 77
  simp only [World.size_alloc] at this
  exact range_bl this (bl_alloc _ _)
 have t6 : ((((w.alloc (.cells #[.int .u64 p.x0, .int .u64 p.x1, .int .u64 p.x2, .int .u64 p.x3, .slice Pa Pn Pc] 77)).alloc (.cells #[.int .u64 q.x0, .int .u64 q.x1, .int .u64 q.x2, .int .u64 q.x3, .slice Qa Qn Qc] 77)).alloc (.cells #[.int .u64 0, .int .u64 0, .int .u64 0, .int .u64 0, .slice none 0 0] 77)).alloc (.cells #[.int .u64 0, .int .u64 0, .int .u64 0, .int .u64 0, .slice none 0 0] 77)).there (w.heap.size + 1 + 1) 0 5 := by
  have := there_newM ((w.alloc (.cells #[.int .u64 p.x0, .int .u64 p.x1, .int .u64 p.x2, .int .u64 p.x3, .slice Pa Pn Pc] 77)).alloc (.cells #[.int .u64 q.x0, .int .u64 q.x1, .int .u64 q.x2, .int .u64 q.x3, .slice Qa Qn Qc] 77)) [.int .u64 0, .int .u64 0, .int .u64 0, .int .u64 0, .slice none 0 0] 77
  simp only [World.size_alloc] at this
  exact Li.there_bl this (bl_alloc _ _)
 have r7 : ((((w.alloc (.cells #[.int .u64 p.x0, .int .u64 p.x1, .int .u64 p.x2, .int .u64 p.x3, .slice Pa Pn Pc] 77)).alloc (.cells #[.int .u64 q.x0, .int .u64 q.x1, .int .u64 q.x2, .int .u64 q.x3, .slice Qa Qn Qc] 77)).alloc (.cells #[.int .u64 0, .int .u64 0, .int .u64 0, .int .u64 0, .slice none 0 0] 77)).alloc (.cells #[.int .u64 0, .int .u64 0, .int .u64 0, .int .u64 0, .slice none 0 0] 77)).rangeAt (w.heap.size + 1 + 1 + 1) 0 [.int .u64 0, .int .u64 0, .int .u64 0, .int .u64 0, .slice none 0 0] := by
  have := range_newM (((w.alloc (.cells #[.int .u64 p.x0, .int .u64 p.x1, .int .u64 p.x2, .int .u64 p.x3, .slice Pa Pn Pc] 77)).alloc (.cells #[.int .u64 q.x0, .int .u64 q.x1, .int .u64 q.x2, .int .u64 q.x3, .slice Qa Qn Qc] 77)).alloc (.cells #[.int .u64 0, .int .u64 0, .int .u64 0, .int .u64 0, .slice none 0 0] 77)) [.int .u64 0, .int .u64 0, .int .u64 0, .int .u64 0, .slice none 0 0] 77
  simp only [World.size_alloc] at this
  exact this
 have t7 : ((((w.alloc (.cells #[.int .u64 p.x0, .int .u64 p.x1, .int .u64 p.x2, .int .u64 p.x3, .slice Pa Pn Pc] 77)).alloc (.cells #[.int .u64 q.x0, .int .u64 q.x1, .int .u64 q.x2, .int .u64 q.x3, .slice Qa Qn Qc] 77)).alloc (.cells #[.int .u64 0, .int .u64 0, .int .u64 0, .int .u64 0, .slice none 0 0] 77)).alloc (.cells #[.int .u64 0, .int .u64 0, .int .u64 0, .int .u64 0, .slice none 0 0] 77)).there (w.heap.size + 1 + 1 + 1) 0 5 := by
  have := there_newM (((w.alloc (.cells #[.int .u64 p.x0, .int .u64 p.x1, .int .u64 p.x2, .int .u64 p.x3, .slice Pa Pn Pc] 77)).alloc (.cells #[.int .u64 q.x0, .int .u64 q.x1, .int .u64 q.x2, .int .u64 q.x3, .slice Qa Qn Qc] 77)).alloc (.cells #[.int .u64 0, .int .u64 0, .int .u64 0, .int .u64 0, .slice none 0 0] 77)) [.int .u64 0, .int .u64 0, .int .u64 0, .int .u64 0, .slice none 0 0] 77
  simp only [World.size_alloc] at this
  exact this
 have ALL := hidden (And.intro r6 (And.intro t6 (And.intro r7 t7)))
 have CA := hidden (And.intro cp0 (And.intro cp1 (And.intro cp2 (And.intro cp3 (And.intro cp4 (And.intro cq0 (And.intro cq1 (And.intro cq2 (And.intro cq3 cq4)))))))))
 clear r6 t6 r7 t7 cp0 cq0 cp1 cq1 cp2 cq2 cp3 cq3 cp4 cq4
 go_enter Tryz.func31, Tryz.ntmps31
 go_upto_region 2 with fail
 generalize ((((w.alloc (.cells #[.int .u64 p.x0, .int .u64 p.x1, .int .u64 p.x2, .int .u64 p.x3, .slice Pa Pn Pc] 77)).alloc (.cells #[.int .u64 q.x0, .int .u64 q.x1, .int .u64 q.x2, .int .u64 q.x3, .slice Qa Qn Qc] 77)).alloc (.cells #[.int .u64 0, .int .u64 0, .int .u64 0, .int .u64 0, .slice none 0 0] 77)).alloc (.cells #[.int .u64 0, .int .u64 0, .int .u64 0, .int .u64 0, .slice none 0 0] 77)) = w4 at *
 obtain ⟨cp0, cp1, cp2, cp3, cp4, cq0, cq1, cq2, cq3, cq4⟩ := CA.out
 refine io2 _ w.heap.size (w.heap.size + 1) (w.heap.size + 1 + 1) (w.heap.size + 1 + 1 + 1) p q Pa Qa Pn Pc Qn Qc _ _ _ _ _ _ _ _ _ _ w4 (by omega) (by omega) (by omega) (by omega) ALL.out.1 ALL.out.2.2.1 ALL.out.2.1 ALL.out.2.2.2 cp0 cp1 cp2 cp3 cp4 cq0 cq1 cq2 cq3 cq4 (hidden ?_)
 intro wz HZ
 have y0 := HZ.2.1 0 _ rfl
 have z0 := HZ.2.2 0 _ rfl
 have y1 := HZ.2.1 1 _ rfl
 have z1 := HZ.2.2 1 _ rfl
 have y2 := HZ.2.1 2 _ rfl
 have z2 := HZ.2.2 2 _ rfl
 have y3 := HZ.2.1 3 _ rfl
 have z3 := HZ.2.2 3 _ rfl
 have y4 := HZ.2.1 4 _ rfl
 have z4 := HZ.2.2 4 _ rfl
 have BF := below_trans B4 (below_less HZ.1 (by omega))
 clear HZ ALL CA cp0 cp1 cp2 cp3 cp4 cq0 cq1 cq2 cq3 cq4
 go_wp2_with fail
 refine bodyPost_ret (v := .tuple #[.agg #[.int .u64 q.x0, .int .u64 q.x1, .int .u64 q.x2, .int .u64 q.x3, .slice Qa Qn Qc], .agg #[.int .u64 p.x0, .int .u64 p.x1, .int .u64 p.x2, .int .u64 p.x3, .slice Pa Pn Pc]]) (by simp [results, Tryz.results31, go_sem, y0, z0, y1, z1, y2, z2, y3, z3, y4, z4]) rfl ⟨rfl, BF⟩
open Go.RowKit
structure Pq (w : World) (B : Nat) (v : Value) (k : Nat) (Q : Nat → Nat) (L : Nat → List UInt8) : Prop where
 own : w.ownsRow B 123 1 v k ((List.range k).map fun i => .slice (some ⟨Q i, 0, none⟩) (L i).length (L i).length)
 each : ∀ i, i < k → w.rangeAt (Q i) 0 (Tr.cb (L i))
 len : ∀ i, i < k → 1 ≤ (L i).length ∧ (L i).length ≤ 32
theorem own_lower {w : World} {B B' n s : Nat} {e : TypeId} {v : Value} {xs : List Value} (h : w.ownsRow B e s v n xs) (hB : B' ≤ B) : w.ownsRow B' e s v n xs := ⟨h.1, h.2.imp id (fun ⟨g, cap, cur, e1, hb, rest⟩ => ⟨g, cap, cur, e1, Nat.le_trans hB hb, rest⟩)⟩
theorem Pq.keep {w w' : World} {B k : Nat} {v : Value} {Q : Nat → Nat} {L : Nat → List UInt8} (h : Pq w B v k Q L) (hb : Below w.heap.size w w') : Pq w' B v k Q L := ⟨Tr.own_stay h.own hb, fun i hi => range_bl (h.each i hi) hb, h.len⟩
theorem Pq.ne {w : World} {B k b : Nat} {v : Value} {Q : Nat → Nat} {L : Nat → List UInt8} {l : List UInt8} (h : Pq w B v k Q L) (hk : 1 ≤ k) (hr : w.rangeAt b 0 (Tr.cb l)) (hl : 1 ≤ l.length) : v.ownBlock ≠ some b := by
 obtain ⟨g, c, rfl, _⟩ := own_shapeS h.own hk
 intro e
 obtain rfl : g = b := Option.some.inj e
 have h1 := h.own.cellAt 0 (by omega)
 have h2 := hr 0 _ (Tr.cb_at l 0 (by omega))
 rw [Nat.zero_add, h1] at h2
 rw [List.getElem?_map, List.getElem?_range (by omega)] at h2
 simp at h2
theorem Pq.add {w w' : World} {B k m : Nat} {v v' : Value} {Q : Nat → Nat} {L : Nat → List UInt8} (h : Pq w B v k Q L) (hk : 1 ≤ k) (q : Nat → Nat) (l : Nat → List UInt8) (hq : ∀ j, j < m → w.rangeAt (q j) 0 (Tr.cb (l j))) (hl : ∀ j, j < m → (l j).length = 32)
  (ho : w'.ownsRow B 123 1 v' (k + m) (((List.range k).map fun i => .slice (some ⟨Q i, 0, none⟩) (L i).length (L i).length) ++ (List.range m).map fun j => .slice (some ⟨q j, 0, none⟩) 32 32)) (hg : w.grownBy w' v.ownBlock) :
  Pq w' B v' (k + m) (fun i => if i < k then Q i else q (i - k)) (fun i => if i < k then L i else l (i - k)) := by
 refine ⟨?_, fun i hi => ?_, fun i hi => ?_⟩
 ·have e : ((List.range (k + m)).map fun i => Value.slice (some ⟨(if i < k then Q i else q (i - k)), 0, none⟩) (if i < k then L i else l (i - k)).length (if i < k then L i else l (i - k)).length) = ((List.range k).map fun i => .slice (some ⟨Q i, 0, none⟩) (L i).length (L i).length) ++ (List.range m).map fun j => .slice (some ⟨q j, 0, none⟩) 32 32 := by
   rw [List.range_add, List.map_append, List.map_map]
   congr 1
   ·refine List.map_congr_left fun i hi => ?_
    have := List.mem_range.1 hi
    rw [if_pos this, if_pos this]
   ·refine List.map_congr_left fun j hj => ?_
    have hj := List.mem_range.1 hj
    simp only [Function.comp_apply]
    rw [if_neg (by omega), if_neg (by omega), show k + j - k = j by omega, hl j hj]
  rw [e]; exact ho
 ·by_cases hik : i < k
  ·simp only [if_pos hik]
   exact fun j u hu => hg.cell (h.each i hik j u hu) (fun e => h.ne hk (h.each i hik) (h.len i hik).1 e.symm)
  ·simp only [if_neg hik]
   have := hq (i - k) (by omega)
   exact fun j u hu => hg.cell (this j u hu) (fun e => h.ne hk this (by rw [hl _ (by omega)]; omega) e.symm)
 ·by_cases hik : i < k
  ·simp only [if_pos hik]; exact h.len i hik
  ·simp only [if_neg hik]; rw [hl _ (by omega)]; omega
theorem ec_news {w x : World} {n : Nat} {g : Nat → E4} {q : Nat → Nat} (h : Ec w n n g q x) : ∀ j u, ((List.range n).map fun j => Value.slice (some ⟨q j, 0, none⟩) 32 32)[j]? = some u → x.cell? ((⟨w.heap.size, 0, none⟩ : Addr).add j) = some u := by
 intro j u hu
 rw [List.getElem?_map] at hu
 by_cases hj : j < n
 ·rw [List.getElem?_range hj] at hu
  rw [Addr.add_mid, Nat.zero_add, (h.2.2.2 j hj).1]
  simpa using hu
 ·rw [List.getElem?_eq_none (by simpa using hj)] at hu
  simp at hu
def PtR (w : World) (e : Ending) (w' : World) : Prop := ∃ (G cap : Nat) (ps : List (List UInt8)) (q : Nat → Option Addr) (c : Nat → Nat), e = .returned (.slice (some ⟨G, 0, none⟩) ps.length cap) ∧ Tr.Pt w' (some ⟨G, 0, none⟩) ps q c ∧ Tr.Bd ps ∧ Below w.heap.size w w'
theorem by_rangeQ {w : World} {b c : Nat} {l : List UInt8} (h : w.rangeAt b 0 (Tr.cb l)) : Tr.By w (some ⟨b, 0, none⟩) c l := by_range h
theorem map_getD {α : Type} (k i : Nat) (L : Nat → List α) (hi : i < k) : ((List.range k).map L).getD i [] = L i := by
 rw [List.getD_eq_getElem?_getD, List.getElem?_map, List.getElem?_range hi]; rfl
theorem Pq.ptr {w w' : World} {B k : Nat} {v : Value} {Q : Nat → Nat} {L : Nat → List UInt8} (h : Pq w' B v k Q L) (hk : 1 ≤ k) (hk2 : k ≤ 100000) (hb : Below w.heap.size w w') : PtR w (.returned v) w' := by
 obtain ⟨g, c, rfl, _⟩ := own_shapeS h.own hk
 have el : ((List.range k).map L).length = k := by simp
 refine ⟨g, c, (List.range k).map L, fun i => some ⟨Q i, 0, none⟩, fun i => (L i).length, by rw [el], ⟨fun _ => ⟨g, 0, rfl, fun i hi => ?_⟩, fun i hi => ?_⟩, ⟨by rw [el]; omega, fun i hi => ?_⟩, hb⟩
 ·rw [el] at hi
  rw [Nat.zero_add, h.own.cellAt i (by omega), List.getElem?_map, List.getElem?_range hi, map_getD k i L hi]; rfl
 ·rw [el] at hi
  rw [map_getD k i L hi]; exact by_rangeQ (h.each i hi)
 ·rw [el] at hi
  rw [map_getD k i L hi]; have := h.len i hi; omega
theorem Ec.ptr {w x : World} {n : Nat} {g : Nat → E4} {q : Nat → Nat} (h : Ec w n n g q x) (hn : n ≤ 64) : PtR w (.returned (.slice (some ⟨w.heap.size, 0, none⟩) n n)) x := by
 have el : ((List.range n).map fun j => eb (g j).n).length = n := by simp
 refine ⟨w.heap.size, n, (List.range n).map fun j => eb (g j).n, fun i => some ⟨q i, 0, none⟩, fun _ => 32, by rw [el], ⟨fun _ => ⟨w.heap.size, 0, rfl, fun i hi => ?_⟩, fun i hi => ?_⟩, ⟨by rw [el]; omega, fun i hi => ?_⟩, h.1⟩
 ·rw [el] at hi
  rw [Nat.zero_add, (h.2.2.2 i hi).1, map_getD n i _ hi, eb_len]
 ·rw [el] at hi
  rw [map_getD n i _ hi]; exact by_rangeQ (h.2.2.2 i hi).2.1
 ·rw [el] at hi
  rw [map_getD n i _ hi, eb_len]; omega
theorem two_pq {w : World} {N1 N2 : Nat} {a b : List UInt8} {B : Nat} (ha : a.length = 8) (hb : b.length = 8) (hB : B ≤ w.heap.size) (r1 : w.rangeAt N1 0 (Tr.cb a)) (r2 : w.rangeAt N2 0 (Tr.cb b)) :
  Pq (w.alloc (.cells #[.slice (some ⟨N1, 0, none⟩) 8 8, .slice (some ⟨N2, 0, none⟩) 8 8] 123)) B (.slice (some ⟨w.heap.size, 0, none⟩) 2 2) 2 (fun i => if i = 0 then N1 else N2) (fun i => if i = 0 then a else b) := by
 refine ⟨⟨by simp, .inr ⟨w.heap.size, 2, _, rfl, hB, heap_alloc_new w _, by omega, by unfold maxLen; omega, by simp, by simp [List.range_succ, ha, hb]⟩⟩, fun i hi => ?_, fun i hi => ?_⟩
 ·by_cases h : i = 0
  ·simp only [if_pos h]; exact range_bl r1 (bl_alloc _ _)
  ·simp only [if_neg h]; exact range_bl r2 (bl_alloc _ _)
 ·by_cases h : i = 0
  ·simp only [if_pos h]; omega
  ·simp only [if_neg h]; omega
theorem build2 (P1 P2 : Nat) (w : World) : (Instr.buildSlice 110 2 #[(0, .slice (some ⟨P1, 0, none⟩) 8 8), (1, .slice (some ⟨P2, 0, none⟩) 8 8)]).run Tryz.prog w = .ok (.slice (some ⟨w.heap.size, 0, none⟩) 2 2) (w.alloc (.cells #[.slice (some ⟨P1, 0, none⟩) 8 8, .slice (some ⟨P2, 0, none⟩) 8 8] 123)) := by kernel_rfl
theorem wp_build2 {w : World} {o : Oper} {a : Act} {K : Act → World → Prop} {Q : Exit → Act → World → Prop} (x y : Operand) (ho : o.op = .buildSlice 110 2 #[(0, x), (1, y)]) (P1 P2 : Nat) (hx : a.eval x = .slice (some ⟨P1, 0, none⟩) 8 8) (hy : a.eval y = .slice (some ⟨P2, 0, none⟩) 8 8) (h : ∀ (tb : Nat) (wq : World), tb = w.heap.size → wq = w.alloc (.cells #[.slice (some ⟨P1, 0, none⟩) 8 8, .slice (some ⟨P2, 0, none⟩) 8 8] 123) → K (a.put o.dst (.slice (some ⟨tb, 0, none⟩) 2 2)) wq) : o.wp Tryz.prog a w K Q := by
 have hr := build2 P1 P2 w
 unfold Oper.wp execOp
 simp only [ho, Sem.run_bind, Sem.run_pure, Result.andThen_ok, List.map_toArray, List.map_cons, List.map_nil, hx, hy, hr]
 exact h _ _ rfl rfl
theorem le64N (m : Nat) (y : World) (hm : m ≤ 64) : Calls Tryz.prog 60 #[.int .i64 (m : Int)] y fun e w' => ∃ (N : Nat) (bs : List UInt8), e = .returned (.slice (some ⟨N, 0, none⟩) 8 8) ∧ bs.length = 8 ∧ w'.rangeAt N 0 (Tr.cb bs) ∧ Below y.heap.size y w' := by
 refine (le64R m y hm).mono ?_
 rintro e w' ⟨rfl, h1, h2, bs, h3, h4⟩
 exact ⟨_, bs, rfl, h3, h4, h1⟩
def pa1o_0 : Oper := { dst := some 6, op := Op.fieldAddr 43 (Operand.tmp 1) 0, type := 0, pos := "subject.go:75", after := #[], guard := none }
def pa1o_1 : Oper := { dst := some 7, op := Op.load 40 (Operand.tmp 6), type := 40, pos := "subject.go:75", after := #[{ on := 0, ground := Ground.data }], guard := none }
def pa1o_2 : Oper := { dst := some 8, op := Op.call { callee := Callee.builtin Builtin.len, args := #[Operand.tmp 7], argTypes := #[40] }, type := 3, pos := "subject.go:75", after := #[{ on := 1, ground := Ground.data }], guard := none }
def pa1o_3 : Oper := { dst := some 9, op := Op.call { callee := Callee.value (Operand.func 60), args := #[Operand.tmp 8], argTypes := #[3] }, type := 123, pos := "subject.go:75", after := #[{ on := 2, ground := Ground.data }], guard := none }
def pa1o_4 : Oper := { dst := some 10, op := Op.fieldAddr 43 (Operand.tmp 1) 0, type := 0, pos := "subject.go:75", after := #[], guard := none }
def pa1o_5 : Oper := { dst := some 11, op := Op.load 40 (Operand.tmp 10), type := 40, pos := "subject.go:75", after := #[{ on := 4, ground := Ground.data }], guard := none }
def pa1o_6 : Oper := { dst := some 12, op := Op.indexAddr 40 (Operand.tmp 11) (Operand.const (Value.int IntKind.i64 0)), type := 0, pos := "subject.go:75", after := #[{ on := 5, ground := Ground.data }], guard := none }
def pa1o_7 : Oper := { dst := some 13, op := Op.load 41 (Operand.tmp 12), type := 41, pos := "subject.go:75", after := #[{ on := 6, ground := Ground.data }], guard := none }
def pa1o_8 : Oper := { dst := some 14, op := Op.call { callee := Callee.builtin Builtin.len, args := #[Operand.tmp 13], argTypes := #[41] }, type := 3, pos := "subject.go:75", after := #[{ on := 7, ground := Ground.data }], guard := none }
def pa1o_9 : Oper := { dst := some 15, op := Op.call { callee := Callee.value (Operand.func 60), args := #[Operand.tmp 14], argTypes := #[3] }, type := 123, pos := "subject.go:75", after := #[{ on := 8, ground := Ground.data }, { on := 3, ground := Ground.chain }], guard := none }
def pa1o_10 : Oper := { dst := some 16, op := Op.buildSlice 110 2 #[(0, Operand.tmp 9), (1, Operand.tmp 15)], type := 110, pos := "subject.go:75", after := #[{ on := 3, ground := Ground.data }, { on := 9, ground := Ground.data }], guard := none }
def pa1o_11 : Oper := { dst := some 3, op := Op.assign (Operand.tmp 16), type := 110, pos := "subject.go:75", after := #[{ on := 10, ground := Ground.data }, { on := 9, ground := Ground.chain }, { on := 0, ground := Ground.phase }, { on := 1, ground := Ground.phase }, { on := 2, ground := Ground.phase }, { on := 3, ground := Ground.phase }, { on := 4, ground := Ground.phase }, { on := 5, ground := Ground.phase }, { on := 6, ground := Ground.phase }, { on := 7, ground := Ground.phase }, { on := 8, ground := Ground.phase }, { on := 9, ground := Ground.phase }, { on := 10, ground := Ground.phase }], guard := none }
def pa1o : Array Oper := #[pa1o_0, pa1o_1, pa1o_2, pa1o_3, pa1o_4, pa1o_5, pa1o_6, pa1o_7, pa1o_8, pa1o_9, pa1o_10, pa1o_11]
theorem pa1 (Q : Exit → Act → World → Prop) (T1 R r n g0 c0 cR : Nat) (u0 u2 u3 u4 u5 u6 u7 u8 u9 u10 u11 u12 u13 u14 u15 u16 u17 u18 u19 u20 u21 u22 u23 u24 u25 u26 u27 u28 u29 u30 u31 u32 u33 : Value) (W : World)
  (r0 : (0 : Int) < (r : Int)) (k0 : W.cell? ⟨T1, 0, none⟩ = some (.slice (some ⟨R, 0, none⟩) r cR)) (k1 : W.cell? ⟨R, 0, none⟩ = some (.slice (some ⟨g0, 0, none⟩) n c0))
  (C3 : Hid (∀ y, Below W.heap.size W y → Calls Tryz.prog 60 #[.int .i64 (r : Int)] y fun e w' => ∃ (N : Nat) (bs : List UInt8), e = .returned (.slice (some ⟨N, 0, none⟩) 8 8) ∧ bs.length = 8 ∧ w'.rangeAt N 0 (Tr.cb bs) ∧ Below y.heap.size y w'))
  (C9 : Hid (∀ y, Below W.heap.size W y → Calls Tryz.prog 60 #[.int .i64 (n : Int)] y fun e w' => ∃ (N : Nat) (bs : List UInt8), e = .returned (.slice (some ⟨N, 0, none⟩) 8 8) ∧ bs.length = 8 ∧ w'.rangeAt N 0 (Tr.cb bs) ∧ Below y.heap.size y w'))
  (HQ : Hid (∀ (N1 N2 tb : Nat) (Q1 : Nat → Nat) (L1 : Nat → List UInt8) (wz : World), Pq wz W.heap.size (.slice (some ⟨tb, 0, none⟩) 2 2) 2 Q1 L1 → Below W.heap.size W wz → Q .normal ⟨#[u0, .pointer (some ⟨T1, 0, none⟩), u2, .slice (some ⟨tb, 0, none⟩) 2 2, u4, u5, .pointer (some ⟨T1, 0, none⟩), .slice (some ⟨R, 0, none⟩) r cR, .int .i64 (r : Int), .slice (some ⟨N1, 0, none⟩) 8 8, .pointer (some ⟨T1, 0, none⟩), .slice (some ⟨R, 0, none⟩) r cR, .pointer (some ⟨R, 0, none⟩), .slice (some ⟨g0, 0, none⟩) n c0, .int .i64 (n : Int), .slice (some ⟨N2, 0, none⟩) 8 8, .slice (some ⟨tb, 0, none⟩) 2 2, u17, u18, u19, u20, u21, u22, u23, u24, u25, u26, u27, u28, u29, u30, u31, u32, u33], []⟩ wz)) : (Code.region 1 pa1o true).wp Tryz.prog Q ⟨#[u0, .pointer (some ⟨T1, 0, none⟩), u2, u3, u4, u5, u6, u7, u8, u9, u10, u11, u12, u13, u14, u15, u16, u17, u18, u19, u20, u21, u22, u23, u24, u25, u26, u27, u28, u29, u30, u31, u32, u33], []⟩ W := by
 unfold pa1o
 refine wp_region_noPanic ?_
 refine wp_region_held_drew (S := fun x => Below W.heap.size W x) (by kernel_rfl) (bl_drew W) (fun hH0 => ?_)
 refine tk 0 pa1o_0 (.pointer (some ⟨T1, 0, none⟩)) rfl (by kernel_rfl) hH0 rfl (fun w0 hSw => ?_) ?_
 ·(unfold pa1o_0; clear hSw; go_simp)
 simp only [pa1o_0, Act.put, sA, sB, sC]
 refine tk 4 pa1o_4 (.pointer (some ⟨T1, 0, none⟩)) rfl (by kernel_rfl) hH0 rfl (fun w0 hSw => ?_) ?_
 ·(unfold pa1o_4; clear hSw; go_simp)
 simp only [pa1o_4, Act.put, sA, sB, sC]
 refine tk 1 pa1o_1 (.slice (some ⟨R, 0, none⟩) r cR) rfl (by kernel_rfl) hH0 rfl (fun w0 hSw => ?_) ?_
 ·(unfold pa1o_1; have hS : Below W.heap.size W w0 := hSw; have a0 := (cell_keep k0 hS); clear hS hSw; go_simp)
 simp only [pa1o_1, Act.put, sA, sB, sC]
 refine tk 5 pa1o_5 (.slice (some ⟨R, 0, none⟩) r cR) rfl (by kernel_rfl) hH0 rfl (fun w0 hSw => ?_) ?_
 ·(unfold pa1o_5; have hS : Below W.heap.size W w0 := hSw; have a0 := (cell_keep k0 hS); clear hS hSw; go_simp)
 simp only [pa1o_5, Act.put, sA, sB, sC]
 refine tk 2 pa1o_2 (.int .i64 (r : Int)) rfl (by kernel_rfl) hH0 rfl (fun w0 hSw => ?_) ?_
 ·(unfold pa1o_2; clear hSw; go_simp)
 simp only [pa1o_2, Act.put, sA, sB, sC]
 refine tk 6 pa1o_6 (.pointer (some ⟨R, 0, none⟩)) rfl (by kernel_rfl) hH0 rfl (fun w0 hSw => ?_) ?_
 ·(unfold pa1o_6; clear hSw; go_simp; intro h; omega)
 simp only [pa1o_6, Act.put, sA, sB, sC]
 refine tk 7 pa1o_7 (.slice (some ⟨g0, 0, none⟩) n c0) rfl (by kernel_rfl) hH0 rfl (fun w0 hSw => ?_) ?_
 ·(unfold pa1o_7; have hS : Below W.heap.size W w0 := hSw; have a0 := (cell_keep k1 hS); clear hS hSw; go_simp)
 simp only [pa1o_7, Act.put, sA, sB, sC]
 refine tk 8 pa1o_8 (.int .i64 (n : Int)) rfl (by kernel_rfl) hH0 rfl (fun w0 hSw => ?_) ?_
 ·(unfold pa1o_8; clear hSw; go_simp)
 simp only [pa1o_8, Act.put, sA, sB, sC]
 refine wpAnyH_ready (rs := [3]) (by kernel_rfl) (by simp) ?_
 refine AllReadyH.cons (o := pa1o_3) rfl (fun K hK => ?_) AllReadyH.nil
 unfold pa1o_3
 have HH := hidden hH0
 clear hH0
 go_simp
 refine (C3.out _ HH.out).mono ?_
 rintro e wn1 ⟨N1, a, rfl, ha, ra, hb⟩
 have RA := hidden (And.intro ha ra)
 have SN := hidden (bl_trans HH.out hb)
 clear HH C3 hb ha ra
 go_wp2_with fail
 refine hK.out _ _ SN.out (fun hH1 => ?_)
 clear hK K SN
 refine wpAnyH_ready (rs := [9]) (by kernel_rfl) (by simp) ?_
 refine AllReadyH.cons (o := pa1o_9) rfl (fun K hK => ?_) AllReadyH.nil
 unfold pa1o_9
 have HH := hidden hH1
 clear hH1
 go_simp
 refine (C9.out _ HH.out).mono ?_
 rintro e wn2 ⟨N2, b, rfl, hb1, rb, hb⟩
 replace RA := hidden (And.intro RA.out.1 (range_bl RA.out.2 hb))
 have RB := hidden (And.intro hb1 rb)
 have SN := hidden (bl_trans HH.out hb)
 clear HH C9 hb hb1 rb
 go_wp2_with fail
 refine hK.out _ _ SN.out (fun hH2 => ?_)
 clear hK K SN
 refine wpAnyH_ready (rs := [10]) (by kernel_rfl) (by simp) ?_
 refine AllReadyH.cons (o := pa1o_10) rfl (fun K hK => ?_) AllReadyH.nil
 unfold pa1o_10
 have HH := hidden hH2
 clear hH2
 refine wp_build2 (.tmp 9) (.tmp 15) rfl N1 N2 rfl rfl (fun tb wn3 htb hwq => ?_)
 have PQ := hidden ((by rw [htb, hwq]; exact two_pq RA.out.1 RB.out.1 HH.out.size RA.out.2 RB.out.2 : Pq wn3 W.heap.size (.slice (some ⟨tb, 0, none⟩) 2 2) 2 (fun i => if i = 0 then N1 else N2) (fun i => if i = 0 then a else b)))
 have SN := hidden ((by rw [hwq]; exact bl_trans HH.out (bl_alloc _ _) : Below W.heap.size W wn3))
 clear HH RA RB htb hwq
 simp only [Act.put, sA, sB, sC]
 refine hK.out _ _ SN.out (fun hH3 => ?_)
 clear hK K SN
 refine tk 11 pa1o_11 (.slice (some ⟨tb, 0, none⟩) 2 2) rfl (by kernel_rfl) hH3 rfl (fun w0 hSw => ?_) ?_
 ·(unfold pa1o_11; clear hSw; go_simp)
 simp only [pa1o_11, Act.put, sA, sB, sC]
 have HH := hidden hH3
 have FQ := hidden (HQ.out N1 N2 tb _ _ _ PQ.out HH.out)
 refine wpAnyH_done (by kernel_rfl) ?_ _
 refine NoPanic.normal ?_
 exact FQ.out
theorem partsR (R I r n cR cI : Nat) (g cn : Nat → Nat) (gs : Nat → Nat → E4) (im : Nat → E4) (w : World) (hT : Tb w) (hr1 : 1 ≤ r) (hr2 : r ≤ 64) (hn : n ≤ 64) (hC : Cl w R I r n g cn gs im) :
  Calls Tryz.prog 56 #[.agg #[.slice (some ⟨R, 0, none⟩) r cR, .slice (some ⟨I, 0, none⟩) r cI]] w fun e w' => PtR w e w' := by
 obtain ⟨i0, hi, hz0, hz1, hz2⟩ := info_parts Tr.info55
 have HI := hidden hi
 have HZ0 := hidden hz0
 have HZ1 := hidden hz1
 have HZ2 := hidden hz2
 have HU : Hid (Tryz.prog.underlying 110 = some (.slice 123)) := hidden (by kernel_rfl)
 have B0 := hidden (bl_alloc w (.cells #[.slice (some ⟨R, 0, none⟩) r cR, .slice (some ⟨I, 0, none⟩) r cI] 43))
 have x0 : (w.alloc (.cells #[.slice (some ⟨R, 0, none⟩) r cR, .slice (some ⟨I, 0, none⟩) r cI] 43)).cell? ⟨w.heap.size, 0, none⟩ = some (.slice (some ⟨R, 0, none⟩) r cR) := by go_simp
 have x1 : (w.alloc (.cells #[.slice (some ⟨R, 0, none⟩) r cR, .slice (some ⟨I, 0, none⟩) r cI] 43)).cell? ⟨w.heap.size, 1, none⟩ = some (.slice (some ⟨I, 0, none⟩) r cI) := by go_simp
 have X := hidden (And.intro x0 x1)
 have HC := hidden hC
 have HT := hidden hT
 have HR1 := hidden hr1
 have HR2 := hidden hr2
 have HN := hidden hn
 clear x0 x1 hC hT hi hz0 hz1 hz2
 go_enter Tryz.func56, Tryz.ntmps56
 go_upto_region 1 with fail
 have SZ : Hid ((w.alloc (.cells #[.slice (some ⟨R, 0, none⟩) r cR, .slice (some ⟨I, 0, none⟩) r cI] 43)).heap.size = w.heap.size + 1) := hidden (World.size_alloc _ _)
 generalize w.alloc (.cells #[.slice (some ⟨R, 0, none⟩) r cR, .slice (some ⟨I, 0, none⟩) r cI] 43) = w1 at *
 have k1 := cell_keep (HC.out.row 0 (by omega)) B0.out
 have r0 : (0 : Int) < (r : Int) := by omega
 generalize g 0 = g0 at k1
 generalize cn 0 = c0 at k1
 refine pa1 _ w.heap.size R r n g0 c0 cR _ _ _ _ _ _ _ _ _ _ _ _ _ _ _ _ _ _ _ _ _ _ _ _ _ _ _ _ _ _ _ _ _ w1 r0 X.out.1 k1 (hidden fun y _ => le64N r y hr2) (hidden fun y _ => le64N n y hn) (hidden ?_)
 intro N1 N2 tb Q1 L1 wz PQ BZ
 have P0 : Hid (∃ Q L, Pq wz (w.heap.size + 1) (.slice (some ⟨tb, 0, none⟩) 2 2) 2 Q L) := hidden ⟨Q1, L1, ⟨own_lower PQ.own (by rw [SZ.out]; exact Nat.le_refl _), PQ.each, PQ.len⟩⟩
 have X2 := hidden (And.intro (cell_keep X.out.1 BZ) (cell_keep X.out.2 BZ))
 have B2 := hidden (bl_trans B0.out BZ)
 have x0 := X2.out.1
 clear PQ BZ k1 r0 X B0
 go_wp2_with fail
 go_loopw [3, 20] (fun lv iv w' => ∃ i : Nat, i ≤ r ∧ iv = .int .i64 i ∧ Hid (∃ k Q L, 1 ≤ k ∧ k ≤ 2 + 64 * i ∧ Pq w' (w.heap.size + 1) lv k Q L) ∧ Hid (Below w.heap.size w w') ∧ Hid (w'.cell? ⟨w.heap.size, 1, none⟩ = some (.slice (some ⟨I, 0, none⟩) r cI))) (fun _ i _ => r - (intOf i).toNat)
 case atStart => exact ⟨0, by omega, rfl, hidden (by obtain ⟨Q, L, h⟩ := P0.out; exact ⟨2, Q, L, by omega, by omega, h⟩), B2, hidden X2.out.2⟩
 case round =>
  clear P0 B2 X2 x0
  obtain ⟨i, hi, rfl, hP, hB, hX⟩ := hrel
  by_cases hin : i < r
  ·have i0' : (0 : Int) ≤ (i : Int) := by omega
   have i1 : (i : Int) < (r : Int) := by omega
   have w9 : IntKind.i64.wrap ((i : Int) + 1) = (i : Int) + 1 := IntWalk.i64_in _ (by have := HR2.out; omega)
   have rk := cell_keep (HC.out.row i hin) hB.out
   have EN := hidden (fun x (hb : Below w.heap.size w x) => encR (g i) n (cn i) (gs i) x (HT.out.keep hb) HN.out (HC.out.ok i hin) ((HC.out.rl i hin).keep hb))
   generalize g i = gi at *
   generalize cn i = ci at *
   generalize gs i = gg at *
   obtain ⟨k, Q, L, hk1, hk2, hP⟩ := hP.out
   have PB := hidden hP
   have K1 := hidden hk1
   have KB : Hid (k ≤ 5000) := hidden (by have := HR2.out; omega)
   have HNN := HN
   clear hP
   go_wp2_with (first
    | (go_at_call 49; refine (EN.out _ hB.out).mono ?_; rintro e wa ⟨rfl, q, hq⟩; have EC := hidden hq; have PA := hidden (PB.out.keep hq.1); have BA := hidden (bl_trans hB.out hq.1); have XA := hidden (cell_keep hX.out hq.1); clear hq PB hB hX rk EN; skip)
    | (at_builtin; refine wpList_append_own_at _ rfl _ _ 110 rfl (w.heap.size + 1) 123 i0 (.slice none 0 0) 1 24 HU.out HI.out HZ0.out HZ1.out HZ2.out rfl (by decide) _ k _ rfl PA.out.own ⟨wr.heap.size, 0, none⟩ n n ((List.range n).map fun j => .slice (some ⟨q j, 0, none⟩) 32 32) rfl (by simp) (ec_news EC.out) (by intro u hu; obtain ⟨j, _, rfl⟩ := List.mem_map.1 hu; rfl) (by have := KB.out; have := HNN.out; unfold maxLen; omega) (by have := KB.out; have := HNN.out; omega) (World.block_lt_of_cell? _ _ XA.out) ?_; intro v4 w4 how4 hgr4 hnil4 hat4; have P4 := hidden (PA.out.add K1.out q _ (fun j hj => (EC.out.2.2.2 j hj).2.1) (fun j _ => eb_len _) how4 hgr4); have B4 := hidden (below_trans BA.out (below_grown hgr4 BA.out.size (fun k hk => by have := (PA.out.own.lt k hk).1; omega))); have X4 := hidden (hgr4.cell XA.out (fun e => by have := (PA.out.own.lt _ e.symm).1; simp only at this; omega)); clear how4 hgr4 hnil4 hat4 PA BA EC XA))
   go_roundw
   case rel => exact ⟨i + 1, by omega, by go_num, hidden ⟨_, _, _, by omega, by have := HN.out; omega, P4.out⟩, B4, X4⟩
   case measure => simp [intOf]; omega
  ·obtain rfl : i = r := by omega
   have lq : ¬ (i : Int) < (i : Int) := by omega
   have EN := hidden (fun x (hb : Below w.heap.size w x) => encR I i cI im x (HT.out.keep hb) hr2 HC.out.oi (HC.out.ri.keep hb))
   obtain ⟨k, Q, L, hk1, hk2, hP⟩ := hP.out
   have PB := hidden hP
   have K1 := hidden hk1
   have KB : Hid (k ≤ 5000) := hidden (by have := HR2.out; omega)
   have HNN := HR2
   have rk := hX.out
   clear hP
   go_wp2_with (first
    | (go_at_call 49; refine (EN.out _ hB.out).mono ?_; rintro e wa ⟨rfl, q, hq⟩; have EC := hidden hq; have PA := hidden (PB.out.keep hq.1); have BA := hidden (bl_trans hB.out hq.1); have XA := hidden (cell_keep hX.out hq.1); clear hq PB hB hX rk EN)
    | (at_builtin; refine wpList_append_own_at _ rfl _ _ 110 rfl (w.heap.size + 1) 123 i0 (.slice none 0 0) 1 24 HU.out HI.out HZ0.out HZ1.out HZ2.out rfl (by decide) _ k _ rfl PA.out.own ⟨wr.heap.size, 0, none⟩ i i ((List.range i).map fun j => .slice (some ⟨q j, 0, none⟩) 32 32) rfl (by simp) (ec_news EC.out) (by intro u hu; obtain ⟨j, _, rfl⟩ := List.mem_map.1 hu; rfl) (by have := KB.out; have := HNN.out; unfold maxLen; omega) (by have := KB.out; have := HNN.out; omega) (World.block_lt_of_cell? _ _ XA.out) ?_; intro v4 w4 how4 hgr4 hnil4 hat4; have P4 := hidden (PA.out.add K1.out q _ (fun j hj => (EC.out.2.2.2 j hj).2.1) (fun j _ => eb_len _) how4 hgr4); have B4 := hidden (below_trans BA.out (below_grown hgr4 BA.out.size (fun k hk => by have := (PA.out.own.lt k hk).1; omega))); have X4 := hidden (hgr4.cell XA.out (fun e => by have := (PA.out.own.lt _ e.symm).1; simp only at this; omega)); clear how4 hgr4 hnil4 hat4 PA BA EC XA))
   refine bodyPost_ret (v := v4) (by simp [results, Tryz.results56, go_sem]) rfl (P4.out.ptr (by omega) (by have := KB.out; have := HNN.out; omega) B4.out)
open Go.RowKit
theorem bt_trans {S S' : Nat → Prop} {w w1 w2 : World} (h : Tr.Bt S w w1) (g : Tr.Bt S' w1 w2) (hs : ∀ k, k < w.heap.size → S' k → S k) : Tr.Bt S w w2 :=
 ⟨g.os.trans h.os, g.tape.trans h.tape, g.output.trans h.output, Nat.le_trans h.size g.size, fun k hk hn => (g.block k (Nat.lt_of_lt_of_le hk h.size) (fun e => hn (hs k hk e))).trans (h.block k hk hn)⟩
theorem bt_cell {S : Nat → Prop} {w w' : World} {b o : Nat} {v : Value} (h : w.cell? ⟨b, o, none⟩ = some v) (hb : Tr.Bt S w w') (hn : ¬ S b) : w'.cell? ⟨b, o, none⟩ = some v :=
 (World.cell?_of_block (a := ⟨b, o, none⟩) (hb.block b (World.block_lt_of_cell? w _ h) hn)).trans h
theorem rl_bt {S : Nat → Prop} {w w' : World} {b o n : Nat} {g : Nat → E4} (h : Rl w b o n g) (hb : Tr.Bt S w w') (hn : ¬ S b) : Rl w' b o n g :=
 ⟨fun k hk => bt_cell (h.c0 k hk) hb hn, fun k hk => bt_cell (h.c1 k hk) hb hn, fun k hk => bt_cell (h.c2 k hk) hb hn, fun k hk => bt_cell (h.c3 k hk) hb hn⟩
structure Cb (s : Nat) (w : World) (R I r n : Nat) (g cn : Nat → Nat) (gs : Nat → Nat → E4) (im : Nat → E4) : Prop where
 c : Cl w R I r n g cn gs im
 l1 : R < s
 l2 : I < s
 l3 : ∀ i, i < r → g i < s
theorem Cb.keep {s : Nat} {w w' : World} {R I r n : Nat} {g cn : Nat → Nat} {gs : Nat → Nat → E4} {im : Nat → E4} (h : Cb s w R I r n g cn gs im) (hb : Below w.heap.size w w') : Cb s w' R I r n g cn gs im := ⟨h.c.keep hb, h.l1, h.l2, h.l3⟩
theorem Cb.bt {s : Nat} {S : Nat → Prop} {w w' : World} {R I r n : Nat} {g cn : Nat → Nat} {gs : Nat → Nat → E4} {im : Nat → E4} (h : Cb s w R I r n g cn gs im) (hb : Tr.Bt S w w') (hs : ∀ k, S k → s ≤ k) : Cb s w' R I r n g cn gs im :=
 ⟨⟨fun i hi => bt_cell (h.c.row i hi) hb (fun e => by have := hs _ e; have := h.l1; omega), fun i hi => rl_bt (h.c.rl i hi) hb (fun e => by have := hs _ e; have := h.l3 i hi; omega), rl_bt h.c.ri hb (fun e => by have := hs _ e; have := h.l2; omega), h.c.ok, h.c.oi⟩, h.l1, h.l2, h.l3⟩
theorem mt_Absorb (s : Nat) (w : World) : (method 362 45 (.pointer (some ⟨s, 0, none⟩)) "Absorb").run Tryz.prog w = .ok (134, .pointer (some ⟨s, 0, none⟩)) w := by kernel_rfl
theorem na_Absorb (s : Nat) (w : World) : (nilAhead 362 45 (.pointer (some ⟨s, 0, none⟩)) "Absorb").run Tryz.prog w = .ok (some false) w := by kernel_rfl
theorem ta_p1 (x : Value) (w : World) : (Instr.typeAssert (.iface 64 x) 98 62 true).run Tryz.prog w = .ok (.tuple #[.agg #[.slice none 0 0, .slice none 0 0], .bool false]) w := by kernel_rfl
theorem ta_p2 (x : Value) (w : World) : (Instr.typeAssert (.iface 64 x) 98 125 true).run Tryz.prog w = .ok (.tuple #[.agg #[.slice none 0 0, .slice none 0 0, .slice none 0 0], .bool false]) w := by kernel_rfl
theorem ta_p3 (x : Value) (w : World) : (Instr.typeAssert (.iface 64 x) 98 64 true).run Tryz.prog w = .ok (.tuple #[x, .bool true]) w := by kernel_rfl
def SayR (w : World) (B s : Nat) (vL vH : Value) (es : List (Tr.En × Tr.Em)) (k : Nat) (w' : World) : Prop := ∃ (vn : Value) (es' : List (Tr.En × Tr.Em)), Tr.B3 w' s 85 vL vn (.bool true) ∧ Tr.Hr w' B vn es' ∧ es'.length = es.length + k ∧ Tr.Bt (fun k => k = s ∨ vH.ownBlock = some k) w w'
theorem sayR_of {w x w' : World} {B s k : Nat} {vL vH : Value} {es : List (Tr.En × Tr.Em)} (hb : Below w.heap.size w x) (h : SayR x B s vL vH es k w') : SayR w B s vL vH es k w' := by
 obtain ⟨vn, es', h1, h2, h3, h4⟩ := h
 exact ⟨vn, es', h1, h2, h3, bt_trans (Tr.Bt.of hb) h4 (fun _ _ e => e)⟩
theorem absR {s B : Nat} {vL vH : Value} {es : List (Tr.En × Tr.Em)} (l : List UInt8) {w0 w : World} {e : Ending} {P : Option Addr} {ps : List (List UInt8)} {q : Nat → Option Addr} {c : Nat → Nat} (cap : Nat) (hX : Tr.B3 w s 85 vL vH (.bool true)) (hsb : s < B) (hB : B ≤ w.heap.size) (hH : Tr.Hr w B vH es) (hn : es.length ≤ 100) (hP : Tr.Pt w P ps q c) (hs : Tr.Bd ps) :
  Calls Tryz.prog 134 #[.pointer (some ⟨s, 0, none⟩), .string (Tr.sb l), .slice P ps.length cap] w fun e w' => e = .returned (.tuple #[]) ∧ SayR w B s vL vH es 1 w' := by
 refine (Tr.absorb_any s B vL vH es l ps P cap q c w hX hsb hB hH (by omega) hP hs).mono ?_
 rintro e w' ⟨vn, m, rfl, h1, h2, h3, h4, h5⟩
 exact ⟨rfl, vn, _, h1, h2, by simp, h5⟩
theorem sayS (s B r n : Nat) (vL vH : Value) (es : List (Tr.En × Tr.Em)) (R1 I1 cR1 cI1 : Nat) (g1 cn1 : Nat → Nat) (gs1 : Nat → Nat → E4) (im1 : Nat → E4) (w : World) (hT : Tb w) (hr1 : 1 ≤ r) (hr2 : r ≤ 64) (hn : n ≤ 64) (hC : Cl w R1 I1 r n g1 cn1 gs1 im1) (hX : Tr.B3 w s 85 vL vH (.bool true)) (hsb : s < B) (hB : B ≤ w.heap.size) (hH : Tr.Hr w B vH es) (hes : es.length ≤ 50) :
  Calls Tryz.prog 48 #[.iface 45 (.pointer (some ⟨s, 0, none⟩)), .iface 62 (.agg #[.slice (some ⟨R1, 0, none⟩) r cR1, .slice (some ⟨I1, 0, none⟩) r cI1])] w fun e w' => e = .returned (.tuple #[]) ∧ SayR w B s vL vH es 1 w' := by
 have B0 := hidden (bl_alloc w (.cells #[.slice (some ⟨R1, 0, none⟩) r cR1, .slice (some ⟨I1, 0, none⟩) r cI1] 62))
 have x0 : (w.alloc (.cells #[.slice (some ⟨R1, 0, none⟩) r cR1, .slice (some ⟨I1, 0, none⟩) r cI1] 62)).cell? ⟨w.heap.size, 0, none⟩ = some (.slice (some ⟨R1, 0, none⟩) r cR1) := by go_simp
 have x1 : (w.alloc (.cells #[.slice (some ⟨R1, 0, none⟩) r cR1, .slice (some ⟨I1, 0, none⟩) r cI1] 62)).cell? ⟨w.heap.size, 1, none⟩ = some (.slice (some ⟨I1, 0, none⟩) r cI1) := by go_simp
 have XX := hidden (And.intro x0 x1)
 have ta := ta_single (.agg #[.slice (some ⟨R1, 0, none⟩) r cR1, .slice (some ⟨I1, 0, none⟩) r cI1])
 have m1 := mt_Absorb s
 have n1 := na_Absorb s
 have HP := hidden (fun x (hb : Below w.heap.size w x) => partsR R1 I1 r n cR1 cI1 g1 cn1 gs1 im1 x (hT.keep hb) hr1 hr2 hn (hC.keep hb))
 have HA := hidden (fun x (hb : Below w.heap.size w x) (G cap : Nat) (ps : List (List UInt8)) (q : Nat → Option Addr) (c : Nat → Nat) (hP : Tr.Pt x (some ⟨G, 0, none⟩) ps q c) (hs : Tr.Bd ps) => absR (w0 := w) (e := .returned (.bool true)) [99, 108, 97, 105, 109] cap (hX.keep hb hX.lt) hsb (Nat.le_trans hB hb.size) (hH.stay hb) (by omega) hP hs)
 clear x0 x1 hT hC hX hH hr1 hr2 hn
 go_enter Tryz.func48, Tryz.ntmps48
 go_upto_region 3 with fail
 generalize w.alloc (.cells #[.slice (some ⟨R1, 0, none⟩) r cR1, .slice (some ⟨I1, 0, none⟩) r cI1] 62) = w1 at *
 have BD := hidden (bl_trans B0.out (bl_drew w1))
 have x0 := cell_keep XX.out.1 (bl_drew w1)
 have x1 := cell_keep XX.out.2 (bl_drew w1)
 clear ta
 go_region_with (first | (go_at_call 56; refine (HP.out _ BD.out).mono ?_; rintro e wa ⟨G, cap, ps, q, c, rfl, hP, hs, hb⟩; have BA := hidden (bl_trans BD.out hb); have HPT := hidden (And.intro hP hs); clear hb hP hs x0 x1 HP) | (go_at_call 134; refine (HA.out _ BA.out G cap ps q c HPT.out.1 HPT.out.2).mono ?_; rintro e wb ⟨rfl, hR⟩; have HR := hidden hR; clear hR HA))
 all_goals
  go_wp2_with fail
  have FR := hidden (sayR_of BA.out HR.out)
  refine bodyPost_end (v := .tuple #[]) (by simp [results, Tryz.results48, go_sem]) rfl ⟨rfl, FR.out⟩
open Go.RowKit
def Fz (w : World) (s : Nat) (t : E4) : Prop := ∃ (Q : Option Addr) (d : Nat), Tr.B3 w s 85 (.slice Q 1 d) (.slice none 0 0) (.bool true) ∧ 1 ≤ d ∧ Tr.Lf w s Q 1 (fun _ => t)
theorem Fz.keep {w w' : World} {s : Nat} {t : E4} (h : Fz w s t) (hb : Below w.heap.size w w') : Fz w' s t := by
 obtain ⟨Q, d, h1, h2, h3⟩ := h
 exact ⟨Q, d, h1.keep hb h1.lt, h2, h3.keep (fun k hk => hb.block k (Nat.lt_trans hk h1.lt))⟩
theorem Fz.lt {w : World} {s : Nat} {t : E4} (h : Fz w s t) : s < w.heap.size := by
 obtain ⟨Q, d, h1, h2, h3⟩ := h
 exact h1.lt
theorem hr_nil (w : World) (B : Nat) : Tr.Hr w B (.slice none 0 0) [] := ⟨World.ownsRow_nil _ _ _ _, fun x hx => (by cases hx), fun x hx => (by cases hx)⟩
def FrR (x : World) (r : Nat) (e : Ending) (w' : World) : Prop := ∃ (D : Nat) (g : Nat → E4), e = .returned (.slice (some ⟨D, 0, none⟩) r r) ∧ Rl w' D 0 r g ∧ (∀ i, i < r → (g i).ok) ∧ Below x.heap.size x w'
theorem mt_Draw (s : Nat) (w : World) : (method 362 45 (.pointer (some ⟨s, 0, none⟩)) "Draw").run Tryz.prog w = .ok (135, .pointer (some ⟨s, 0, none⟩)) w := by kernel_rfl
theorem sayP (s r n : Nat) (vL : Value) (R1 I1 cR1 cI1 : Nat) (g1 cn1 : Nat → Nat) (gs1 : Nat → Nat → E4) (im1 : Nat → E4) (R2 I2 cR2 cI2 : Nat) (g2 cn2 : Nat → Nat) (gs2 : Nat → Nat → E4) (im2 : Nat → E4) (w : World) (hT : Tb w) (ht0 : 0 < s) (hr1 : 1 ≤ r) (hr2 : r ≤ 64) (hn : n ≤ 64) (C1 : Cb s w R1 I1 r n g1 cn1 gs1 im1) (C2 : Cb s w R2 I2 r n g2 cn2 gs2 im2) (hX : Tr.B3 w s 85 vL (.slice none 0 0) (.bool true)) :
  Calls Tryz.prog 48 #[.iface 45 (.pointer (some ⟨s, 0, none⟩)), .iface 64 (.agg #[.slice (some ⟨R1, 0, none⟩) r cR1, .slice (some ⟨I1, 0, none⟩) r cI1, .slice (some ⟨R2, 0, none⟩) r cR2, .slice (some ⟨I2, 0, none⟩) r cI2])] w fun e w' => e = .returned (.tuple #[]) ∧ ∃ (vn : Value) (es : List (Tr.En × Tr.Em)), Tr.B3 w' s 85 vL vn (.bool true) ∧ Tr.Hr w' w.heap.size vn es ∧ es.length = 2 ∧ Tr.Bt (fun k => k = s) w w' := by
 have B0 := hidden (bl_alloc w (.cells #[.slice (some ⟨R1, 0, none⟩) r cR1, .slice (some ⟨I1, 0, none⟩) r cI1, .slice (some ⟨R2, 0, none⟩) r cR2, .slice (some ⟨I2, 0, none⟩) r cI2] 64))
 have x0 : (w.alloc (.cells #[.slice (some ⟨R1, 0, none⟩) r cR1, .slice (some ⟨I1, 0, none⟩) r cI1, .slice (some ⟨R2, 0, none⟩) r cR2, .slice (some ⟨I2, 0, none⟩) r cI2] 64)).cell? ⟨w.heap.size, 0, none⟩ = some (.slice (some ⟨R1, 0, none⟩) r cR1) := by go_simp
 have x1 : (w.alloc (.cells #[.slice (some ⟨R1, 0, none⟩) r cR1, .slice (some ⟨I1, 0, none⟩) r cI1, .slice (some ⟨R2, 0, none⟩) r cR2, .slice (some ⟨I2, 0, none⟩) r cI2] 64)).cell? ⟨w.heap.size, 1, none⟩ = some (.slice (some ⟨I1, 0, none⟩) r cI1) := by go_simp
 have x2 : (w.alloc (.cells #[.slice (some ⟨R1, 0, none⟩) r cR1, .slice (some ⟨I1, 0, none⟩) r cI1, .slice (some ⟨R2, 0, none⟩) r cR2, .slice (some ⟨I2, 0, none⟩) r cI2] 64)).cell? ⟨w.heap.size, 2, none⟩ = some (.slice (some ⟨R2, 0, none⟩) r cR2) := by go_simp
 have x3 : (w.alloc (.cells #[.slice (some ⟨R1, 0, none⟩) r cR1, .slice (some ⟨I1, 0, none⟩) r cI1, .slice (some ⟨R2, 0, none⟩) r cR2, .slice (some ⟨I2, 0, none⟩) r cI2] 64)).cell? ⟨w.heap.size, 3, none⟩ = some (.slice (some ⟨I2, 0, none⟩) r cI2) := by go_simp
 have t1 := ta_p1 (.agg #[.slice (some ⟨R1, 0, none⟩) r cR1, .slice (some ⟨I1, 0, none⟩) r cI1, .slice (some ⟨R2, 0, none⟩) r cR2, .slice (some ⟨I2, 0, none⟩) r cI2])
 have t2 := ta_p2 (.agg #[.slice (some ⟨R1, 0, none⟩) r cR1, .slice (some ⟨I1, 0, none⟩) r cI1, .slice (some ⟨R2, 0, none⟩) r cR2, .slice (some ⟨I2, 0, none⟩) r cI2])
 have t3 := ta_p3 (.agg #[.slice (some ⟨R1, 0, none⟩) r cR1, .slice (some ⟨I1, 0, none⟩) r cI1, .slice (some ⟨R2, 0, none⟩) r cR2, .slice (some ⟨I2, 0, none⟩) r cI2])
 have hs := hX.lt
 have S1 := hidden (fun x (hb : Below w.heap.size w x) => sayS s w.heap.size r n vL (.slice none 0 0) [] R1 I1 cR1 cI1 g1 cn1 gs1 im1 x (hT.keep hb) hr1 hr2 hn (C1.c.keep hb) (hX.keep hb hs) hs hb.size (hr_nil x _) (by simp))
 have S2 := hidden (fun x (vn : Value) (es : List (Tr.En × Tr.Em)) (hb : Tr.Bt (fun k => k = s) w x) (h3 : Tr.B3 x s 85 vL vn (.bool true)) (hH : Tr.Hr x w.heap.size vn es) (he : es.length = 1) => sayS s w.heap.size r n vL vn es R2 I2 cR2 cI2 g2 cn2 gs2 im2 x (Tr.tb_keep hT hb (by omega)) hr1 hr2 hn (C2.bt hb (fun k e => by subst e; exact Nat.le_refl _)).c h3 hs hb.size hH (by omega))
 clear hT C1 C2 hX
 have HS := hidden hs
 clear hs
 go_enter Tryz.func48, Tryz.ntmps48
 go_upto_region 10 with fail
 have X := hidden (And.intro x0 (And.intro x1 (And.intro x2 x3)))
 generalize w.alloc (.cells #[.slice (some ⟨R1, 0, none⟩) r cR1, .slice (some ⟨I1, 0, none⟩) r cI1, .slice (some ⟨R2, 0, none⟩) r cR2, .slice (some ⟨I2, 0, none⟩) r cI2] 64) = w1 at *
 clear t1 t2 t3
 go_wp2_with (first | (go_at_call 48; refine (S1.out _ B0.out).mono ?_; rintro e wa ⟨rfl, vn, es, h1, h2, h3, h4⟩; have BA := hidden (bt_trans (S := fun k => k = s) (Tr.Bt.of B0.out) h4 (fun k _ hk => hk.elim id (fun e => by simp [Value.ownBlock] at e))); have ne : ¬ (w.heap.size = s ∨ (Value.slice none 0 0).ownBlock = some w.heap.size) := (fun e => e.elim (fun e => by have := HS.out; omega) (fun e => by simp [Value.ownBlock] at e)); have y2 := bt_cell X.out.2.2.1 h4 ne; have y3 := bt_cell X.out.2.2.2 h4 ne; have HA := hidden (And.intro h1 (And.intro h2 h3)); clear h1 h2 h3 h4 ne x0 x1 x2 x3 X S1 B0) | (go_at_call 48; refine (S2.out _ vn es BA.out HA.out.1 HA.out.2.1 (by have := HA.out.2.2; simpa using this)).mono ?_; rintro e wb ⟨rfl, vn2, es2, h1, h2, h3, h4⟩; have HB := hidden (And.intro h1 (And.intro h2 h3)); have BB := hidden (bt_trans BA.out h4 (fun k hk e => e.elim id (fun e => by have := HA.out.2.1.list.lt k e; omega))); clear h1 h2 h3 h4 y2 y3 S2))
 refine bodyPost_end (v := .tuple #[]) (by simp [results, Tryz.results48, go_sem]) rfl ⟨rfl, vn2, es2, HB.out.1, HB.out.2.1, by have := HB.out.2.2; have := HA.out.2.2; simp at this; omega, BB.out⟩
open Go.RowKit
theorem there_bt {S : Nat → Prop} {w w' : World} {b o n : Nat} (h : w.there b o n) (hb : Tr.Bt S w w') (hn : ¬ S b) : w'.there b o n := fun j hj => by
 have h1 := h j hj
 obtain ⟨v, hv⟩ := Option.isSome_iff_exists.1 h1.1
 have hl := World.block_lt_of_cell? w _ hv
 have hk := hb.block b hl hn
 exact ⟨by rw [World.cell?_of_block (a := ⟨b, o + j, none⟩) hk]; exact h1.1, by rw [World.frozen?_of_block (a := ⟨b, o + j, none⟩) hk]; exact h1.2⟩
def Sv (w1 : World) (s : Nat) (t : E4) (k : Nat) (x : World) : Prop := ∃ (Q : Option Addr) (d : Nat) (vn : Value) (es : List (Tr.En × Tr.Em)), Tr.B3 x s 85 (.slice Q 1 d) vn (.bool true) ∧ 1 ≤ d ∧ Tr.Lf x s Q 1 (fun _ => t) ∧ Tr.Hr x w1.heap.size vn es ∧ es.length = k ∧ Tr.Bt (fun k => k = s) w1 x
theorem Sv.keep {w1 x x' : World} {s k : Nat} {t : E4} (h : Sv w1 s t k x) (hb : Below x.heap.size x x') : Sv w1 s t k x' := by
 obtain ⟨Q, d, vn, es, h1, h2, h3, h4, h5, h6⟩ := h
 exact ⟨Q, d, vn, es, h1.keep hb h1.lt, h2, h3.keep (fun k hk => hb.block k (Nat.lt_trans hk h1.lt)), h4.stay hb, h5, h6.trans (Tr.Bt.of hb)⟩
theorem Sv.bt {w1 x : World} {s k : Nat} {t : E4} (h : Sv w1 s t k x) : Tr.Bt (fun k => k = s) w1 x := by
 obtain ⟨Q, d, vn, es, h1, h2, h3, h4, h5, h6⟩ := h
 exact h6
theorem Sv.say {w1 x : World} {s k : Nat} {t : E4} (h : Sv w1 s t k x) (hs : s < w1.heap.size) (hk : k ≤ 50) (l : List UInt8) {w0 : World} {e0 : Ending} {v : Value} (hP : PtR w0 (.returned v) x) :
  Calls Tryz.prog 134 #[.pointer (some ⟨s, 0, none⟩), .string (Tr.sb l), v] x fun e w' => e = .returned (.tuple #[]) ∧ Sv w1 s t (k + 1) w' := by
 obtain ⟨Q, d, vn, es, h1, h2, h3, h4, h5, h6⟩ := h
 obtain ⟨G, cap, ps, q, c, e1, p1, p2, p3⟩ := hP
 obtain rfl : v = .slice (some ⟨G, 0, none⟩) ps.length cap := by injection e1
 refine (absR (w0 := x) (e := e0) l cap h1 hs h6.size h4 (by omega) p1 p2).mono ?_
 rintro e w' ⟨rfl, vn2, es2, k1, k2, k3, k4⟩
 have hB : Tr.Bt (fun k => k = s) w1 w' := bt_trans h6 k4 (fun k hk e => e.elim id (fun e => by have := h4.list.lt k e; omega))
 have hbl : ∀ k, k < s → w'.heap[k]? = x.heap[k]? := fun k hk => k4.block k (Nat.lt_of_lt_of_le (Nat.lt_trans hk hs) h6.size) (fun e => e.elim (fun e => by omega) (fun e => by have := h4.list.lt k e; omega))
 exact ⟨rfl, Q, d, vn2, es2, k1, h2, h3.keep hbl, k2, by omega, hB⟩
theorem Sv.draw {w1 x : World} {s k : Nat} {t : E4} (h : Sv w1 s t k x) (hs : s < w1.heap.size) (ht0 : 0 < s) (hk : k ≤ 50) (hT : Tb x) (ot : t.ok) (hz : ¬ t.n % Sm.L = 0) (l : List UInt8) {z : E4} (hzt : lst t.n = z) :
  Calls Tryz.prog 135 #[.pointer (some ⟨s, 0, none⟩), .string (Tr.sb l)] x fun e w' => e = .returned (.tuple #[.agg #[.int .u64 z.x0, .int .u64 z.x1, .int .u64 z.x2, .int .u64 z.x3], .int .i64 0]) ∧ Tr.Bt (fun k => k = s) w1 w' := by
 obtain ⟨Q, d, vn, es, h1, h2, h3, h4, h5, h6⟩ := h
 refine (Tr.draw_any s w1.heap.size Q 1 d (fun _ => t) vn es l x hT (fun _ _ => ot) h1 h2 h3 hs h6.size h4 (by omega) (by omega)).mono ?_
 rintro e w' ⟨vn2, m, PL, d2, rfl, k1, k2, k3, k4, k5, k6⟩
 refine ⟨by rw [if_neg (by omega), if_neg (by omega), if_neg hz, hzt]; rfl, bt_trans h6 k6 (fun k hk e => e.elim id (fun e => by have := h4.list.lt k e; omega))⟩
theorem askR (s r n F f1 f2 cF : Nat) (m1 m2 : Value) (t z : E4) (hzt : lst t.n = z) (R1 I1 cR1 cI1 : Nat) (g1 cn1 : Nat → Nat) (gs1 : Nat → Nat → E4) (im1 : Nat → E4) (R2 I2 cR2 cI2 : Nat) (g2 cn2 : Nat → Nat) (gs2 : Nat → Nat → E4) (im2 : Nat → E4) (w : World) (hT : Tb w) (ht0 : 0 < s) (hr1 : 1 ≤ r) (hr2 : r ≤ 64) (hn : n ≤ 64) (C1 : Cb s w R1 I1 r n g1 cn1 gs1 im1) (C2 : Cb s w R2 I2 r n g2 cn2 gs2 im2) (hS : Fz w s t) (ot : t.ok) (hz : ¬ t.n % Sm.L = 0)
  (hF0 : w.cell? ⟨F, 0, none⟩ = some (.func (.func f1) #[m1] #[])) (hF1 : w.cell? ⟨F, 1, none⟩ = some (.func (.func f2) #[m2] #[])) (hFs : F ≠ s) (k1 : f1 = 28 ∨ f1 = 29) (k2 : f2 = 28 ∨ f2 = 29) (H1 : ∀ x, Tr.Bt (fun k => k = s) w x → Calls Tryz.prog f1 #[m1] x (FrR x r)) (H2 : ∀ x, Tr.Bt (fun k => k = s) w x → Calls Tryz.prog f2 #[m2] x (FrR x r)) :
  Calls Tryz.prog 30 #[.iface 45 (.pointer (some ⟨s, 0, none⟩)), .iface 64 (.agg #[.slice (some ⟨R1, 0, none⟩) r cR1, .slice (some ⟨I1, 0, none⟩) r cI1, .slice (some ⟨R2, 0, none⟩) r cR2, .slice (some ⟨I2, 0, none⟩) r cI2]), .slice (some ⟨F, 0, none⟩) 2 cF] w fun e w' => e = .returned (.tuple #[.agg #[.int .u64 z.x0, .int .u64 z.x1, .int .u64 z.x2, .int .u64 z.x3], .int .i64 0]) ∧ Tr.Bt (fun k => k = s) w w' := by
 have B0 := hidden (bl_alloc w (.cells #[.int .u64 0, .int .u64 0, .int .u64 0, .int .u64 0] 26))
 have hs := hS.lt
 have EE : Hid ((w.alloc (.cells #[.int .u64 0, .int .u64 0, .int .u64 0, .int .u64 0] 26)).there w.heap.size 0 4) := hidden (there_newM w [.int .u64 0, .int .u64 0, .int .u64 0, .int .u64 0] 26)
 have SZ : Hid ((w.alloc (.cells #[.int .u64 0, .int .u64 0, .int .u64 0, .int .u64 0] 26)).heap.size = w.heap.size + 1) := hidden (World.size_alloc _ _)
 obtain ⟨Q, d, q1, q2, q3⟩ := hS.keep B0.out
 have SP := hidden (sayP s r n (.slice Q 1 d) R1 I1 cR1 cI1 g1 cn1 gs1 im1 R2 I2 cR2 cI2 g2 cn2 gs2 im2 (w.alloc (.cells #[.int .u64 0, .int .u64 0, .int .u64 0, .int .u64 0] 26)) (hT.keep B0.out) ht0 hr1 hr2 hn (C1.keep B0.out) (C2.keep B0.out) q1)
 have QQ := hidden (And.intro q2 q3)
 have HT := hidden (hT.keep B0.out)
 have HS := hidden hs
 have HF := hidden (And.intro (cell_keep hF0 B0.out) (cell_keep hF1 B0.out))
 have mA := mt_Absorb s
 have nA := na_Absorb s
 have oz : z.ok := hzt ▸ lst_ok _
 have zn : z.n % Sm.L = t.n % Sm.L := by rw [← hzt, lst_n, emod_emod_L]
 have IZ := hidden (fun x (T : Tb x) => IsZero_any z x T oz)
 rw [show decide (z.n % Sm.L = 0) = false from decide_eq_false (by rw [zn]; exact hz)] at IZ
 have LS : Hid (∀ x, Tb x → Calls Tryz.prog 23 #[.agg #[.int .u64 z.x0, .int .u64 z.x1, .int .u64 z.x2, .int .u64 z.x3]] x fun e w' => e = .returned (.agg #[.int .u64 z.x0, .int .u64 z.x1, .int .u64 z.x2, .int .u64 z.x3]) ∧ Below x.heap.size x w') := hidden (fun x (T : Tb x) => fix (R := z) (Least_any z x T oz) (by rw [← hzt, lst_n']))
 have mD := mt_Draw s
 have HZ := hidden hz
 have H1 := hidden H1
 have H2 := hidden H2
 clear q1 q2 q3 hT C1 C2 hS hs hz hF0 hF1
 have WB : Hid (∀ x, Tr.Bt (fun k => k = s) (w.alloc (.cells #[.int .u64 0, .int .u64 0, .int .u64 0, .int .u64 0] 26)) x → Tr.Bt (fun k => k = s) w x) := hidden (fun x hx => bt_trans (Tr.Bt.of B0.out) hx (fun _ _ e => e))
 go_enter Tryz.func30, Tryz.ntmps30
 go_upto_region 1 with fail
 generalize (w.alloc (.cells #[.int .u64 0, .int .u64 0, .int .u64 0, .int .u64 0] 26)) = w1 at *
 go_upto_region 2 with (first | (go_at_call 48; refine SP.out.mono ?_; rintro e wa ⟨rfl, vn, es, h1, h2, h3, h4⟩; have S0 : Hid (Sv w1 s t 2 wa) := hidden ⟨Q, d, vn, es, h1, QQ.out.1, QQ.out.2.keep (fun k hk => h4.block k (by have := B0.out.size; have := HS.out; omega) (by omega)), h2, h3, h4⟩; clear h1 h2 h3 h4 SP))
 go_wp2_with fail
 go_loopw [17] (fun iv w' => ∃ i : Nat, i ≤ 2 ∧ iv = .int .i64 i ∧ Hid (Sv w1 s t (2 + i) w')) (fun i _ => 2 - (intOf i).toNat)
 case atStart => exact ⟨0, by omega, rfl, S0⟩
 case round =>
  obtain ⟨i, hi, rfl, hV⟩ := hrel
  by_cases hin : i < 2
  ·have i0 : (0 : Int) ≤ (i : Int) := by omega
   have i1 : (i : Int) < 2 := by omega
   have w9 : IntKind.i64.wrap ((i : Int) + 1) = (i : Int) + 1 := IntWalk.i64_in _ (by omega)
   obtain ⟨f, m, kf, hfm, HM⟩ : ∃ (f : Nat) (m : Value), (f = 28 ∨ f = 29) ∧ w1.cell? ⟨F, i, none⟩ = some (.func (.func f) #[m] #[]) ∧ Hid (∀ x, Tr.Bt (fun k => k = s) w x → Calls Tryz.prog f #[m] x (FrR x r)) := by
    obtain rfl | rfl : i = 0 ∨ i = 1 := by omega
    ·exact ⟨f1, m1, k1, HF.out.1, H1⟩
    ·exact ⟨f2, m2, k2, HF.out.2, H2⟩
   rcases kf with rfl | rfl
   ·have y0 := bt_cell hfm hV.out.bt (fun e => hFs e)
    clear hfm
    go_upto_region 5 with fail
    have VD := hidden (hV.out.keep (bl_drew wr))
    have TD := hidden (Tr.tb_keep HT.out VD.out.bt (by omega))
    go_region_with (first | (go_at_call 49; refine (encR D r r gg _ TA.out hr2 HO.out HR.out).mono ?_; rintro e wb ⟨rfl, q, hq⟩; have VB := hidden (VA.out.keep hq.1); have PT := hidden (hq.ptr hr2); clear hq HO HR TA VA) | (go_at_call 134; refine (VB.out.say (by have := SZ.out; have := HS.out; omega) (by omega) [102, 105, 114, 115, 116] (e0 := .returned (.bool true)) PT.out).mono ?_; rintro e wc ⟨rfl, hv⟩; have VC := hidden hv; clear hv PT) | (go_at_call 28; refine (HM.out _ (WB.out _ VD.out.bt)).mono ?_; rintro e wa2 ⟨D, gg, rfl, hR, hO, hb⟩; have VA := hidden (VD.out.keep hb); have TA := hidden (TD.out.keep hb); have HR := hidden hR; have HO := hidden hO; clear hR hO hb))
    all_goals
     go_wp2_with fail
     go_roundw
     case rel => exact ⟨i + 1, by omega, by go_num, VC⟩
     case measure => simp [intOf]; omega
   ·have y0 := bt_cell hfm hV.out.bt (fun e => hFs e)
    clear hfm
    go_upto_region 5 with fail
    have VD := hidden (hV.out.keep (bl_drew wr))
    have TD := hidden (Tr.tb_keep HT.out VD.out.bt (by omega))
    go_region_with (first | (go_at_call 49; refine (encR D r r gg _ TA.out hr2 HO.out HR.out).mono ?_; rintro e wb ⟨rfl, q, hq⟩; have VB := hidden (VA.out.keep hq.1); have PT := hidden (hq.ptr hr2); clear hq HO HR TA VA) | (go_at_call 134; refine (VB.out.say (by have := SZ.out; have := HS.out; omega) (by omega) [102, 105, 114, 115, 116] (e0 := .returned (.bool true)) PT.out).mono ?_; rintro e wc ⟨rfl, hv⟩; have VC := hidden hv; clear hv PT) | (go_at_call 29; refine (HM.out _ (WB.out _ VD.out.bt)).mono ?_; rintro e wa2 ⟨D, gg, rfl, hR, hO, hb⟩; have VA := hidden (VD.out.keep hb); have TA := hidden (TD.out.keep hb); have HR := hidden hR; have HO := hidden hO; clear hR hO hb))
    all_goals
     go_wp2_with fail
     go_roundw
     case rel => exact ⟨i + 1, by omega, by go_num, VC⟩
     case measure => simp [intOf]; omega
  ·obtain rfl : i = 2 := by omega
   have TR := hidden (Tr.tb_keep HT.out hV.out.bt (by omega))
   have SD := hidden (hV.out.draw (by have := SZ.out; have := HS.out; omega) ht0 (by omega) TR.out ot HZ.out [99] hzt)
   go_upto_region 10 with (first | (go_at_call 135; refine SD.out.mono ?_; rintro e wd ⟨rfl, hb⟩; have BD := hidden hb; clear hb SD))
   have B10 := hidden (bl_alloc wd (.cells #[.int .u64 z.x0, .int .u64 z.x1, .int .u64 z.x2, .int .u64 z.x3] 26))
   have TD := hidden ((Tr.tb_keep HT.out BD.out (by omega)).keep B10.out)
   have XD := hidden (Li.there_bl (there_bt EE.out BD.out (by have := HS.out; omega)) B10.out)
   have YD := range_newM wd [.int .u64 z.x0, .int .u64 z.x1, .int .u64 z.x2, .int .u64 z.x3] 26
   have y0 := YD 0 _ rfl; have y1 := YD 1 _ rfl; have y2 := YD 2 _ rfl; have y3 := YD 3 _ rfl
   simp only [Nat.zero_add] at y0 y1 y2 y3
   have BE := hidden (bt_trans BD.out (Tr.Bt.of (S := fun k => k = s) B10.out) (fun _ _ e => e))
   have NE : Hid (wd.heap.size ≠ w.heap.size) := hidden (by have := BD.out.size; have := SZ.out; omega)
   clear YD
   generalize wd.alloc (.cells #[.int .u64 z.x0, .int .u64 z.x1, .int .u64 z.x2, .int .u64 z.x3] 26) = we at *
   generalize wd.heap.size = N at *
   go_wp2_with (first | (go_at_call 8; refine (IZ.out _ TD.out).mono ?_; rintro e wf ⟨rfl, hb⟩; have TF := hidden (TD.out.keep hb); have z0 := cell_keep y0 hb; have z1 := cell_keep y1 hb; have z2 := cell_keep y2 hb; have z3 := cell_keep y3 hb; have XF := hidden (Li.there_bl XD.out hb); have BF := hidden (bt_trans BE.out (Tr.Bt.of (S := fun k => k = s) hb) (fun _ _ e => e)); clear hb y0 y1 y2 y3 TD XD BE) | (go_at_call 23; refine (LS.out _ TF.out).mono ?_; rintro e wg ⟨rfl, hb⟩; have XG := Li.there_bl XF.out hb; have BG := hidden (bt_trans BF.out (Tr.Bt.of (S := fun k => k = s) hb) (fun _ _ e => e)); obtain ⟨c0, d0⟩ := Option.isSome_iff_exists.1 (XG 0 (by omega)).1; obtain ⟨c1, d1⟩ := Option.isSome_iff_exists.1 (XG 1 (by omega)).1; obtain ⟨c2, d2⟩ := Option.isSome_iff_exists.1 (XG 2 (by omega)).1; obtain ⟨c3, d3⟩ := Option.isSome_iff_exists.1 (XG 3 (by omega)).1; have g0 := (XG 0 (by omega)).2; have g1 := (XG 1 (by omega)).2; have g2 := (XG 2 (by omega)).2; have g3 := (XG 3 (by omega)).2; simp only [Nat.zero_add] at d0 d1 d2 d3 g0 g1 g2 g3; clear hb z0 z1 z2 z3 TF XF BF XG))
   have BH := Tr.Bt.grown (WB.out _ BG.out) (gb_setCells w.heap.size [.int .u64 z.x0, .int .u64 z.x1, .int .u64 z.x2, .int .u64 z.x3] 0 wg) (fun k hk => by have := Option.some.inj hk; omega)
   refine bodyPost_ret (v := .tuple #[.agg #[.int .u64 z.x0, .int .u64 z.x1, .int .u64 z.x2, .int .u64 z.x3], .int .i64 0]) (by simp [results, Tryz.results30, go_sem, d0, d1, d2, d3]) rfl ⟨rfl, BH⟩
end Sg
end Go.Proofs.YtbbnjmjeeiglcaaGreatDoor
