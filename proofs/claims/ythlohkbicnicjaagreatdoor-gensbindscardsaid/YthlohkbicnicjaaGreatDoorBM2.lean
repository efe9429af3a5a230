import Derived.Test.YthlohkbicnicjaaGreatDoorBM1
namespace Go.Proofs.YthlohkbicnicjaaGreatDoor
open Go.RowKit
set_option linter.unusedVariables false
theorem rowIs_own {w : World} {b L B : Nat} {t : TypeId} {f : Nat → Value} (h : w.rowIs b t (L * 5) f) (hB : B ≤ b) (hL : L ≤ 64) : w.ownsRow B t 5 (.slice (some ⟨b, 0, none⟩) L L) L ((List.range (L * 5)).map f) := by
  obtain ⟨c, h1, h2, h3⟩ := h
  refine ⟨by simp, .inr ⟨b, L, c, rfl, hB, h1, Nat.le_refl _, by unfold maxLen; omega, h2, ?_⟩⟩
  rw [← h2, ← Array.length_toList, List.take_length]
  refine List.ext_getElem? (fun i => ?_)
  by_cases hi : i < L * 5
  · rw [Array.getElem?_toList, h3 i hi, List.getElem?_map, Array.length_toList, h2, List.getElem?_range hi]; rfl
  · rw [Array.getElem?_toList, Array.getElem?_eq_none (by omega), List.getElem?_eq_none (by rw [List.length_map, List.length_range, Array.length_toList]; omega)]
theorem rowIs_news {w : World} {b L : Nat} {t : TypeId} {f : Nat → Value} (h : w.rowIs b t L f) : ∀ j u, ((List.range L).map f)[j]? = some u → w.cell? ((⟨b, 0, none⟩ : Addr).add j) = some u := fun j u hu => by
  have hj : j < L := by have := (List.getElem?_eq_some_iff.1 hu).1; simpa using this
  rw [List.getElem?_map, List.getElem?_range hj] at hu
  rw [addr_add, h.cell hj]
  simpa using hu
theorem new5 (w : World) (f : E4) (P1 : Option Addr) (n1 c1 : Nat) : ∀ j u, ([.int .u64 f.x0, .int .u64 f.x1, .int .u64 f.x2, .int .u64 f.x3, .slice P1 n1 c1] : List Value)[j]? = some u → (w.alloc (.cells #[.int .u64 f.x0, .int .u64 f.x1, .int .u64 f.x2, .int .u64 f.x3, .slice P1 n1 c1] 63)).cell? ((⟨w.heap.size, 0, none⟩ : Addr).add j) = some u := fun j u hu => by
  rw [addr_add]
  have := range_newM w [.int .u64 f.x0, .int .u64 f.x1, .int .u64 f.x2, .int .u64 f.x3, .slice P1 n1 c1] 63 j u hu
  simpa using this
theorem own_keep5 {w1 w2 : World} {base n s : Nat} {e : TypeId} {v : Value} {xs : List Value} (h : w1.ownsRow base e s v n xs) (hb : Below w1.heap.size w1 w2) : w2.ownsRow base e s v n xs := h.kept (gbI hb none) (by cases v.ownBlock with | none => exact .inl rfl | some k => exact .inr (by simp))
theorem buildT (f : E4) (P1 : Option Addr) (n1 c1 : Nat) (w : World) : (Instr.buildSlice 59 1 #[(0, .agg #[.int .u64 f.x0, .int .u64 f.x1, .int .u64 f.x2, .int .u64 f.x3, .slice P1 n1 c1])]).run Tryz.prog w = .ok (.slice (some ⟨w.heap.size, 0, none⟩) 1 1) (w.alloc (.cells #[.int .u64 f.x0, .int .u64 f.x1, .int .u64 f.x2, .int .u64 f.x3, .slice P1 n1 c1] 63)) := by kernel_rfl
theorem wp_buildT {w : World} {o : Oper} {a : Act} {K : Act → World → Prop} {Q : Exit → Act → World → Prop} (x : Operand) (ho : o.op = .buildSlice 59 1 #[(0, x)]) (f : E4) (P1 : Option Addr) (n1 c1 : Nat) (hx : a.eval x = .agg #[.int .u64 f.x0, .int .u64 f.x1, .int .u64 f.x2, .int .u64 f.x3, .slice P1 n1 c1]) (h : ∀ (tb : Nat) (wq : World), tb = w.heap.size → Below w.heap.size w wq → (∀ j u, ([.int .u64 f.x0, .int .u64 f.x1, .int .u64 f.x2, .int .u64 f.x3, .slice P1 n1 c1] : List Value)[j]? = some u → wq.cell? ((⟨tb, 0, none⟩ : Addr).add j) = some u) → K (a.put o.dst (.slice (some ⟨tb, 0, none⟩) 1 1)) wq) : o.wp Tryz.prog a w K Q := by
  have hr := buildT f P1 n1 c1 w
  unfold Oper.wp execOp
  simp only [ho, Sem.run_bind, Sem.run_pure, Result.andThen_ok, List.map_toArray, List.map_cons, List.map_nil, hx, hr]
  exact h _ _ rfl (bl_alloc _ _) (new5 w f P1 n1 c1)
def cv6o : Array Oper := #[{ dst := some 53, op := Op.move (Operand.tmp 11), type := 59, pos := "commit.go:23", after := #[], guard := none },
  { dst := some 54, op := Op.move (Operand.tmp 13), type := 59, pos := "commit.go:23", after := #[], guard := none },
  { dst := some 55, op := Op.call { callee := Callee.builtin Builtin.append, args := #[Operand.tmp 53, Operand.tmp 54], argTypes := #[59, 59] }, type := 59, pos := "commit.go:23", after := #[{ on := 0, ground := Ground.data }, { on := 1, ground := Ground.data }], guard := none },
  { dst := some 56, op := Op.load 24 (Operand.tmp 7), type := 24, pos := "commit.go:23", after := #[], guard := none },
  { dst := some 57, op := Op.fieldAddr 30 (Operand.tmp 4) 1, type := 0, pos := "commit.go:23", after := #[], guard := none },
  { dst := some 58, op := Op.load 27 (Operand.tmp 57), type := 27, pos := "commit.go:23", after := #[{ on := 4, ground := Ground.data }], guard := none },
  { dst := some 59, op := Op.build 63 #[(0, Operand.tmp 56), (1, Operand.tmp 58)], type := 63, pos := "commit.go:23", after := #[{ on := 3, ground := Ground.data }, { on := 5, ground := Ground.data }], guard := none },
  { dst := some 60, op := Op.buildSlice 59 1 #[(0, Operand.tmp 59)], type := 59, pos := "commit.go:23", after := #[{ on := 6, ground := Ground.data }], guard := none },
  { dst := some 61, op := Op.call { callee := Callee.builtin Builtin.append, args := #[Operand.tmp 55, Operand.tmp 60], argTypes := #[59, 59] }, type := 59, pos := "commit.go:23", after := #[{ on := 2, ground := Ground.data }, { on := 7, ground := Ground.data }, { on := 2, ground := Ground.chain }], guard := none },
  { dst := some 15, op := Op.assign (Operand.tmp 61), type := 59, pos := "commit.go:23", after := #[{ on := 8, ground := Ground.data }, { on := 8, ground := Ground.chain }, { on := 0, ground := Ground.phase }, { on := 1, ground := Ground.phase }, { on := 2, ground := Ground.phase }, { on := 3, ground := Ground.phase }, { on := 4, ground := Ground.phase }, { on := 5, ground := Ground.phase }, { on := 6, ground := Ground.phase }, { on := 7, ground := Ground.phase }, { on := 8, ground := Ground.phase }], guard := none }]
set_option maxRecDepth 100000 in
set_option maxHeartbeats 16000000 in
theorem cv6 (Q : Exit → Act → World → Prop) (B T4 T7 La Lb tl tr n1 c1 : Nat) (P1 : Option Addr) (f : E4) (xsL : List Value) (fR : Nat → Value) (u0 u1 u2 u3 u5 u6 u8 u9 u10 u12 u14 u15 u16 u17 u18 u19 u20 u21 u22 u23 u24 u25 u26 u27 u28 u29 u30 u31 u32 u33 u34 u35 u36 u37 u38 u39 u40 u41 u42 u43 u44 u45 u46 u47 u48 u49 u50 u51 u52 u53 u54 u55 u56 u57 u58 u59 u60 u61 u62 u63 u64 u65 u66 u67 : Value) (W : World)
    (hBW : B ≤ W.heap.size) (hLa : La ≤ 20) (hLb : Lb ≤ 20) (l4 : T4 < B) (l7 : T7 < B) (cF0 : W.cell? ⟨T4, 1, none⟩ = some (.slice P1 n1 c1)) (cf0 : W.cell? ⟨T7, 0, none⟩ = some (.int .u64 f.x0)) (cf1 : W.cell? ⟨T7, 1, none⟩ = some (.int .u64 f.x1)) (cf2 : W.cell? ⟨T7, 2, none⟩ = some (.int .u64 f.x2)) (cf3 : W.cell? ⟨T7, 3, none⟩ = some (.int .u64 f.x3))
    (ol : W.ownsRow B 63 5 (.slice (some ⟨tl, 0, none⟩) La La) La xsL) (rr : W.rowIs tr 63 (Lb * 5) fR) (h1 : ∀ u ∈ ((List.range (Lb * 5)).map fR), u.oneCell' = true)
    (HQ : Hid (∀ (v1 v2 : Value) (tb : Nat) (wz : World), Below B W wz → wz.ownsRow B 63 5 v2 (La + Lb + 1) (xsL ++ ((List.range (Lb * 5)).map fR) ++ [.int .u64 f.x0, .int .u64 f.x1, .int .u64 f.x2, .int .u64 f.x3, .slice P1 n1 c1]) → Q .normal ⟨#[u0, u1, u2, u3, .pointer (some ⟨T4, 0, none⟩), u5, u6, .pointer (some ⟨T7, 0, none⟩), u8, u9, u10, .slice (some ⟨tl, 0, none⟩) La La, u12, .slice (some ⟨tr, 0, none⟩) Lb Lb, u14, v2, u16, u17, u18, u19, u20, u21, u22, u23, u24, u25, u26, u27, u28, u29, u30, u31, u32, u33, u34, u35, u36, u37, u38, u39, u40, u41, u42, u43, u44, u45, u46, u47, u48, u49, u50, u51, u52, .slice (some ⟨tl, 0, none⟩) La La, .slice (some ⟨tr, 0, none⟩) Lb Lb, v1, .agg #[.int .u64 f.x0, .int .u64 f.x1, .int .u64 f.x2, .int .u64 f.x3], .pointer (some ⟨T4, 1, none⟩), .agg #[.slice P1 n1 c1], .agg #[.int .u64 f.x0, .int .u64 f.x1, .int .u64 f.x2, .int .u64 f.x3, .slice P1 n1 c1], .slice (some ⟨tb, 0, none⟩) 1 1, v2, u62, u63, u64, u65, u66, u67], []⟩ wz)) : (Code.region 6 cv6o true).wp Tryz.prog Q ⟨#[u0, u1, u2, u3, .pointer (some ⟨T4, 0, none⟩), u5, u6, .pointer (some ⟨T7, 0, none⟩), u8, u9, u10, .slice (some ⟨tl, 0, none⟩) La La, u12, .slice (some ⟨tr, 0, none⟩) Lb Lb, u14, u15, u16, u17, u18, u19, u20, u21, u22, u23, u24, u25, u26, u27, u28, u29, u30, u31, u32, u33, u34, u35, u36, u37, u38, u39, u40, u41, u42, u43, u44, u45, u46, u47, u48, u49, u50, u51, u52, u53, u54, u55, u56, u57, u58, u59, u60, u61, u62, u63, u64, u65, u66, u67], []⟩ W := by
  obtain ⟨i0, hi, hz0, hz1, hz2⟩ := info_parts tinfoF
  have HI := hidden hi
  have HZ0 := hidden hz0
  have HZ1 := hidden hz1
  have HZ2 := hidden hz2
  have HU : Hid (Tryz.prog.underlying 59 = some (.slice 63)) := hidden (by kernel_rfl)
  have H1 := hidden h1
  have H5 : Hid (∀ u ∈ ([.int .u64 f.x0, .int .u64 f.x1, .int .u64 f.x2, .int .u64 f.x3, .slice P1 n1 c1] : List Value), u.oneCell' = true) := hidden (by simp [Value.oneCell'])
  have OL := hidden ol.drew
  have RR := hidden rr.drew
  clear hi hz0 hz1 hz2 h1 ol rr
  unfold cv6o
  refine wp_region_noPanic ?_
  refine wp_region_held_drew (S := fun x => Below B W x) (by kernel_rfl) (below_less (bl_drew W) hBW) (fun hH0 => ?_)
  refine wpAnyH_take (i := 0) (oi := { dst := some 53, op := Op.move (Operand.tmp 11), type := 59, pos := "commit.go:23", after := #[], guard := none }) (v := .slice (some ⟨tl, 0, none⟩) La La) rfl (by kernel_rfl) (by kernel_rfl) (by kernel_rfl) (fun _ _ _ h => h) (Or.inl ⟨by rfl, fun w0 hSw => ?_⟩) hH0 ?_
  · (clear hSw; go_simp)
  simp only [Act.put, List.setIfInBounds_toArray, List.set_cons_zero, List.set_cons_succ]
  refine wpAnyH_take (i := 1) (oi := { dst := some 54, op := Op.move (Operand.tmp 13), type := 59, pos := "commit.go:23", after := #[], guard := none }) (v := .slice (some ⟨tr, 0, none⟩) Lb Lb) rfl (by kernel_rfl) (by kernel_rfl) (by kernel_rfl) (fun _ _ _ h => h) (Or.inl ⟨by rfl, fun w0 hSw => ?_⟩) hH0 ?_
  · (clear hSw; go_simp)
  simp only [Act.put, List.setIfInBounds_toArray, List.set_cons_zero, List.set_cons_succ]
  refine wpAnyH_take (i := 3) (oi := { dst := some 56, op := Op.load 24 (Operand.tmp 7), type := 24, pos := "commit.go:23", after := #[], guard := none }) (v := .agg #[.int .u64 f.x0, .int .u64 f.x1, .int .u64 f.x2, .int .u64 f.x3]) rfl (by kernel_rfl) (by kernel_rfl) (by kernel_rfl) (fun _ _ _ h => h) (Or.inl ⟨by rfl, fun w0 hSw => ?_⟩) hH0 ?_
  · (have hS : Below B W w0 := hSw; have a0 := (hS.cell (p := ⟨T7, 0, none⟩) l7).trans cf0; have a1 := (hS.cell (p := ⟨T7, 1, none⟩) l7).trans cf1; have a2 := (hS.cell (p := ⟨T7, 2, none⟩) l7).trans cf2; have a3 := (hS.cell (p := ⟨T7, 3, none⟩) l7).trans cf3; clear hS hSw; go_simp)
  simp only [Act.put, List.setIfInBounds_toArray, List.set_cons_zero, List.set_cons_succ]
  refine wpAnyH_take (i := 4) (oi := { dst := some 57, op := Op.fieldAddr 30 (Operand.tmp 4) 1, type := 0, pos := "commit.go:23", after := #[], guard := none }) (v := .pointer (some ⟨T4, 1, none⟩)) rfl (by kernel_rfl) (by kernel_rfl) (by kernel_rfl) (fun _ _ _ h => h) (Or.inl ⟨by rfl, fun w0 hSw => ?_⟩) hH0 ?_
  · (clear hSw; go_simp)
  simp only [Act.put, List.setIfInBounds_toArray, List.set_cons_zero, List.set_cons_succ]
  refine wpAnyH_take (i := 5) (oi := { dst := some 58, op := Op.load 27 (Operand.tmp 57), type := 27, pos := "commit.go:23", after := #[{ on := 4, ground := Ground.data }], guard := none }) (v := .agg #[.slice P1 n1 c1]) rfl (by kernel_rfl) (by kernel_rfl) (by kernel_rfl) (fun _ _ _ h => h) (Or.inl ⟨by rfl, fun w0 hSw => ?_⟩) hH0 ?_
  · (have hS : Below B W w0 := hSw; have a0 := (hS.cell (p := ⟨T4, 1, none⟩) l4).trans cF0; clear hS hSw; go_simp)
  simp only [Act.put, List.setIfInBounds_toArray, List.set_cons_zero, List.set_cons_succ]
  refine wpAnyH_take (i := 6) (oi := { dst := some 59, op := Op.build 63 #[(0, Operand.tmp 56), (1, Operand.tmp 58)], type := 63, pos := "commit.go:23", after := #[{ on := 3, ground := Ground.data }, { on := 5, ground := Ground.data }], guard := none }) (v := .agg #[.int .u64 f.x0, .int .u64 f.x1, .int .u64 f.x2, .int .u64 f.x3, .slice P1 n1 c1]) rfl (by kernel_rfl) (by kernel_rfl) (by kernel_rfl) (fun _ _ _ h => h) (Or.inl ⟨by rfl, fun w0 hSw => ?_⟩) hH0 ?_
  · (clear hSw; go_simp)
  simp only [Act.put, List.setIfInBounds_toArray, List.set_cons_zero, List.set_cons_succ]
  refine wpAnyH_ready (rs := [2, 7]) (by kernel_rfl) (by simp) ?_
  refine AllReadyH.cons (o := { dst := some 55, op := Op.call { callee := Callee.builtin Builtin.append, args := #[Operand.tmp 53, Operand.tmp 54], argTypes := #[59, 59] }, type := 59, pos := "commit.go:23", after := #[{ on := 0, ground := Ground.data }, { on := 1, ground := Ground.data }], guard := none }) rfl (fun K hK => ?_) (AllReadyH.cons (o := { dst := some 60, op := Op.buildSlice 59 1 #[(0, Operand.tmp 59)], type := 59, pos := "commit.go:23", after := #[{ on := 6, ground := Ground.data }], guard := none }) rfl (fun K hK => ?_) AllReadyH.nil)
  · have HH := hidden hH0
    clear hH0
    refine wp_append_own _ (.tmp 53) (.tmp 54) 59 rfl B 63 i0 (.agg #[.int .u64 0, .int .u64 0, .int .u64 0, .int .u64 0, .slice none 0 0]) 5 56 HU.out HI.out HZ0.out HZ1.out HZ2.out rfl (by decide) (.slice (some ⟨tl, 0, none⟩) La La) La xsL rfl OL.out ⟨tr, 0, none⟩ Lb Lb ((List.range (Lb * 5)).map fR) rfl (by simp) (rowIs_news RR.out) H1.out (by unfold maxLen; omega) (by omega) (Nat.le_trans hBW HH.out.size) (fun v1 wn1 hO hG _ => ?_)
    have O1 := hidden (hO)
    have SN := hidden (below_trans HH.out (below_grown hG (Nat.le_trans hBW HH.out.size) (fun k hk => (OL.out.lt k hk).1)))
    clear HH OL RR hO hG
    simp only [Act.put, List.setIfInBounds_toArray, List.set_cons_zero, List.set_cons_succ]
    refine hK.out _ _ SN.out (fun hH1 => ?_)
    clear hK K SN
    refine wpAnyH_ready (rs := [7]) (by kernel_rfl) (by simp) ?_
    refine AllReadyH.cons (o := { dst := some 60, op := Op.buildSlice 59 1 #[(0, Operand.tmp 59)], type := 59, pos := "commit.go:23", after := #[{ on := 6, ground := Ground.data }], guard := none }) rfl (fun K hK => ?_) AllReadyH.nil
    have HH := hidden hH1
    clear hH1
    refine wp_buildT (.tmp 59) rfl f P1 n1 c1 rfl (fun tb wn2 htb hb hcb => ?_)
    replace O1 := hidden (own_keep5 O1.out hb)
    have CB := hidden (hcb)
    have SN := hidden (HH.out.trans (below_less hb (Nat.le_trans hBW HH.out.size)))
    clear HH htb hb hcb
    simp only [Act.put, List.setIfInBounds_toArray, List.set_cons_zero, List.set_cons_succ]
    refine hK.out _ _ SN.out (fun hH2 => ?_)
    clear hK K SN
    refine wpAnyH_ready (rs := [8]) (by kernel_rfl) (by simp) ?_
    refine AllReadyH.cons (o := { dst := some 61, op := Op.call { callee := Callee.builtin Builtin.append, args := #[Operand.tmp 55, Operand.tmp 60], argTypes := #[59, 59] }, type := 59, pos := "commit.go:23", after := #[{ on := 2, ground := Ground.data }, { on := 7, ground := Ground.data }, { on := 2, ground := Ground.chain }], guard := none }) rfl (fun K hK => ?_) AllReadyH.nil
    have HH := hidden hH2
    clear hH2
    refine wp_append_own _ (.tmp 55) (.tmp 60) 59 rfl B 63 i0 (.agg #[.int .u64 0, .int .u64 0, .int .u64 0, .int .u64 0, .slice none 0 0]) 5 56 HU.out HI.out HZ0.out HZ1.out HZ2.out rfl (by decide) v1 (La + Lb) (xsL ++ ((List.range (Lb * 5)).map fR)) rfl O1.out ⟨tb, 0, none⟩ 1 1 [.int .u64 f.x0, .int .u64 f.x1, .int .u64 f.x2, .int .u64 f.x3, .slice P1 n1 c1] rfl (by simp) CB.out (H5.out) (by unfold maxLen; omega) (by omega) (Nat.le_trans hBW HH.out.size) (fun v2 wn3 hO hG _ => ?_)
    have O2 := hidden (hO)
    have SN := hidden (below_trans HH.out (below_grown hG (Nat.le_trans hBW HH.out.size) (fun k hk => (O1.out.lt k hk).1)))
    clear HH O1 CB hO hG
    simp only [Act.put, List.setIfInBounds_toArray, List.set_cons_zero, List.set_cons_succ]
    refine hK.out _ _ SN.out (fun hH3 => ?_)
    clear hK K SN
    refine wpAnyH_take (i := 9) (oi := { dst := some 15, op := Op.assign (Operand.tmp 61), type := 59, pos := "commit.go:23", after := #[{ on := 8, ground := Ground.data }, { on := 8, ground := Ground.chain }, { on := 0, ground := Ground.phase }, { on := 1, ground := Ground.phase }, { on := 2, ground := Ground.phase }, { on := 3, ground := Ground.phase }, { on := 4, ground := Ground.phase }, { on := 5, ground := Ground.phase }, { on := 6, ground := Ground.phase }, { on := 7, ground := Ground.phase }, { on := 8, ground := Ground.phase }], guard := none }) (v := v2) rfl (by kernel_rfl) (by kernel_rfl) (by kernel_rfl) (fun _ _ _ h => h) (Or.inl ⟨by rfl, fun w0 hSw => ?_⟩) hH3 ?_
    · (clear hSw; go_simp)
    simp only [Act.put, List.setIfInBounds_toArray, List.set_cons_zero, List.set_cons_succ]
    have HH := hidden hH3
    have FQ := hidden (HQ.out v1 v2 tb _ HH.out O2.out)
    refine wpAnyH_done (by kernel_rfl) ?_ _
    refine NoPanic.normal ?_
    exact FQ.out
  · have HH := hidden hH0
    clear hH0
    refine wp_buildT (.tmp 59) rfl f P1 n1 c1 rfl (fun tb wn1 htb hb hcb => ?_)
    have NB := hidden ((fun e => by have := (OL.out.lt tl rfl).2; omega : tb ≠ tl))
    replace OL := hidden (own_keep5 OL.out hb)
    replace RR := hidden (row_keep RR.out hb)
    have CB := hidden (hcb)
    have SN := hidden (HH.out.trans (below_less hb (Nat.le_trans hBW HH.out.size)))
    clear HH htb hb hcb
    simp only [Act.put, List.setIfInBounds_toArray, List.set_cons_zero, List.set_cons_succ]
    refine hK.out _ _ SN.out (fun hH1 => ?_)
    clear hK K SN
    refine wpAnyH_ready (rs := [2]) (by kernel_rfl) (by simp) ?_
    refine AllReadyH.cons (o := { dst := some 55, op := Op.call { callee := Callee.builtin Builtin.append, args := #[Operand.tmp 53, Operand.tmp 54], argTypes := #[59, 59] }, type := 59, pos := "commit.go:23", after := #[{ on := 0, ground := Ground.data }, { on := 1, ground := Ground.data }], guard := none }) rfl (fun K hK => ?_) AllReadyH.nil
    have HH := hidden hH1
    clear hH1
    refine wp_append_own _ (.tmp 53) (.tmp 54) 59 rfl B 63 i0 (.agg #[.int .u64 0, .int .u64 0, .int .u64 0, .int .u64 0, .slice none 0 0]) 5 56 HU.out HI.out HZ0.out HZ1.out HZ2.out rfl (by decide) (.slice (some ⟨tl, 0, none⟩) La La) La xsL rfl OL.out ⟨tr, 0, none⟩ Lb Lb ((List.range (Lb * 5)).map fR) rfl (by simp) (rowIs_news RR.out) H1.out (by unfold maxLen; omega) (by omega) (Nat.le_trans hBW HH.out.size) (fun v1 wn2 hO hG _ => ?_)
    replace CB := hidden (fun j u hu => hG.cell (CB.out j u hu) (fun e => NB.out (by rw [addr_add] at e; exact Option.some.inj e)))
    have O1 := hidden (hO)
    have SN := hidden (below_trans HH.out (below_grown hG (Nat.le_trans hBW HH.out.size) (fun k hk => (OL.out.lt k hk).1)))
    clear HH OL RR hO hG
    simp only [Act.put, List.setIfInBounds_toArray, List.set_cons_zero, List.set_cons_succ]
    refine hK.out _ _ SN.out (fun hH2 => ?_)
    clear hK K SN
    refine wpAnyH_ready (rs := [8]) (by kernel_rfl) (by simp) ?_
    refine AllReadyH.cons (o := { dst := some 61, op := Op.call { callee := Callee.builtin Builtin.append, args := #[Operand.tmp 55, Operand.tmp 60], argTypes := #[59, 59] }, type := 59, pos := "commit.go:23", after := #[{ on := 2, ground := Ground.data }, { on := 7, ground := Ground.data }, { on := 2, ground := Ground.chain }], guard := none }) rfl (fun K hK => ?_) AllReadyH.nil
    have HH := hidden hH2
    clear hH2
    refine wp_append_own _ (.tmp 55) (.tmp 60) 59 rfl B 63 i0 (.agg #[.int .u64 0, .int .u64 0, .int .u64 0, .int .u64 0, .slice none 0 0]) 5 56 HU.out HI.out HZ0.out HZ1.out HZ2.out rfl (by decide) v1 (La + Lb) (xsL ++ ((List.range (Lb * 5)).map fR)) rfl O1.out ⟨tb, 0, none⟩ 1 1 [.int .u64 f.x0, .int .u64 f.x1, .int .u64 f.x2, .int .u64 f.x3, .slice P1 n1 c1] rfl (by simp) CB.out (H5.out) (by unfold maxLen; omega) (by omega) (Nat.le_trans hBW HH.out.size) (fun v2 wn3 hO hG _ => ?_)
    have O2 := hidden (hO)
    have SN := hidden (below_trans HH.out (below_grown hG (Nat.le_trans hBW HH.out.size) (fun k hk => (O1.out.lt k hk).1)))
    clear HH O1 CB hO hG
    simp only [Act.put, List.setIfInBounds_toArray, List.set_cons_zero, List.set_cons_succ]
    refine hK.out _ _ SN.out (fun hH3 => ?_)
    clear hK K SN
    refine wpAnyH_take (i := 9) (oi := { dst := some 15, op := Op.assign (Operand.tmp 61), type := 59, pos := "commit.go:23", after := #[{ on := 8, ground := Ground.data }, { on := 8, ground := Ground.chain }, { on := 0, ground := Ground.phase }, { on := 1, ground := Ground.phase }, { on := 2, ground := Ground.phase }, { on := 3, ground := Ground.phase }, { on := 4, ground := Ground.phase }, { on := 5, ground := Ground.phase }, { on := 6, ground := Ground.phase }, { on := 7, ground := Ground.phase }, { on := 8, ground := Ground.phase }], guard := none }) (v := v2) rfl (by kernel_rfl) (by kernel_rfl) (by kernel_rfl) (fun _ _ _ h => h) (Or.inl ⟨by rfl, fun w0 hSw => ?_⟩) hH3 ?_
    · (clear hSw; go_simp)
    simp only [Act.put, List.setIfInBounds_toArray, List.set_cons_zero, List.set_cons_succ]
    have HH := hidden hH3
    have FQ := hidden (HQ.out v1 v2 tb _ HH.out O2.out)
    refine wpAnyH_done (by kernel_rfl) ?_ _
    refine NoPanic.normal ?_
    exact FQ.out
set_option maxRecDepth 100000 in
set_option maxHeartbeats 8000000 in
theorem vectors_no (b0 b1 b2 g1 g2 n La Lb ca cb : Nat) (Pa Pb : Option Addr) (f : E4) (w : World) (h : n < La ∨ n < Lb) :
    Calls Tryz.prog 9 #[.agg #[.slice (some ⟨b0, 0, none⟩) 1 1, .slice (some ⟨b1, 0, none⟩) 2 2, .slice (some ⟨b2, 0, none⟩) 3 3, .slice (some ⟨g1, 0, none⟩) n n, .slice (some ⟨g2, 0, none⟩) n n], .slice Pa La ca, .slice Pb Lb cb, f.v] w fun e w' => e = .returned (.tuple #[.agg #[.slice none 0 0], .int .i64 2]) ∧ Below w.heap.size w w' := by
  unfold E4.v
  by_cases h1 : n < La
  · have i1 : (n : Int) < (La : Int) := by omega
    go_enter Tryz.func9, Tryz.ntmps9
    go_wp2_with fail
    refine bodyPost_ret (v := .tuple #[.agg #[.slice none 0 0], .int .i64 2]) (by simp [results, Tryz.results9, go_sem]) rfl ⟨rfl, ?_⟩
    first | exact (bl_trans (bl_trans (bl_trans (bl_alloc w _) (bl_alloc _ _)) (bl_alloc _ _)) (bl_alloc _ _)).setCell (by simp only; omega) _ | exact (bl_trans (bl_trans (bl_trans (bl_alloc w _) (bl_alloc _ _)) (bl_alloc _ _)) (bl_alloc _ _))
  · have h2 : n < Lb := by omega
    have i1 : ¬ (n : Int) < (La : Int) := by omega
    have i2 : (n : Int) < (Lb : Int) := by omega
    go_enter Tryz.func9, Tryz.ntmps9
    go_wp2_with fail
    refine bodyPost_ret (v := .tuple #[.agg #[.slice none 0 0], .int .i64 2]) (by simp [results, Tryz.results9, go_sem]) rfl ⟨rfl, ?_⟩
    first | exact (bl_trans (bl_trans (bl_trans (bl_alloc w _) (bl_alloc _ _)) (bl_alloc _ _)) (bl_alloc _ _)).setCell (by simp only; omega) _ | exact (bl_trans (bl_trans (bl_trans (bl_alloc w _) (bl_alloc _ _)) (bl_alloc _ _)) (bl_alloc _ _))
end Go.Proofs.YthlohkbicnicjaaGreatDoor
namespace Go.Proofs.YthlohkbicnicjaaGreatDoor
open Go.RowKit
set_option linter.unusedVariables false
theorem tvl_one (K : Nat → E4) (V : Nat → Value) (L : Nat) (hV : ∀ k, (V k).oneCell' = true) : ∀ u ∈ (List.range L).map (tvl K V), u.oneCell' = true := fun u hu => by
  obtain ⟨j, _, rfl⟩ := List.mem_map.1 hu
  unfold tvl
  repeat' split
  all_goals first | rfl | exact hV _
theorem tot_join (f : Nat → Int) (a : Nat) : ∀ b, tot f (a + b) = tot f a + tot (fun i => f (a + i)) b
  | 0 => by simp [tot]
  | b + 1 => by rw [show a + (b + 1) = a + b + 1 by omega, tot, tot_join f a b, tot]; omega
/-- three lists of terms, one behind the other -/
def kj (a b : Nat) (ka kb : Nat → E4) (f : E4) (q : Nat) : E4 := if q < a then ka q else if q < a + b then kb (q - a) else f
def xj (a b : Nat) (va vb : Nat → Nat → Int) (v : Nat → Int) (q : Nat) : Nat → Int := if q < a then va q else if q < a + b then vb (q - a) else v
def vj (a b : Nat) (va vb : Nat → Value) (v : Value) (q : Nat) : Value := if q < a then va q else if q < a + b then vb (q - a) else v
theorem tvl_congr {K K' : Nat → E4} {V V' : Nat → Value} {j j' : Nat} (h1 : j % 5 = j' % 5) (h2 : K (j / 5) = K' (j' / 5)) (h3 : V (j / 5) = V' (j' / 5)) : tvl K V j = tvl K' V' j' := by unfold tvl; rw [h1, h2, h3]
theorem rows_join (a b : Nat) (ka kb : Nat → E4) (f : E4) (va vb : Nat → Value) (v : Value) : (List.range (a * 5)).map (tvl ka va) ++ (List.range (b * 5)).map (tvl kb vb) ++ [.int .u64 f.x0, .int .u64 f.x1, .int .u64 f.x2, .int .u64 f.x3, v] = (List.range ((a + b + 1) * 5)).map (tvl (kj a b ka kb f) (vj a b va vb v)) := by
  refine List.ext_getElem? (fun j => ?_)
  by_cases hj : j < (a + b + 1) * 5
  · rw [List.getElem?_map, List.getElem?_range hj]
    by_cases h1 : j < a * 5
    · rw [List.getElem?_append_left (by simp; omega), List.getElem?_append_left (by simpa using h1), List.getElem?_map, List.getElem?_range h1]
      refine congrArg some (tvl_congr rfl ?_ ?_)
      · unfold kj; rw [if_pos (by omega)]
      · unfold vj; rw [if_pos (by omega)]
    · by_cases h2 : j < (a + b) * 5
      · rw [List.getElem?_append_left (by simp; omega), List.getElem?_append_right (by simp; omega), List.getElem?_map, List.length_map, List.length_range, List.getElem?_range (by omega)]
        refine congrArg some (tvl_congr (by omega) ?_ ?_)
        · unfold kj; rw [if_neg (by omega), if_pos (by omega)]; congr 1; omega
        · unfold vj; rw [if_neg (by omega), if_pos (by omega)]; congr 1; omega
      · rw [List.getElem?_append_right (by simp; omega)]
        simp only [List.length_append, List.length_map, List.length_range]
        have e0 : j = (a + b) * 5 ∨ j = (a + b) * 5 + 1 ∨ j = (a + b) * 5 + 2 ∨ j = (a + b) * 5 + 3 ∨ j = (a + b) * 5 + 4 := by omega
        have kf : kj a b ka kb f (a + b) = f := by unfold kj; rw [if_neg (by omega), if_neg (by omega)]
        have vf : vj a b va vb v (a + b) = v := by unfold vj; rw [if_neg (by omega), if_neg (by omega)]
        obtain rfl | rfl | rfl | rfl | rfl := e0
        · rw [show (a + b) * 5 - (a * 5 + b * 5) = 0 by omega, Option.map_some, tvl0, kf]; rfl
        · rw [show (a + b) * 5 + 1 - (a * 5 + b * 5) = 1 by omega, Option.map_some, tvl1, kf]; rfl
        · rw [show (a + b) * 5 + 2 - (a * 5 + b * 5) = 2 by omega, Option.map_some, tvl2, kf]; rfl
        · rw [show (a + b) * 5 + 3 - (a * 5 + b * 5) = 3 by omega, Option.map_some, tvl3, kf]; rfl
        · rw [show (a + b) * 5 + 4 - (a * 5 + b * 5) = 4 by omega, Option.map_some, tvl4, vf]; rfl
  · rw [List.getElem?_eq_none (by simp; omega), List.getElem?_eq_none (by simp; omega)]
theorem sum_join (a b : Nat) (ka kb : Nat → E4) (f : E4) (va vb : Nat → Nat → Int) (v : Nat → Int) (t : Nat) : tot (fun q => (kj a b ka kb f q).n * xj a b va vb v q t) (a + b + 1) = tot (fun q => (ka q).n * va q t) a + tot (fun q => (kb q).n * vb q t) b + f.n * v t := by
  rw [tot, tot_join]
  congr 1
  · congr 1
    · refine tot_congr _ (fun i hi => ?_)
      show (kj a b ka kb f i).n * xj a b va vb v i t = _
      unfold kj xj; rw [if_pos hi, if_pos hi]
    · refine tot_congr _ (fun i hi => ?_)
      show (kj a b ka kb f (a + i)).n * xj a b va vb v (a + i) t = _
      have q1 : kj a b ka kb f (a + i) = kb i := by unfold kj; rw [if_neg (by omega), if_pos (by omega), show a + i - a = i by omega]
      have q2 : xj a b va vb v (a + i) = vb i := by unfold xj; rw [if_neg (by omega), if_pos (by omega), show a + i - a = i by omega]
      rw [q1, q2]
  · unfold kj xj; rw [if_neg (by omega), if_neg (by omega), if_neg (by omega), if_neg (by omega)]
theorem own_tm {w : World} {B N g cap : Nat} {K : Nat → E4} {V : Nat → Value} {fs : Nat → Nat → Int} (h : w.ownsRow B 63 5 (.slice (some ⟨g, 0, none⟩) N cap) N ((List.range (N * 5)).map (tvl K V))) (ok : ∀ i, i < N → (K i).ok) (hp : ∀ i, i < N → ∃ (P : Option Addr) (n c : Nat), V i = .slice P n c ∧ Fr w (.agg #[.slice P n c]) (fs i)) : Tm w g 0 N K fs := by
  have c : ∀ j, j < N * 5 → w.cell? ⟨g, j, none⟩ = some (tvl K V j) := fun j hj => by rw [h.cellAt j hj, List.getElem?_map, List.getElem?_range hj]; rfl
  refine ⟨fun i hi => ?_, fun i hi => ?_, fun i hi => ?_, fun i hi => ?_, ok, fun i hi => ?_⟩
  · rw [Nat.zero_add, c _ (by omega), tvl0]
  · rw [Nat.zero_add, c _ (by omega), tvl1]
  · rw [Nat.zero_add, c _ (by omega), tvl2]
  · rw [Nat.zero_add, c _ (by omega), tvl3]
  · obtain ⟨P, n, cc, h1, h2⟩ := hp i hi
    exact ⟨P, n, cc, by rw [Nat.zero_add, c _ (by omega), tvl4, h1], h2⟩
theorem own_shape5 {w : World} {B N : Nat} {t : TypeId} {v : Value} {xs : List Value} (h : w.ownsRow B t 5 v N xs) (hN : 0 < N) : ∃ g cap, v = .slice (some ⟨g, 0, none⟩) N cap ∧ B ≤ g ∧ N ≤ cap := by
  rcases h.2 with ⟨_, h0⟩ | ⟨g, cap, cur, h1, hB, _, hnc, _⟩
  · omega
  · exact ⟨g, cap, h1, hB, hnc⟩
set_option maxRecDepth 100000 in
set_option maxHeartbeats 8000000 in
theorem vectors_any (b0 b1 b2 g1 g2 n La Lb ca cb : Nat) (Pa Pb : Option Addr) (ka kb : Nat → E4) (f : E4) (eG eH : Nat → Nat → Int) (e1 : Nat → Int) (PG PH : Nat → Option Addr) (nG cG nH cH : Nat → Nat) (w : World) (hn : n ≤ 20) (hLa : La ≤ n) (hLb : Lb ≤ n) (hT : Tb w) (hka : Lm w Pa La ka) (hkb : Lm w Pb Lb kb) (oka : ∀ i, i < La → (ka i).ok) (okb : ∀ i, i < Lb → (kb i).ok) (hf : f.ok)
    (hG : ∀ k, k < n → w.cell? ⟨g1, k, none⟩ = some (.slice (PG k) (nG k) (cG k)) ∧ Fr w (.agg #[.slice (PG k) (nG k) (cG k)]) (eG k)) (hH : ∀ k, k < n → w.cell? ⟨g2, k, none⟩ = some (.slice (PH k) (nH k) (cH k)) ∧ Fr w (.agg #[.slice (PH k) (nH k) (cH k)]) (eH k)) (hF : Fr w (.agg #[.slice (some ⟨b1, 0, none⟩) 2 2]) e1) :
    Calls Tryz.prog 9 #[.agg #[.slice (some ⟨b0, 0, none⟩) 1 1, .slice (some ⟨b1, 0, none⟩) 2 2, .slice (some ⟨b2, 0, none⟩) 3 3, .slice (some ⟨g1, 0, none⟩) n n, .slice (some ⟨g2, 0, none⟩) n n], .slice Pa La ca, .slice Pb Lb cb, f.v] w fun e w' => ∃ A m c : Nat, e = .returned (.tuple #[.agg #[.slice (some ⟨A, 0, none⟩) m c], .int .i64 0]) ∧ w.heap.size ≤ A ∧ Fl w' (.agg #[.slice (some ⟨A, 0, none⟩) m c]) (fun t => tot (fun q => (ka q).n * eG q t) La + tot (fun q => (kb q).n * eH q t) Lb + f.n * e1 t) ∧ Below w.heap.size w w' := by
  have BB : Below w.heap.size w (((w.alloc (.cells #[.slice (some ⟨b0, 0, none⟩) 1 1, .slice (some ⟨b1, 0, none⟩) 2 2, .slice (some ⟨b2, 0, none⟩) 3 3, .slice (some ⟨g1, 0, none⟩) n n, .slice (some ⟨g2, 0, none⟩) n n] 30)).alloc (.cells #[.int .u64 f.x0, .int .u64 f.x1, .int .u64 f.x2, .int .u64 f.x3] 24)).alloc (.cells #[.slice none 0 0] 27)) := bl_trans (bl_trans (bl_alloc w _) (bl_alloc _ _)) (bl_alloc _ _)
  have cF0 : (((w.alloc (.cells #[.slice (some ⟨b0, 0, none⟩) 1 1, .slice (some ⟨b1, 0, none⟩) 2 2, .slice (some ⟨b2, 0, none⟩) 3 3, .slice (some ⟨g1, 0, none⟩) n n, .slice (some ⟨g2, 0, none⟩) n n] 30)).alloc (.cells #[.int .u64 f.x0, .int .u64 f.x1, .int .u64 f.x2, .int .u64 f.x3] 24)).alloc (.cells #[.slice none 0 0] 27)).cell? ⟨w.heap.size, 1, none⟩ = some (.slice (some ⟨b1, 0, none⟩) 2 2) := by go_simp
  have cS3 : (((w.alloc (.cells #[.slice (some ⟨b0, 0, none⟩) 1 1, .slice (some ⟨b1, 0, none⟩) 2 2, .slice (some ⟨b2, 0, none⟩) 3 3, .slice (some ⟨g1, 0, none⟩) n n, .slice (some ⟨g2, 0, none⟩) n n] 30)).alloc (.cells #[.int .u64 f.x0, .int .u64 f.x1, .int .u64 f.x2, .int .u64 f.x3] 24)).alloc (.cells #[.slice none 0 0] 27)).cell? ⟨w.heap.size, 3, none⟩ = some (.slice (some ⟨g1, 0, none⟩) n n) := by go_simp
  have cS4 : (((w.alloc (.cells #[.slice (some ⟨b0, 0, none⟩) 1 1, .slice (some ⟨b1, 0, none⟩) 2 2, .slice (some ⟨b2, 0, none⟩) 3 3, .slice (some ⟨g1, 0, none⟩) n n, .slice (some ⟨g2, 0, none⟩) n n] 30)).alloc (.cells #[.int .u64 f.x0, .int .u64 f.x1, .int .u64 f.x2, .int .u64 f.x3] 24)).alloc (.cells #[.slice none 0 0] 27)).cell? ⟨w.heap.size, 4, none⟩ = some (.slice (some ⟨g2, 0, none⟩) n n) := by go_simp
  have cf0 : (((w.alloc (.cells #[.slice (some ⟨b0, 0, none⟩) 1 1, .slice (some ⟨b1, 0, none⟩) 2 2, .slice (some ⟨b2, 0, none⟩) 3 3, .slice (some ⟨g1, 0, none⟩) n n, .slice (some ⟨g2, 0, none⟩) n n] 30)).alloc (.cells #[.int .u64 f.x0, .int .u64 f.x1, .int .u64 f.x2, .int .u64 f.x3] 24)).alloc (.cells #[.slice none 0 0] 27)).cell? ⟨w.heap.size + 1, 0, none⟩ = some (.int .u64 f.x0) := by go_simp
  have cf1 : (((w.alloc (.cells #[.slice (some ⟨b0, 0, none⟩) 1 1, .slice (some ⟨b1, 0, none⟩) 2 2, .slice (some ⟨b2, 0, none⟩) 3 3, .slice (some ⟨g1, 0, none⟩) n n, .slice (some ⟨g2, 0, none⟩) n n] 30)).alloc (.cells #[.int .u64 f.x0, .int .u64 f.x1, .int .u64 f.x2, .int .u64 f.x3] 24)).alloc (.cells #[.slice none 0 0] 27)).cell? ⟨w.heap.size + 1, 1, none⟩ = some (.int .u64 f.x1) := by go_simp
  have cf2 : (((w.alloc (.cells #[.slice (some ⟨b0, 0, none⟩) 1 1, .slice (some ⟨b1, 0, none⟩) 2 2, .slice (some ⟨b2, 0, none⟩) 3 3, .slice (some ⟨g1, 0, none⟩) n n, .slice (some ⟨g2, 0, none⟩) n n] 30)).alloc (.cells #[.int .u64 f.x0, .int .u64 f.x1, .int .u64 f.x2, .int .u64 f.x3] 24)).alloc (.cells #[.slice none 0 0] 27)).cell? ⟨w.heap.size + 1, 2, none⟩ = some (.int .u64 f.x2) := by go_simp
  have cf3 : (((w.alloc (.cells #[.slice (some ⟨b0, 0, none⟩) 1 1, .slice (some ⟨b1, 0, none⟩) 2 2, .slice (some ⟨b2, 0, none⟩) 3 3, .slice (some ⟨g1, 0, none⟩) n n, .slice (some ⟨g2, 0, none⟩) n n] 30)).alloc (.cells #[.int .u64 f.x0, .int .u64 f.x1, .int .u64 f.x2, .int .u64 f.x3] 24)).alloc (.cells #[.slice none 0 0] 27)).cell? ⟨w.heap.size + 1, 3, none⟩ = some (.int .u64 f.x3) := by go_simp
  have c8 : (((w.alloc (.cells #[.slice (some ⟨b0, 0, none⟩) 1 1, .slice (some ⟨b1, 0, none⟩) 2 2, .slice (some ⟨b2, 0, none⟩) 3 3, .slice (some ⟨g1, 0, none⟩) n n, .slice (some ⟨g2, 0, none⟩) n n] 30)).alloc (.cells #[.int .u64 f.x0, .int .u64 f.x1, .int .u64 f.x2, .int .u64 f.x3] 24)).alloc (.cells #[.slice none 0 0] 27)).cell? ⟨w.heap.size + 1 + 1, 0, none⟩ = some (.slice none 0 0) := by go_simp
  have f8 : (((w.alloc (.cells #[.slice (some ⟨b0, 0, none⟩) 1 1, .slice (some ⟨b1, 0, none⟩) 2 2, .slice (some ⟨b2, 0, none⟩) 3 3, .slice (some ⟨g1, 0, none⟩) n n, .slice (some ⟨g2, 0, none⟩) n n] 30)).alloc (.cells #[.int .u64 f.x0, .int .u64 f.x1, .int .u64 f.x2, .int .u64 f.x3] 24)).alloc (.cells #[.slice none 0 0] 27)).frozen? ⟨w.heap.size + 1 + 1, 0, none⟩ = false := by go_simp
  have hsz : (((w.alloc (.cells #[.slice (some ⟨b0, 0, none⟩) 1 1, .slice (some ⟨b1, 0, none⟩) 2 2, .slice (some ⟨b2, 0, none⟩) 3 3, .slice (some ⟨g1, 0, none⟩) n n, .slice (some ⟨g2, 0, none⟩) n n] 30)).alloc (.cells #[.int .u64 f.x0, .int .u64 f.x1, .int .u64 f.x2, .int .u64 f.x3] 24)).alloc (.cells #[.slice none 0 0] 27)).heap.size = w.heap.size + 1 + 1 + 1 := by simp only [World.size_alloc]
  have i1 : ¬ (n : Int) < (La : Int) := by omega
  have i2 : ¬ (n : Int) < (Lb : Int) := by omega
  have i3 : (0 : Int) ≤ (La : Int) := by omega
  have i4 : (La : Int) ≤ (n : Int) := by omega
  have i5 : (0 : Int) ≤ (Lb : Int) := by omega
  have i6 : (Lb : Int) ≤ (n : Int) := by omega
  unfold E4.v
  go_enter Tryz.func9, Tryz.ntmps9
  go_upto_region 1 with fail
  generalize (((w.alloc (.cells #[.slice (some ⟨b0, 0, none⟩) 1 1, .slice (some ⟨b1, 0, none⟩) 2 2, .slice (some ⟨b2, 0, none⟩) 3 3, .slice (some ⟨g1, 0, none⟩) n n, .slice (some ⟨g2, 0, none⟩) n n] 30)).alloc (.cells #[.int .u64 f.x0, .int .u64 f.x1, .int .u64 f.x2, .int .u64 f.x3] 24)).alloc (.cells #[.slice none 0 0] 27)) = w3 at *
  have Z1 := hidden (fun (x : World) (hx : Below w3.heap.size w3 x) => zip_any Pa g1 La ca n ka PG nG cG x (by omega) (hka.keep (bl_trans BB hx)) (fun k hk => cell_keep (hG k (by omega)).1 (bl_trans BB hx)))
  have Z2 := hidden (fun (x : World) (hx : Below w3.heap.size w3 x) => zip_any Pb g2 Lb cb n kb PH nH cH x (by omega) (hkb.keep (bl_trans BB hx)) (fun k hk => cell_keep (hH k (by omega)).1 (bl_trans BB hx)))
  have B0 := hidden (Below.refl w3.heap.size w3)
  go_upto_region 6 with (first
    | (go_at_call 19; refine (Z1.out _ B0.out).mono ?_; rintro e wa ⟨tl, rfl, hl, rl, ba⟩; have cS4a := cell_keep cS4 ba; have RLH := hidden rl; have HL := hidden hl; have BA := hidden ba; clear hl rl ba Z1 B0)
    | (go_at_call 19; refine (Z2.out _ BA.out).mono ?_; rintro e wb ⟨tr, rfl, hr, rr, bb⟩; have RRH := hidden rr; have HR := hidden hr; have RL2 := hidden (row_keep RLH.out bb); have BW := hidden (bl_trans BA.out bb); clear hr rr bb Z2 RLH))
  have hl := HL.out
  have hr := HR.out
  have ol := rowIs_own RL2.out (B := w3.heap.size) hl (by omega)
  refine cv6 _ (w3.heap.size) (w.heap.size) (w.heap.size + 1) La Lb tl tr 2 2 (some ⟨b1, 0, none⟩) f _ _ _ _ _ _ _ _ _ _ _ _ _ _ _ _ _ _ _ _ _ _ _ _ _ _ _ _ _ _ _ _ _ _ _ _ _ _ _ _ _ _ _ _ _ _ _ _ _ _ _ _ _ _ _ _ _ _ _ _ _ _ _ _ _ _ wb BW.out.size (by omega) (by omega) (by omega) (by omega) (cell_keep cF0 BW.out) (cell_keep cf0 BW.out) (cell_keep cf1 BW.out) (cell_keep cf2 BW.out) (cell_keep cf3 BW.out) ol RRH.out (tvl_one _ _ _ (fun k => rfl)) (hidden ?_)
  intro v1 v2 tb wz hzB hO
  rw [rows_join] at hO
  obtain ⟨g, cap, rfl, hg, hcap⟩ := own_shape5 hO (by omega)
  have BZ : Below w3.heap.size w3 wz := below_trans BW.out hzB
  have BZ0 := bl_trans BB BZ
  have c8z := cell_keep c8 BZ
  have f8z := ((bcell BZ).2 _ 0 (by omega : w.heap.size + 1 + 1 < w3.heap.size)).trans f8
  have SM := hidden (fsum_any g 0 (La + Lb + 1) cap (kj La Lb ka kb f) (xj La Lb eG eH e1) wz (by omega) (by omega) hcap (hT.keep BZ0) (own_tm hO (fun i hi => by
      show (kj La Lb ka kb f i).ok
      unfold kj
      by_cases e1 : i < La
      · rw [if_pos e1]; exact oka i e1
      · rw [if_neg e1]
        by_cases e2 : i < La + Lb
        · rw [if_pos e2]; exact okb _ (by omega)
        · rw [if_neg e2]; exact hf) (fun i hi => by
      show ∃ (P : Option Addr) (n c : Nat), vj La Lb _ _ _ i = .slice P n c ∧ Fr wz _ (xj La Lb eG eH e1 i)
      unfold vj xj
      by_cases q1 : i < La
      · rw [if_pos q1, if_pos q1]; exact ⟨_, _, _, rfl, ((hG i (by omega)).2).keep BZ0⟩
      · rw [if_neg q1, if_neg q1]
        by_cases q2 : i < La + Lb
        · rw [if_pos q2, if_pos q2]; exact ⟨_, _, _, rfl, ((hH _ (by omega)).2).keep BZ0⟩
        · rw [if_neg q2, if_neg q2]; exact ⟨_, _, _, rfl, hF.keep BZ0⟩)))
  have HBZ := hidden BZ
  clear BZ BZ0 hO hzB hG hH hF hka hkb oka okb hf hT cF0 cS3 cS4 cS4a cf0 cf1 cf2 cf3 c8 f8 ol
  go_wp2_with (first | (go_at_call 20; refine SM.out.mono ?_; rintro e wc ⟨A, m, c, z1, z2, rfl, hA, hFl, hc⟩; have c8c := cell_keep c8z hc; have f8c := ((bcell hc).2 _ 0 (World.block_lt_of_cell? _ _ c8z)).trans f8z; have ga := bl_alloc2 wc (.cells #[.slice (some ⟨A, 0, none⟩) m c] 27) (.cells #[.int .i64 z1, .int .i64 z2] 65); have c8d := cell_keep c8c ga; have f8d := ((bcell ga).2 _ 0 (World.block_lt_of_cell? _ _ c8c)).trans f8c; have RS := hidden (And.intro hA (And.intro hFl hc)); clear hA hFl hc SM ga f8c))
  obtain ⟨hA, hFl, hc⟩ := RS.out
  have s1 := HBZ.out.size
  have s2 := hc.size
  have BF := bl_trans (bl_trans BB HBZ.out) hc
  have ga := bl_alloc2 wc (.cells #[.slice (some ⟨A, 0, none⟩) m c] 27) (.cells #[.int .i64 z1, .int .i64 z2] 65)
  have q8 : (((wc.alloc (.cells #[.slice (some ⟨A, 0, none⟩) m c] 27)).alloc (.cells #[.int .i64 z1, .int .i64 z2] 65)).setCell ⟨w.heap.size + 1 + 1, 0, none⟩ (.slice (some ⟨A, 0, none⟩) m c)).cell? ⟨w.heap.size + 1 + 1, 0, none⟩ = some (.slice (some ⟨A, 0, none⟩) m c) := World.cell?_setCell_same _ _ _ (cell_keep c8c ga)
  refine bodyPost_ret (v := .tuple #[.agg #[.slice (some ⟨A, 0, none⟩) m c], .int .i64 0]) (by simp [results, Tryz.results9, go_sem, q8]) rfl ⟨A, m, c, rfl, by omega, ((hFl.keep ga).keepG (w.heap.size + 1 + 1) (gb_set _ _ _ _) ?_).congr (fun t => by rw [sum_join]), (bl_trans BF ga).setCell (by simp only; omega) _⟩
  rintro P n c hP _ a rfl
  simp only [Value.agg.injEq, Array.mk.injEq, List.cons.injEq, Value.slice.injEq, Option.some.injEq, and_true] at hP
  obtain ⟨rfl, _⟩ := hP
  simp only
  omega
end Go.Proofs.YthlohkbicnicjaaGreatDoor
namespace Go.Proofs.YthlohkbicnicjaaGreatDoor
open Go.RowKit
set_option linter.unusedVariables false
/-- what stands in a place of a list, 0 behind its end -/
def atE (n : Nat) (g : Nat → E4) (i : Nat) : E4 := if i < n then g i else zero4
set_option maxRecDepth 100000 in
set_option maxHeartbeats 8000000 in
theorem lat_any (P : Option Addr) (n c : Nat) (g : Nat → E4) (i : Nat) (w : World) (hP : Lm w P n g) :
    Calls Tryz.prog 10 #[.slice P n c, .int .i64 i] w fun e w' => e = .returned (atE n g i).v ∧ Below w.heap.size w w' := by
  have B0 := hidden (bl_alloc w (.cells #[.int .u64 0, .int .u64 0, .int .u64 0, .int .u64 0] 24))
  have i0 : (0 : Int) ≤ (i : Int) := by omega
  unfold atE
  by_cases hi : i < n
  · rw [if_pos hi]
    obtain ⟨sb, so, h1, h2⟩ := hP.keep B0.out
    obtain rfl := h1 (by omega)
    have rx := h2 (by omega)
    have x0 := rx.c0 i hi; have x1 := rx.c1 i hi; have x2 := rx.c2 i hi; have x3 := rx.c3 i hi
    have i1 : (i : Int) < (n : Int) := by omega
    unfold E4.v
    generalize g i = z at *
    clear rx h1 h2 hP hi
    go_enter Tryz.func10, Tryz.ntmps10
    go_wp2_with fail
    refine bodyPost_ret (v := .agg #[.int .u64 z.x0, .int .u64 z.x1, .int .u64 z.x2, .int .u64 z.x3]) (by simp [results, Tryz.results10, go_sem]) rfl ⟨rfl, bl_alloc _ _⟩
  · rw [if_neg hi]
    have i1 : ¬ (i : Int) < (n : Int) := by omega
    have z : zero4.v = .agg #[.int .u64 0, .int .u64 0, .int .u64 0, .int .u64 0] := rfl
    rw [z]
    clear z hi hP
    go_enter Tryz.func10, Tryz.ntmps10
    go_wp2_with fail
    refine bodyPost_ret (v := .agg #[.int .u64 0, .int .u64 0, .int .u64 0, .int .u64 0]) (by simp [results, Tryz.results10, go_sem]) rfl ⟨rfl, B0.out⟩
theorem mt_TimesL (p : E4) (w : World) : (method 274 51 (.agg #[.int .u64 p.x0, .int .u64 p.x1, .int .u64 p.x2, .int .u64 p.x3]) "Times").run Tryz.prog w = .ok (117, .agg #[.int .u64 p.x0, .int .u64 p.x1, .int .u64 p.x2, .int .u64 p.x3]) w := by kernel_rfl
theorem mt_AddL (p : E4) (w : World) : (method 274 51 (.agg #[.int .u64 p.x0, .int .u64 p.x1, .int .u64 p.x2, .int .u64 p.x3]) "Add").run Tryz.prog w = .ok (114, .agg #[.int .u64 p.x0, .int .u64 p.x1, .int .u64 p.x2, .int .u64 p.x3]) w := by kernel_rfl
theorem i4_L : (Tryz.prog.info? 51).map (·.size) = some 4 := by kernel_rfl
theorem zv_L (w : World) : (zeroValue 51).run Tryz.prog w = .ok (.agg z4.toArray) w := by kernel_rfl
theorem ints_any (k : Int) (w : World) : Calls Tryz.prog 16 #[.int .u64 k] w fun e w' => e = .returned (.agg #[.int .u64 k, .int .u64 0, .int .u64 0, .int .u64 0]) ∧ Below w.heap.size w w' := by
  go_enter Tryz.func16, Tryz.ntmps16
  go_wp2_with fail
  refine bodyPost_ret (v := .agg #[.int .u64 k, .int .u64 0, .int .u64 0, .int .u64 0]) (by simp [results, Tryz.results16, go_sem]) rfl ⟨rfl, bl_alloc w _⟩
theorem l4_i (a : E4) : (Tryz.prog.info? 51).map (·.size) = some [Value.int .u64 a.x0, .int .u64 a.x1, .int .u64 a.x2, .int .u64 a.x3].length := by kernel_rfl
theorem c4_one (a : E4) : [Value.int .u64 a.x0, .int .u64 a.x1, .int .u64 a.x2, .int .u64 a.x3].toArray.all (·.oneCell') = true := by simp [Value.oneCell']
set_option maxRecDepth 100000 in
set_option maxHeartbeats 4000000 in
theorem lAdd_any (a b : E4) (ha : a.ok) (hb : b.ok) (w : World) (hT : Tb w) :
    Calls Tryz.prog 114 #[a.v, b.v] w fun e w' => e = .returned (lst (a.n + b.n)).v ∧ Below w.heap.size w w' := by
  have HT := hidden hT
  have RA := hidden (fun w T => fix (R := lst (a.n + b.n)) (Add_any a b w T ha hb) rfl)
  generalize lst (a.n + b.n) = z at *
  unfold E4.v at RA ⊢
  have M0 := (((Mw.start w).new [.int .u64 a.x0, .int .u64 a.x1, .int .u64 a.x2, .int .u64 a.x3] 51).new [.int .u64 b.x0, .int .u64 b.x1, .int .u64 b.x2, .int .u64 b.x3] 51).new [.int .u64 0, .int .u64 0, .int .u64 0, .int .u64 0] 51
  simp only [World.size_alloc] at M0
  have MM := hidden M0
  have I1 := hidden (l4_i z)
  have O2 := hidden (c4_one z)
  clear M0
  go_enter Tryz.func114, Tryz.ntmps114
  go_wp2_with (first | (go_at_call 93; refine (RA.out _ (HT.out.keep MM.out.bel)).mono ?_; rintro e wa ⟨rfl, ha⟩; replace MM := hidden (MM.out.keep ha); clear ha; have TH := hidden (MM.out.ther [.int .u64 z.x0, .int .u64 z.x1, .int .u64 z.x2, .int .u64 z.x3] (c := w.heap.size + 1 + 1) (o := [.int .u64 0, .int .u64 0, .int .u64 0, .int .u64 0]) (by simp) rfl); have M1 := MM.out.set (M := []) [.int .u64 z.x0, .int .u64 z.x1, .int .u64 z.x2, .int .u64 z.x3] (c := w.heap.size + 1 + 1) (o := [.int .u64 0, .int .u64 0, .int .u64 0, .int .u64 0]) (by simp) rfl (fun p hp => by cases hp); have LD := hidden (M1.var (c := w.heap.size + 1 + 1) (ds := [.int .u64 z.x0, .int .u64 z.x1, .int .u64 z.x2, .int .u64 z.x3]) (by simp) Tryz.underlying51 rfl I1.out); have BL := hidden M1.bel; clear M1) | refine wpList_store_mid rfl 51 _ _ rfl (w.heap.size + 1 + 1) 0 [.int .u64 z.x0, .int .u64 z.x1, .int .u64 z.x2, .int .u64 z.x3].toArray (by rfl) (by rfl) TH.out I1.out O2.out ?_)
  refine bodyPost_ret (v := .agg [.int .u64 z.x0, .int .u64 z.x1, .int .u64 z.x2, .int .u64 z.x3].toArray) (results_cellM Tryz.results114 _ _ _ _ _ (by rfl) LD.out) rfl ⟨rfl, BL.out⟩
set_option maxRecDepth 100000 in
set_option maxHeartbeats 4000000 in
theorem lTimes_any (a b : E4) (ha : a.ok) (hb : b.ok) (w : World) (hT : Tb w) :
    Calls Tryz.prog 117 #[a.v, b.v] w fun e w' => e = .returned (lst (a.n * b.n)).v ∧ Below w.heap.size w w' := by
  have HT := hidden hT
  have RA := hidden (fun w T => fix (R := lst (a.n * b.n)) (Mul_any a b w T ha hb) rfl)
  generalize lst (a.n * b.n) = z at *
  unfold E4.v at RA ⊢
  have M0 := (((Mw.start w).new [.int .u64 a.x0, .int .u64 a.x1, .int .u64 a.x2, .int .u64 a.x3] 51).new [.int .u64 b.x0, .int .u64 b.x1, .int .u64 b.x2, .int .u64 b.x3] 24).new [.int .u64 0, .int .u64 0, .int .u64 0, .int .u64 0] 51
  simp only [World.size_alloc] at M0
  have MM := hidden M0
  have I1 := hidden (l4_i z)
  have O2 := hidden (c4_one z)
  clear M0
  go_enter Tryz.func117, Tryz.ntmps117
  go_wp2_with (first | (go_at_call 106; refine (RA.out _ (HT.out.keep MM.out.bel)).mono ?_; rintro e wa ⟨rfl, ha⟩; replace MM := hidden (MM.out.keep ha); clear ha; have TH := hidden (MM.out.ther [.int .u64 z.x0, .int .u64 z.x1, .int .u64 z.x2, .int .u64 z.x3] (c := w.heap.size + 1 + 1) (o := [.int .u64 0, .int .u64 0, .int .u64 0, .int .u64 0]) (by simp) rfl); have M1 := MM.out.set (M := []) [.int .u64 z.x0, .int .u64 z.x1, .int .u64 z.x2, .int .u64 z.x3] (c := w.heap.size + 1 + 1) (o := [.int .u64 0, .int .u64 0, .int .u64 0, .int .u64 0]) (by simp) rfl (fun p hp => by cases hp); have LD := hidden (M1.var (c := w.heap.size + 1 + 1) (ds := [.int .u64 z.x0, .int .u64 z.x1, .int .u64 z.x2, .int .u64 z.x3]) (by simp) Tryz.underlying51 rfl I1.out); have BL := hidden M1.bel; clear M1) | refine wpList_store_mid rfl 51 _ _ rfl (w.heap.size + 1 + 1) 0 [.int .u64 z.x0, .int .u64 z.x1, .int .u64 z.x2, .int .u64 z.x3].toArray (by rfl) (by rfl) TH.out I1.out O2.out ?_)
  refine bodyPost_ret (v := .agg [.int .u64 z.x0, .int .u64 z.x1, .int .u64 z.x2, .int .u64 z.x3].toArray) (results_cellM Tryz.results117 _ _ _ _ _ (by rfl) LD.out) rfl ⟨rfl, BL.out⟩
def cl1o : Array Oper := #[{ dst := some 7, op := Op.fieldAddr 54 (Operand.tmp 3) 0, type := 0, pos := "commit.go:12", after := #[], guard := none },
  { dst := some 8, op := Op.load 51 (Operand.tmp 7), type := 51, pos := "commit.go:12", after := #[{ on := 0, ground := Ground.data }], guard := none },
  { dst := some 9, op := Op.makeInterface 51 (Operand.tmp 8), type := 20, pos := "commit.go:12", after := #[{ on := 1, ground := Ground.data }], guard := none },
  { dst := some 10, op := Op.load 24 (Operand.tmp 4), type := 24, pos := "commit.go:12", after := #[], guard := none },
  { dst := some 11, op := Op.call { callee := Callee.invoke (Operand.tmp 9) "Times", args := #[Operand.tmp 10], argTypes := #[24] }, type := 51, pos := "commit.go:12", after := #[{ on := 2, ground := Ground.data }, { on := 3, ground := Ground.data }], guard := none },
  { dst := some 12, op := Op.makeInterface 51 (Operand.tmp 11), type := 20, pos := "commit.go:12", after := #[{ on := 4, ground := Ground.data }], guard := none },
  { dst := some 13, op := Op.fieldAddr 54 (Operand.tmp 3) 1, type := 0, pos := "commit.go:12", after := #[], guard := none },
  { dst := some 14, op := Op.load 51 (Operand.tmp 13), type := 51, pos := "commit.go:12", after := #[{ on := 6, ground := Ground.data }], guard := none },
  { dst := some 15, op := Op.makeInterface 51 (Operand.tmp 14), type := 20, pos := "commit.go:12", after := #[{ on := 7, ground := Ground.data }], guard := none },
  { dst := some 16, op := Op.load 24 (Operand.tmp 5), type := 24, pos := "commit.go:12", after := #[], guard := none },
  { dst := some 17, op := Op.call { callee := Callee.invoke (Operand.tmp 15) "Times", args := #[Operand.tmp 16], argTypes := #[24] }, type := 51, pos := "commit.go:12", after := #[{ on := 8, ground := Ground.data }, { on := 9, ground := Ground.data }, { on := 4, ground := Ground.chain }], guard := none },
  { dst := some 18, op := Op.call { callee := Callee.invoke (Operand.tmp 12) "Add", args := #[Operand.tmp 17], argTypes := #[51] }, type := 51, pos := "commit.go:12", after := #[{ on := 5, ground := Ground.data }, { on := 10, ground := Ground.data }, { on := 10, ground := Ground.chain }], guard := none },
  { dst := none, op := Op.store 51 (Operand.tmp 6) (Operand.tmp 18), type := 0, pos := "commit.go:12", after := #[{ on := 11, ground := Ground.data }, { on := 11, ground := Ground.chain }, { on := 0, ground := Ground.phase }, { on := 1, ground := Ground.phase }, { on := 2, ground := Ground.phase }, { on := 3, ground := Ground.phase }, { on := 4, ground := Ground.phase }, { on := 5, ground := Ground.phase }, { on := 6, ground := Ground.phase }, { on := 7, ground := Ground.phase }, { on := 8, ground := Ground.phase }, { on := 9, ground := Ground.phase }, { on := 10, ground := Ground.phase }, { on := 11, ground := Ground.phase }], guard := none }]
set_option maxRecDepth 100000 in
set_option maxHeartbeats 16000000 in
theorem cl1 (Q : Exit → Act → World → Prop) (T3 T4 T5 T6 : Nat) (a b v f p q r : E4) (u0 u1 u2 u7 u8 u9 u10 u11 u12 u13 u14 u15 u16 u17 u18 : Value) (W : World)
    (ne3 : T3 ≠ T6) (ne4 : T4 ≠ T6) (ne5 : T5 ≠ T6) (th : W.there T6 0 4) (ca0 : W.cell? ⟨T3, 0, none⟩ = some (.int .u64 a.x0)) (ca1 : W.cell? ⟨T3, 1, none⟩ = some (.int .u64 a.x1)) (ca2 : W.cell? ⟨T3, 2, none⟩ = some (.int .u64 a.x2)) (ca3 : W.cell? ⟨T3, 3, none⟩ = some (.int .u64 a.x3)) (cb0 : W.cell? ⟨T3, 4, none⟩ = some (.int .u64 b.x0)) (cb1 : W.cell? ⟨T3, 5, none⟩ = some (.int .u64 b.x1)) (cb2 : W.cell? ⟨T3, 6, none⟩ = some (.int .u64 b.x2)) (cb3 : W.cell? ⟨T3, 7, none⟩ = some (.int .u64 b.x3)) (cv0 : W.cell? ⟨T4, 0, none⟩ = some (.int .u64 v.x0)) (cv1 : W.cell? ⟨T4, 1, none⟩ = some (.int .u64 v.x1)) (cv2 : W.cell? ⟨T4, 2, none⟩ = some (.int .u64 v.x2)) (cv3 : W.cell? ⟨T4, 3, none⟩ = some (.int .u64 v.x3)) (cf0 : W.cell? ⟨T5, 0, none⟩ = some (.int .u64 f.x0)) (cf1 : W.cell? ⟨T5, 1, none⟩ = some (.int .u64 f.x1)) (cf2 : W.cell? ⟨T5, 2, none⟩ = some (.int .u64 f.x2)) (cf3 : W.cell? ⟨T5, 3, none⟩ = some (.int .u64 f.x3))
    (mt : ∀ (p : E4) (w : World), (method 274 51 (.agg #[.int .u64 p.x0, .int .u64 p.x1, .int .u64 p.x2, .int .u64 p.x3]) "Times").run Tryz.prog w = .ok (117, .agg #[.int .u64 p.x0, .int .u64 p.x1, .int .u64 p.x2, .int .u64 p.x3]) w)
    (ma : ∀ (p : E4) (w : World), (method 274 51 (.agg #[.int .u64 p.x0, .int .u64 p.x1, .int .u64 p.x2, .int .u64 p.x3]) "Add").run Tryz.prog w = .ok (114, .agg #[.int .u64 p.x0, .int .u64 p.x1, .int .u64 p.x2, .int .u64 p.x3]) w)
    (C4 : Hid (∀ x, W.grownBy x (some T6) → Calls Tryz.prog 117 #[.agg #[.int .u64 a.x0, .int .u64 a.x1, .int .u64 a.x2, .int .u64 a.x3], .agg #[.int .u64 v.x0, .int .u64 v.x1, .int .u64 v.x2, .int .u64 v.x3]] x fun e w' => e = .returned (.agg #[.int .u64 p.x0, .int .u64 p.x1, .int .u64 p.x2, .int .u64 p.x3]) ∧ Below x.heap.size x w'))
    (C10 : Hid (∀ x, W.grownBy x (some T6) → Calls Tryz.prog 117 #[.agg #[.int .u64 b.x0, .int .u64 b.x1, .int .u64 b.x2, .int .u64 b.x3], .agg #[.int .u64 f.x0, .int .u64 f.x1, .int .u64 f.x2, .int .u64 f.x3]] x fun e w' => e = .returned (.agg #[.int .u64 q.x0, .int .u64 q.x1, .int .u64 q.x2, .int .u64 q.x3]) ∧ Below x.heap.size x w'))
    (C11 : Hid (∀ x, W.grownBy x (some T6) → Calls Tryz.prog 114 #[.agg #[.int .u64 p.x0, .int .u64 p.x1, .int .u64 p.x2, .int .u64 p.x3], .agg #[.int .u64 q.x0, .int .u64 q.x1, .int .u64 q.x2, .int .u64 q.x3]] x fun e w' => e = .returned (.agg #[.int .u64 r.x0, .int .u64 r.x1, .int .u64 r.x2, .int .u64 r.x3]) ∧ Below x.heap.size x w'))
    (HQ : Hid (∀ (wz : World), (∃ wy, W.grownBy wy (some T6) ∧ wy.there T6 0 4 ∧ wz = wy.setCells T6 0 [.int .u64 r.x0, .int .u64 r.x1, .int .u64 r.x2, .int .u64 r.x3]) → Q .normal ⟨#[u0, u1, u2, .pointer (some ⟨T3, 0, none⟩), .pointer (some ⟨T4, 0, none⟩), .pointer (some ⟨T5, 0, none⟩), .pointer (some ⟨T6, 0, none⟩), .pointer (some ⟨T3, 0, none⟩), .agg #[.int .u64 a.x0, .int .u64 a.x1, .int .u64 a.x2, .int .u64 a.x3], .iface 51 (.agg #[.int .u64 a.x0, .int .u64 a.x1, .int .u64 a.x2, .int .u64 a.x3]), .agg #[.int .u64 v.x0, .int .u64 v.x1, .int .u64 v.x2, .int .u64 v.x3], .agg #[.int .u64 p.x0, .int .u64 p.x1, .int .u64 p.x2, .int .u64 p.x3], .iface 51 (.agg #[.int .u64 p.x0, .int .u64 p.x1, .int .u64 p.x2, .int .u64 p.x3]), .pointer (some ⟨T3, 4, none⟩), .agg #[.int .u64 b.x0, .int .u64 b.x1, .int .u64 b.x2, .int .u64 b.x3], .iface 51 (.agg #[.int .u64 b.x0, .int .u64 b.x1, .int .u64 b.x2, .int .u64 b.x3]), .agg #[.int .u64 f.x0, .int .u64 f.x1, .int .u64 f.x2, .int .u64 f.x3], .agg #[.int .u64 q.x0, .int .u64 q.x1, .int .u64 q.x2, .int .u64 q.x3], .agg #[.int .u64 r.x0, .int .u64 r.x1, .int .u64 r.x2, .int .u64 r.x3]], []⟩ wz)) : (Code.region 1 cl1o true).wp Tryz.prog Q ⟨#[u0, u1, u2, .pointer (some ⟨T3, 0, none⟩), .pointer (some ⟨T4, 0, none⟩), .pointer (some ⟨T5, 0, none⟩), .pointer (some ⟨T6, 0, none⟩), u7, u8, u9, u10, u11, u12, u13, u14, u15, u16, u17, u18], []⟩ W := by
  have TH := hidden (there_keepM th (bl_drew W))
  clear th
  unfold cl1o
  refine wp_region_noPanic ?_
  refine wp_region_held_drew (S := fun x => W.grownBy x (some T6)) (by kernel_rfl) (gbI (bl_drew W) _) (fun hH0 => ?_)
  refine wpAnyH_take (i := 0) (oi := { dst := some 7, op := Op.fieldAddr 54 (Operand.tmp 3) 0, type := 0, pos := "commit.go:12", after := #[], guard := none }) (v := .pointer (some ⟨T3, 0, none⟩)) rfl (by kernel_rfl) (by kernel_rfl) (by kernel_rfl) (fun _ _ _ h => h) (Or.inl ⟨by rfl, fun w0 hSw => ?_⟩) hH0 ?_
  · (clear hSw; go_simp)
  simp only [Act.put, List.setIfInBounds_toArray, List.set_cons_zero, List.set_cons_succ]
  refine wpAnyH_take (i := 3) (oi := { dst := some 10, op := Op.load 24 (Operand.tmp 4), type := 24, pos := "commit.go:12", after := #[], guard := none }) (v := .agg #[.int .u64 v.x0, .int .u64 v.x1, .int .u64 v.x2, .int .u64 v.x3]) rfl (by kernel_rfl) (by kernel_rfl) (by kernel_rfl) (fun _ _ _ h => h) (Or.inl ⟨by rfl, fun w0 hSw => ?_⟩) hH0 ?_
  · (have hS : W.grownBy w0 (some T6) := hSw; have a0 := hS.cell cv0 (fun e => ne4 (Option.some.inj e)); have a1 := hS.cell cv1 (fun e => ne4 (Option.some.inj e)); have a2 := hS.cell cv2 (fun e => ne4 (Option.some.inj e)); have a3 := hS.cell cv3 (fun e => ne4 (Option.some.inj e)); clear hS hSw; go_simp)
  simp only [Act.put, List.setIfInBounds_toArray, List.set_cons_zero, List.set_cons_succ]
  refine wpAnyH_take (i := 6) (oi := { dst := some 13, op := Op.fieldAddr 54 (Operand.tmp 3) 1, type := 0, pos := "commit.go:12", after := #[], guard := none }) (v := .pointer (some ⟨T3, 4, none⟩)) rfl (by kernel_rfl) (by kernel_rfl) (by kernel_rfl) (fun _ _ _ h => h) (Or.inl ⟨by rfl, fun w0 hSw => ?_⟩) hH0 ?_
  · (clear hSw; go_simp)
  simp only [Act.put, List.setIfInBounds_toArray, List.set_cons_zero, List.set_cons_succ]
  refine wpAnyH_take (i := 9) (oi := { dst := some 16, op := Op.load 24 (Operand.tmp 5), type := 24, pos := "commit.go:12", after := #[], guard := none }) (v := .agg #[.int .u64 f.x0, .int .u64 f.x1, .int .u64 f.x2, .int .u64 f.x3]) rfl (by kernel_rfl) (by kernel_rfl) (by kernel_rfl) (fun _ _ _ h => h) (Or.inl ⟨by rfl, fun w0 hSw => ?_⟩) hH0 ?_
  · (have hS : W.grownBy w0 (some T6) := hSw; have a0 := hS.cell cf0 (fun e => ne5 (Option.some.inj e)); have a1 := hS.cell cf1 (fun e => ne5 (Option.some.inj e)); have a2 := hS.cell cf2 (fun e => ne5 (Option.some.inj e)); have a3 := hS.cell cf3 (fun e => ne5 (Option.some.inj e)); clear hS hSw; go_simp)
  simp only [Act.put, List.setIfInBounds_toArray, List.set_cons_zero, List.set_cons_succ]
  refine wpAnyH_take (i := 1) (oi := { dst := some 8, op := Op.load 51 (Operand.tmp 7), type := 51, pos := "commit.go:12", after := #[{ on := 0, ground := Ground.data }], guard := none }) (v := .agg #[.int .u64 a.x0, .int .u64 a.x1, .int .u64 a.x2, .int .u64 a.x3]) rfl (by kernel_rfl) (by kernel_rfl) (by kernel_rfl) (fun _ _ _ h => h) (Or.inl ⟨by rfl, fun w0 hSw => ?_⟩) hH0 ?_
  · (have hS : W.grownBy w0 (some T6) := hSw; have a0 := hS.cell ca0 (fun e => ne3 (Option.some.inj e)); have a1 := hS.cell ca1 (fun e => ne3 (Option.some.inj e)); have a2 := hS.cell ca2 (fun e => ne3 (Option.some.inj e)); have a3 := hS.cell ca3 (fun e => ne3 (Option.some.inj e)); clear hS hSw; go_simp)
  simp only [Act.put, List.setIfInBounds_toArray, List.set_cons_zero, List.set_cons_succ]
  refine wpAnyH_take (i := 7) (oi := { dst := some 14, op := Op.load 51 (Operand.tmp 13), type := 51, pos := "commit.go:12", after := #[{ on := 6, ground := Ground.data }], guard := none }) (v := .agg #[.int .u64 b.x0, .int .u64 b.x1, .int .u64 b.x2, .int .u64 b.x3]) rfl (by kernel_rfl) (by kernel_rfl) (by kernel_rfl) (fun _ _ _ h => h) (Or.inl ⟨by rfl, fun w0 hSw => ?_⟩) hH0 ?_
  · (have hS : W.grownBy w0 (some T6) := hSw; have a0 := hS.cell cb0 (fun e => ne3 (Option.some.inj e)); have a1 := hS.cell cb1 (fun e => ne3 (Option.some.inj e)); have a2 := hS.cell cb2 (fun e => ne3 (Option.some.inj e)); have a3 := hS.cell cb3 (fun e => ne3 (Option.some.inj e)); clear hS hSw; go_simp)
  simp only [Act.put, List.setIfInBounds_toArray, List.set_cons_zero, List.set_cons_succ]
  refine wpAnyH_take (i := 2) (oi := { dst := some 9, op := Op.makeInterface 51 (Operand.tmp 8), type := 20, pos := "commit.go:12", after := #[{ on := 1, ground := Ground.data }], guard := none }) (v := .iface 51 (.agg #[.int .u64 a.x0, .int .u64 a.x1, .int .u64 a.x2, .int .u64 a.x3])) rfl (by kernel_rfl) (by kernel_rfl) (by kernel_rfl) (fun _ _ _ h => h) (Or.inl ⟨by rfl, fun w0 hSw => ?_⟩) hH0 ?_
  · (clear hSw; go_simp)
  simp only [Act.put, List.setIfInBounds_toArray, List.set_cons_zero, List.set_cons_succ]
  refine wpAnyH_take (i := 8) (oi := { dst := some 15, op := Op.makeInterface 51 (Operand.tmp 14), type := 20, pos := "commit.go:12", after := #[{ on := 7, ground := Ground.data }], guard := none }) (v := .iface 51 (.agg #[.int .u64 b.x0, .int .u64 b.x1, .int .u64 b.x2, .int .u64 b.x3])) rfl (by kernel_rfl) (by kernel_rfl) (by kernel_rfl) (fun _ _ _ h => h) (Or.inl ⟨by rfl, fun w0 hSw => ?_⟩) hH0 ?_
  · (clear hSw; go_simp)
  simp only [Act.put, List.setIfInBounds_toArray, List.set_cons_zero, List.set_cons_succ]
  refine wpAnyH_ready (rs := [4]) (by kernel_rfl) (by simp) ?_
  refine AllReadyH.cons (o := { dst := some 11, op := Op.call { callee := Callee.invoke (Operand.tmp 9) "Times", args := #[Operand.tmp 10], argTypes := #[24] }, type := 51, pos := "commit.go:12", after := #[{ on := 2, ground := Ground.data }, { on := 3, ground := Ground.data }], guard := none }) rfl (fun K hK => ?_) AllReadyH.nil
  have HH := hidden hH0
  clear hH0
  go_simp
  refine (C4.out _ HH.out).mono ?_
  rintro e wn1 ⟨rfl, hb⟩
  have SN := hidden (HH.out.trans (gbI hb _))
  replace TH := hidden (there_keepM TH.out hb)
  clear HH C4 hb
  go_wp2_with fail
  refine hK.out _ _ SN.out (fun hH1 => ?_)
  clear hK K SN
  refine wpAnyH_take (i := 5) (oi := { dst := some 12, op := Op.makeInterface 51 (Operand.tmp 11), type := 20, pos := "commit.go:12", after := #[{ on := 4, ground := Ground.data }], guard := none }) (v := .iface 51 (.agg #[.int .u64 p.x0, .int .u64 p.x1, .int .u64 p.x2, .int .u64 p.x3])) rfl (by kernel_rfl) (by kernel_rfl) (by kernel_rfl) (fun _ _ _ h => h) (Or.inl ⟨by rfl, fun w0 hSw => ?_⟩) hH1 ?_
  · (clear hSw; go_simp)
  simp only [Act.put, List.setIfInBounds_toArray, List.set_cons_zero, List.set_cons_succ]
  refine wpAnyH_ready (rs := [10]) (by kernel_rfl) (by simp) ?_
  refine AllReadyH.cons (o := { dst := some 17, op := Op.call { callee := Callee.invoke (Operand.tmp 15) "Times", args := #[Operand.tmp 16], argTypes := #[24] }, type := 51, pos := "commit.go:12", after := #[{ on := 8, ground := Ground.data }, { on := 9, ground := Ground.data }, { on := 4, ground := Ground.chain }], guard := none }) rfl (fun K hK => ?_) AllReadyH.nil
  have HH := hidden hH1
  clear hH1
  go_simp
  refine (C10.out _ HH.out).mono ?_
  rintro e wn2 ⟨rfl, hb⟩
  have SN := hidden (HH.out.trans (gbI hb _))
  replace TH := hidden (there_keepM TH.out hb)
  clear HH C10 hb
  go_wp2_with fail
  refine hK.out _ _ SN.out (fun hH2 => ?_)
  clear hK K SN
  refine wpAnyH_ready (rs := [11]) (by kernel_rfl) (by simp) ?_
  refine AllReadyH.cons (o := { dst := some 18, op := Op.call { callee := Callee.invoke (Operand.tmp 12) "Add", args := #[Operand.tmp 17], argTypes := #[51] }, type := 51, pos := "commit.go:12", after := #[{ on := 5, ground := Ground.data }, { on := 10, ground := Ground.data }, { on := 10, ground := Ground.chain }], guard := none }) rfl (fun K hK => ?_) AllReadyH.nil
  have HH := hidden hH2
  clear hH2
  go_simp
  refine (C11.out _ HH.out).mono ?_
  rintro e wn3 ⟨rfl, hb⟩
  have SN := hidden (HH.out.trans (gbI hb _))
  replace TH := hidden (there_keepM TH.out hb)
  clear HH C11 hb
  go_wp2_with fail
  refine hK.out _ _ SN.out (fun hH3 => ?_)
  clear hK K SN
  refine wpAnyH_ready (rs := [12]) (by kernel_rfl) (by simp) ?_
  refine AllReadyH.cons (o := { dst := none, op := Op.store 51 (Operand.tmp 6) (Operand.tmp 18), type := 0, pos := "commit.go:12", after := #[{ on := 11, ground := Ground.data }, { on := 11, ground := Ground.chain }, { on := 0, ground := Ground.phase }, { on := 1, ground := Ground.phase }, { on := 2, ground := Ground.phase }, { on := 3, ground := Ground.phase }, { on := 4, ground := Ground.phase }, { on := 5, ground := Ground.phase }, { on := 6, ground := Ground.phase }, { on := 7, ground := Ground.phase }, { on := 8, ground := Ground.phase }, { on := 9, ground := Ground.phase }, { on := 10, ground := Ground.phase }, { on := 11, ground := Ground.phase }], guard := none }) rfl (fun K hK => ?_) AllReadyH.nil
  have HH := hidden hH3
  clear hH3
  refine wp_storeE 51 _ _ rfl T6 0 ([.int .u64 r.x0, .int .u64 r.x1, .int .u64 r.x2, .int .u64 r.x3]) (by rfl) (by rfl) TH.out i4_L (one4 _) rfl (fun wn4 hw => ?_)
  have SN := hidden (HH.out.trans (gb_setCells T6 [.int .u64 r.x0, .int .u64 r.x1, .int .u64 r.x2, .int .u64 r.x3] 0 _))
  have FE := hidden ((⟨_, HH.out, TH.out, hw⟩ : ∃ wy, W.grownBy wy (some T6) ∧ wy.there T6 0 4 ∧ _ = wy.setCells T6 0 [.int .u64 r.x0, .int .u64 r.x1, .int .u64 r.x2, .int .u64 r.x3]))
  rw [← hw] at SN
  clear HH hw
  refine hK.out _ _ SN.out (fun hH4 => ?_)
  clear hK K SN
  have HH := hidden hH4
  have FQ := hidden (HQ.out _ FE.out)
  refine wpAnyH_done (by kernel_rfl) ?_ _
  refine NoPanic.normal ?_
  exact FQ.out
set_option maxRecDepth 100000 in
set_option maxHeartbeats 8000000 in
theorem commitL_any (a b v f p q r : E4) (w : World) (hT : Tb w) (ha : a.ok) (hb : b.ok) (hv : v.ok) (hf : f.ok) (hp : p = lst (a.n * v.n)) (hq : q = lst (b.n * f.n)) (hr : r = lst (p.n + q.n)) :
    Calls Tryz.prog 17 #[.agg #[.int .u64 a.x0, .int .u64 a.x1, .int .u64 a.x2, .int .u64 a.x3, .int .u64 b.x0, .int .u64 b.x1, .int .u64 b.x2, .int .u64 b.x3, .int .u64 0, .int .u64 0, .int .u64 0, .int .u64 0, .slice none 0 0, .slice none 0 0], v.v, f.v] w fun e w' => e = .returned r.v ∧ Below w.heap.size w w' := by
  have BB : Below w.heap.size w ((((w.alloc (.cells #[.int .u64 a.x0, .int .u64 a.x1, .int .u64 a.x2, .int .u64 a.x3, .int .u64 b.x0, .int .u64 b.x1, .int .u64 b.x2, .int .u64 b.x3, .int .u64 0, .int .u64 0, .int .u64 0, .int .u64 0, .slice none 0 0, .slice none 0 0] 54)).alloc (.cells #[.int .u64 v.x0, .int .u64 v.x1, .int .u64 v.x2, .int .u64 v.x3] 24)).alloc (.cells #[.int .u64 f.x0, .int .u64 f.x1, .int .u64 f.x2, .int .u64 f.x3] 24)).alloc (.cells #[.int .u64 0, .int .u64 0, .int .u64 0, .int .u64 0] 51)) := bl_trans (bl_trans (bl_trans (bl_alloc w _) (bl_alloc _ _)) (bl_alloc _ _)) (bl_alloc _ _)
  have ca0 : ((((w.alloc (.cells #[.int .u64 a.x0, .int .u64 a.x1, .int .u64 a.x2, .int .u64 a.x3, .int .u64 b.x0, .int .u64 b.x1, .int .u64 b.x2, .int .u64 b.x3, .int .u64 0, .int .u64 0, .int .u64 0, .int .u64 0, .slice none 0 0, .slice none 0 0] 54)).alloc (.cells #[.int .u64 v.x0, .int .u64 v.x1, .int .u64 v.x2, .int .u64 v.x3] 24)).alloc (.cells #[.int .u64 f.x0, .int .u64 f.x1, .int .u64 f.x2, .int .u64 f.x3] 24)).alloc (.cells #[.int .u64 0, .int .u64 0, .int .u64 0, .int .u64 0] 51)).cell? ⟨w.heap.size, 0, none⟩ = some (.int .u64 a.x0) := by go_simp
  have ca1 : ((((w.alloc (.cells #[.int .u64 a.x0, .int .u64 a.x1, .int .u64 a.x2, .int .u64 a.x3, .int .u64 b.x0, .int .u64 b.x1, .int .u64 b.x2, .int .u64 b.x3, .int .u64 0, .int .u64 0, .int .u64 0, .int .u64 0, .slice none 0 0, .slice none 0 0] 54)).alloc (.cells #[.int .u64 v.x0, .int .u64 v.x1, .int .u64 v.x2, .int .u64 v.x3] 24)).alloc (.cells #[.int .u64 f.x0, .int .u64 f.x1, .int .u64 f.x2, .int .u64 f.x3] 24)).alloc (.cells #[.int .u64 0, .int .u64 0, .int .u64 0, .int .u64 0] 51)).cell? ⟨w.heap.size, 1, none⟩ = some (.int .u64 a.x1) := by go_simp
  have ca2 : ((((w.alloc (.cells #[.int .u64 a.x0, .int .u64 a.x1, .int .u64 a.x2, .int .u64 a.x3, .int .u64 b.x0, .int .u64 b.x1, .int .u64 b.x2, .int .u64 b.x3, .int .u64 0, .int .u64 0, .int .u64 0, .int .u64 0, .slice none 0 0, .slice none 0 0] 54)).alloc (.cells #[.int .u64 v.x0, .int .u64 v.x1, .int .u64 v.x2, .int .u64 v.x3] 24)).alloc (.cells #[.int .u64 f.x0, .int .u64 f.x1, .int .u64 f.x2, .int .u64 f.x3] 24)).alloc (.cells #[.int .u64 0, .int .u64 0, .int .u64 0, .int .u64 0] 51)).cell? ⟨w.heap.size, 2, none⟩ = some (.int .u64 a.x2) := by go_simp
  have ca3 : ((((w.alloc (.cells #[.int .u64 a.x0, .int .u64 a.x1, .int .u64 a.x2, .int .u64 a.x3, .int .u64 b.x0, .int .u64 b.x1, .int .u64 b.x2, .int .u64 b.x3, .int .u64 0, .int .u64 0, .int .u64 0, .int .u64 0, .slice none 0 0, .slice none 0 0] 54)).alloc (.cells #[.int .u64 v.x0, .int .u64 v.x1, .int .u64 v.x2, .int .u64 v.x3] 24)).alloc (.cells #[.int .u64 f.x0, .int .u64 f.x1, .int .u64 f.x2, .int .u64 f.x3] 24)).alloc (.cells #[.int .u64 0, .int .u64 0, .int .u64 0, .int .u64 0] 51)).cell? ⟨w.heap.size, 3, none⟩ = some (.int .u64 a.x3) := by go_simp
  have cb0 : ((((w.alloc (.cells #[.int .u64 a.x0, .int .u64 a.x1, .int .u64 a.x2, .int .u64 a.x3, .int .u64 b.x0, .int .u64 b.x1, .int .u64 b.x2, .int .u64 b.x3, .int .u64 0, .int .u64 0, .int .u64 0, .int .u64 0, .slice none 0 0, .slice none 0 0] 54)).alloc (.cells #[.int .u64 v.x0, .int .u64 v.x1, .int .u64 v.x2, .int .u64 v.x3] 24)).alloc (.cells #[.int .u64 f.x0, .int .u64 f.x1, .int .u64 f.x2, .int .u64 f.x3] 24)).alloc (.cells #[.int .u64 0, .int .u64 0, .int .u64 0, .int .u64 0] 51)).cell? ⟨w.heap.size, 4, none⟩ = some (.int .u64 b.x0) := by go_simp
  have cb1 : ((((w.alloc (.cells #[.int .u64 a.x0, .int .u64 a.x1, .int .u64 a.x2, .int .u64 a.x3, .int .u64 b.x0, .int .u64 b.x1, .int .u64 b.x2, .int .u64 b.x3, .int .u64 0, .int .u64 0, .int .u64 0, .int .u64 0, .slice none 0 0, .slice none 0 0] 54)).alloc (.cells #[.int .u64 v.x0, .int .u64 v.x1, .int .u64 v.x2, .int .u64 v.x3] 24)).alloc (.cells #[.int .u64 f.x0, .int .u64 f.x1, .int .u64 f.x2, .int .u64 f.x3] 24)).alloc (.cells #[.int .u64 0, .int .u64 0, .int .u64 0, .int .u64 0] 51)).cell? ⟨w.heap.size, 5, none⟩ = some (.int .u64 b.x1) := by go_simp
  have cb2 : ((((w.alloc (.cells #[.int .u64 a.x0, .int .u64 a.x1, .int .u64 a.x2, .int .u64 a.x3, .int .u64 b.x0, .int .u64 b.x1, .int .u64 b.x2, .int .u64 b.x3, .int .u64 0, .int .u64 0, .int .u64 0, .int .u64 0, .slice none 0 0, .slice none 0 0] 54)).alloc (.cells #[.int .u64 v.x0, .int .u64 v.x1, .int .u64 v.x2, .int .u64 v.x3] 24)).alloc (.cells #[.int .u64 f.x0, .int .u64 f.x1, .int .u64 f.x2, .int .u64 f.x3] 24)).alloc (.cells #[.int .u64 0, .int .u64 0, .int .u64 0, .int .u64 0] 51)).cell? ⟨w.heap.size, 6, none⟩ = some (.int .u64 b.x2) := by go_simp
  have cb3 : ((((w.alloc (.cells #[.int .u64 a.x0, .int .u64 a.x1, .int .u64 a.x2, .int .u64 a.x3, .int .u64 b.x0, .int .u64 b.x1, .int .u64 b.x2, .int .u64 b.x3, .int .u64 0, .int .u64 0, .int .u64 0, .int .u64 0, .slice none 0 0, .slice none 0 0] 54)).alloc (.cells #[.int .u64 v.x0, .int .u64 v.x1, .int .u64 v.x2, .int .u64 v.x3] 24)).alloc (.cells #[.int .u64 f.x0, .int .u64 f.x1, .int .u64 f.x2, .int .u64 f.x3] 24)).alloc (.cells #[.int .u64 0, .int .u64 0, .int .u64 0, .int .u64 0] 51)).cell? ⟨w.heap.size, 7, none⟩ = some (.int .u64 b.x3) := by go_simp
  have cv0 : ((((w.alloc (.cells #[.int .u64 a.x0, .int .u64 a.x1, .int .u64 a.x2, .int .u64 a.x3, .int .u64 b.x0, .int .u64 b.x1, .int .u64 b.x2, .int .u64 b.x3, .int .u64 0, .int .u64 0, .int .u64 0, .int .u64 0, .slice none 0 0, .slice none 0 0] 54)).alloc (.cells #[.int .u64 v.x0, .int .u64 v.x1, .int .u64 v.x2, .int .u64 v.x3] 24)).alloc (.cells #[.int .u64 f.x0, .int .u64 f.x1, .int .u64 f.x2, .int .u64 f.x3] 24)).alloc (.cells #[.int .u64 0, .int .u64 0, .int .u64 0, .int .u64 0] 51)).cell? ⟨w.heap.size + 1, 0, none⟩ = some (.int .u64 v.x0) := by go_simp
  have cv1 : ((((w.alloc (.cells #[.int .u64 a.x0, .int .u64 a.x1, .int .u64 a.x2, .int .u64 a.x3, .int .u64 b.x0, .int .u64 b.x1, .int .u64 b.x2, .int .u64 b.x3, .int .u64 0, .int .u64 0, .int .u64 0, .int .u64 0, .slice none 0 0, .slice none 0 0] 54)).alloc (.cells #[.int .u64 v.x0, .int .u64 v.x1, .int .u64 v.x2, .int .u64 v.x3] 24)).alloc (.cells #[.int .u64 f.x0, .int .u64 f.x1, .int .u64 f.x2, .int .u64 f.x3] 24)).alloc (.cells #[.int .u64 0, .int .u64 0, .int .u64 0, .int .u64 0] 51)).cell? ⟨w.heap.size + 1, 1, none⟩ = some (.int .u64 v.x1) := by go_simp
  have cv2 : ((((w.alloc (.cells #[.int .u64 a.x0, .int .u64 a.x1, .int .u64 a.x2, .int .u64 a.x3, .int .u64 b.x0, .int .u64 b.x1, .int .u64 b.x2, .int .u64 b.x3, .int .u64 0, .int .u64 0, .int .u64 0, .int .u64 0, .slice none 0 0, .slice none 0 0] 54)).alloc (.cells #[.int .u64 v.x0, .int .u64 v.x1, .int .u64 v.x2, .int .u64 v.x3] 24)).alloc (.cells #[.int .u64 f.x0, .int .u64 f.x1, .int .u64 f.x2, .int .u64 f.x3] 24)).alloc (.cells #[.int .u64 0, .int .u64 0, .int .u64 0, .int .u64 0] 51)).cell? ⟨w.heap.size + 1, 2, none⟩ = some (.int .u64 v.x2) := by go_simp
  have cv3 : ((((w.alloc (.cells #[.int .u64 a.x0, .int .u64 a.x1, .int .u64 a.x2, .int .u64 a.x3, .int .u64 b.x0, .int .u64 b.x1, .int .u64 b.x2, .int .u64 b.x3, .int .u64 0, .int .u64 0, .int .u64 0, .int .u64 0, .slice none 0 0, .slice none 0 0] 54)).alloc (.cells #[.int .u64 v.x0, .int .u64 v.x1, .int .u64 v.x2, .int .u64 v.x3] 24)).alloc (.cells #[.int .u64 f.x0, .int .u64 f.x1, .int .u64 f.x2, .int .u64 f.x3] 24)).alloc (.cells #[.int .u64 0, .int .u64 0, .int .u64 0, .int .u64 0] 51)).cell? ⟨w.heap.size + 1, 3, none⟩ = some (.int .u64 v.x3) := by go_simp
  have cf0 : ((((w.alloc (.cells #[.int .u64 a.x0, .int .u64 a.x1, .int .u64 a.x2, .int .u64 a.x3, .int .u64 b.x0, .int .u64 b.x1, .int .u64 b.x2, .int .u64 b.x3, .int .u64 0, .int .u64 0, .int .u64 0, .int .u64 0, .slice none 0 0, .slice none 0 0] 54)).alloc (.cells #[.int .u64 v.x0, .int .u64 v.x1, .int .u64 v.x2, .int .u64 v.x3] 24)).alloc (.cells #[.int .u64 f.x0, .int .u64 f.x1, .int .u64 f.x2, .int .u64 f.x3] 24)).alloc (.cells #[.int .u64 0, .int .u64 0, .int .u64 0, .int .u64 0] 51)).cell? ⟨w.heap.size + 1 + 1, 0, none⟩ = some (.int .u64 f.x0) := by go_simp
  have cf1 : ((((w.alloc (.cells #[.int .u64 a.x0, .int .u64 a.x1, .int .u64 a.x2, .int .u64 a.x3, .int .u64 b.x0, .int .u64 b.x1, .int .u64 b.x2, .int .u64 b.x3, .int .u64 0, .int .u64 0, .int .u64 0, .int .u64 0, .slice none 0 0, .slice none 0 0] 54)).alloc (.cells #[.int .u64 v.x0, .int .u64 v.x1, .int .u64 v.x2, .int .u64 v.x3] 24)).alloc (.cells #[.int .u64 f.x0, .int .u64 f.x1, .int .u64 f.x2, .int .u64 f.x3] 24)).alloc (.cells #[.int .u64 0, .int .u64 0, .int .u64 0, .int .u64 0] 51)).cell? ⟨w.heap.size + 1 + 1, 1, none⟩ = some (.int .u64 f.x1) := by go_simp
  have cf2 : ((((w.alloc (.cells #[.int .u64 a.x0, .int .u64 a.x1, .int .u64 a.x2, .int .u64 a.x3, .int .u64 b.x0, .int .u64 b.x1, .int .u64 b.x2, .int .u64 b.x3, .int .u64 0, .int .u64 0, .int .u64 0, .int .u64 0, .slice none 0 0, .slice none 0 0] 54)).alloc (.cells #[.int .u64 v.x0, .int .u64 v.x1, .int .u64 v.x2, .int .u64 v.x3] 24)).alloc (.cells #[.int .u64 f.x0, .int .u64 f.x1, .int .u64 f.x2, .int .u64 f.x3] 24)).alloc (.cells #[.int .u64 0, .int .u64 0, .int .u64 0, .int .u64 0] 51)).cell? ⟨w.heap.size + 1 + 1, 2, none⟩ = some (.int .u64 f.x2) := by go_simp
  have cf3 : ((((w.alloc (.cells #[.int .u64 a.x0, .int .u64 a.x1, .int .u64 a.x2, .int .u64 a.x3, .int .u64 b.x0, .int .u64 b.x1, .int .u64 b.x2, .int .u64 b.x3, .int .u64 0, .int .u64 0, .int .u64 0, .int .u64 0, .slice none 0 0, .slice none 0 0] 54)).alloc (.cells #[.int .u64 v.x0, .int .u64 v.x1, .int .u64 v.x2, .int .u64 v.x3] 24)).alloc (.cells #[.int .u64 f.x0, .int .u64 f.x1, .int .u64 f.x2, .int .u64 f.x3] 24)).alloc (.cells #[.int .u64 0, .int .u64 0, .int .u64 0, .int .u64 0] 51)).cell? ⟨w.heap.size + 1 + 1, 3, none⟩ = some (.int .u64 f.x3) := by go_simp
  have th : ((((w.alloc (.cells #[.int .u64 a.x0, .int .u64 a.x1, .int .u64 a.x2, .int .u64 a.x3, .int .u64 b.x0, .int .u64 b.x1, .int .u64 b.x2, .int .u64 b.x3, .int .u64 0, .int .u64 0, .int .u64 0, .int .u64 0, .slice none 0 0, .slice none 0 0] 54)).alloc (.cells #[.int .u64 v.x0, .int .u64 v.x1, .int .u64 v.x2, .int .u64 v.x3] 24)).alloc (.cells #[.int .u64 f.x0, .int .u64 f.x1, .int .u64 f.x2, .int .u64 f.x3] 24)).alloc (.cells #[.int .u64 0, .int .u64 0, .int .u64 0, .int .u64 0] 51)).there (w.heap.size + 1 + 1 + 1) 0 4 := there_newM (((w.alloc (.cells #[.int .u64 a.x0, .int .u64 a.x1, .int .u64 a.x2, .int .u64 a.x3, .int .u64 b.x0, .int .u64 b.x1, .int .u64 b.x2, .int .u64 b.x3, .int .u64 0, .int .u64 0, .int .u64 0, .int .u64 0, .slice none 0 0, .slice none 0 0] 54)).alloc (.cells #[.int .u64 v.x0, .int .u64 v.x1, .int .u64 v.x2, .int .u64 v.x3] 24)).alloc (.cells #[.int .u64 f.x0, .int .u64 f.x1, .int .u64 f.x2, .int .u64 f.x3] 24)) z4 51 |> fun h => by rw [show (((w.alloc (.cells #[.int .u64 a.x0, .int .u64 a.x1, .int .u64 a.x2, .int .u64 a.x3, .int .u64 b.x0, .int .u64 b.x1, .int .u64 b.x2, .int .u64 b.x3, .int .u64 0, .int .u64 0, .int .u64 0, .int .u64 0, .slice none 0 0, .slice none 0 0] 54)).alloc (.cells #[.int .u64 v.x0, .int .u64 v.x1, .int .u64 v.x2, .int .u64 v.x3] 24)).alloc (.cells #[.int .u64 f.x0, .int .u64 f.x1, .int .u64 f.x2, .int .u64 f.x3] 24)).heap.size = w.heap.size + 1 + 1 + 1 by simp only [World.size_alloc]] at h; exact h
  have hsz : ((((w.alloc (.cells #[.int .u64 a.x0, .int .u64 a.x1, .int .u64 a.x2, .int .u64 a.x3, .int .u64 b.x0, .int .u64 b.x1, .int .u64 b.x2, .int .u64 b.x3, .int .u64 0, .int .u64 0, .int .u64 0, .int .u64 0, .slice none 0 0, .slice none 0 0] 54)).alloc (.cells #[.int .u64 v.x0, .int .u64 v.x1, .int .u64 v.x2, .int .u64 v.x3] 24)).alloc (.cells #[.int .u64 f.x0, .int .u64 f.x1, .int .u64 f.x2, .int .u64 f.x3] 24)).alloc (.cells #[.int .u64 0, .int .u64 0, .int .u64 0, .int .u64 0] 51)).heap.size = w.heap.size + 1 + 1 + 1 + 1 := by simp only [World.size_alloc]
  unfold E4.v
  go_enter Tryz.func17, Tryz.ntmps17
  go_upto_region 1 with fail
  generalize ((((w.alloc (.cells #[.int .u64 a.x0, .int .u64 a.x1, .int .u64 a.x2, .int .u64 a.x3, .int .u64 b.x0, .int .u64 b.x1, .int .u64 b.x2, .int .u64 b.x3, .int .u64 0, .int .u64 0, .int .u64 0, .int .u64 0, .slice none 0 0, .slice none 0 0] 54)).alloc (.cells #[.int .u64 v.x0, .int .u64 v.x1, .int .u64 v.x2, .int .u64 v.x3] 24)).alloc (.cells #[.int .u64 f.x0, .int .u64 f.x1, .int .u64 f.x2, .int .u64 f.x3] 24)).alloc (.cells #[.int .u64 0, .int .u64 0, .int .u64 0, .int .u64 0] 51)) = w1 at *
  have AL : ∀ x, w1.grownBy x (some (w.heap.size + 1 + 1 + 1)) → Below w.heap.size w x := fun x hx => BB.grown hx BB.size (fun j hj => by obtain rfl := Option.some.inj hj; omega)
  have C4 := hidden (fun x (hx : w1.grownBy x (some (w.heap.size + 1 + 1 + 1))) => lTimes_any a v ha hv x (hT.keep (AL x hx)))
  have C10 := hidden (fun x (hx : w1.grownBy x (some (w.heap.size + 1 + 1 + 1))) => lTimes_any b f hb hf x (hT.keep (AL x hx)))
  have C11 := hidden (fun x (hx : w1.grownBy x (some (w.heap.size + 1 + 1 + 1))) => lAdd_any p q (hp ▸ lst_ok _) (hq ▸ lst_ok _) x (hT.keep (AL x hx)))
  rw [← hp] at C4
  rw [← hq] at C10
  rw [← hr] at C11
  have AH := hidden AL
  clear AL hT hp hq hr
  refine cl1 _ (w.heap.size) (w.heap.size + 1) (w.heap.size + 1 + 1) (w.heap.size + 1 + 1 + 1) a b v f p q r _ _ _ _ _ _ _ _ _ _ _ _ _ _ _ w1 (by omega) (by omega) (by omega) th ca0 ca1 ca2 ca3 cb0 cb1 cb2 cb3 cv0 cv1 cv2 cv3 cf0 cf1 cf2 cf3 mt_TimesL mt_AddL C4 C10 C11 (hidden ?_)
  intro wz hz
  obtain ⟨wy, hg, hth, rfl⟩ := hz
  have LD := run_loadVar_mid (P := Tryz.prog) _ (w.heap.size + 1 + 1 + 1) 0 51 [.int .u64 r.x0, .int .u64 r.x1, .int .u64 r.x2, .int .u64 r.x3] _ (World.rangeAt_setCells_same wy (w.heap.size + 1 + 1 + 1) 0 [.int .u64 r.x0, .int .u64 r.x1, .int .u64 r.x2, .int .u64 r.x3] hth) Tryz.underlying51 rfl (l4_i r)
  clear C4 C10 C11 ca0 ca1 ca2 ca3 cb0 cb1 cb2 cb3 cv0 cv1 cv2 cv3 cf0 cf1 cf2 cf3
  go_wp2_with fail
  exact bodyPost_ret (v := .agg [.int .u64 r.x0, .int .u64 r.x1, .int .u64 r.x2, .int .u64 r.x3].toArray) (results_cellM Tryz.results17 _ _ _ _ _ (by rfl) LD) rfl ⟨rfl, (AH.out wy hg).grown (gb_setCells _ _ 0 _) (AH.out wy hg).size (fun j hj => by obtain rfl := Option.some.inj hj; omega)⟩
def al2o : Array Oper := #[{ dst := some 8, op := Op.load 54 (Operand.tmp 1), type := 54, pos := "outright.go:15", after := #[], guard := none },
  { dst := some 9, op := Op.call { callee := Callee.value (Operand.func 16), args := #[Operand.const (Value.int IntKind.u64 3)], argTypes := #[22] }, type := 24, pos := "outright.go:15", after := #[], guard := none },
  { dst := some 10, op := Op.call { callee := Callee.value (Operand.func 16), args := #[Operand.const (Value.int IntKind.u64 2)], argTypes := #[22] }, type := 24, pos := "outright.go:15", after := #[{ on := 1, ground := Ground.chain }], guard := none },
  { dst := some 11, op := Op.call { callee := Callee.value (Operand.func 17), args := #[Operand.tmp 8, Operand.tmp 9, Operand.tmp 10], argTypes := #[54, 24, 24] }, type := 51, pos := "outright.go:15", after := #[{ on := 0, ground := Ground.data }, { on := 1, ground := Ground.data }, { on := 2, ground := Ground.data }, { on := 2, ground := Ground.chain }], guard := none },
  { dst := some 2, op := Op.alloc 51, type := 0, pos := "outright.go:15", after := #[], guard := none },
  { dst := none, op := Op.store 51 (Operand.tmp 2) (Operand.tmp 11), type := 0, pos := "outright.go:15", after := #[{ on := 4, ground := Ground.data }, { on := 3, ground := Ground.data }, { on := 3, ground := Ground.chain }, { on := 0, ground := Ground.phase }, { on := 1, ground := Ground.phase }, { on := 2, ground := Ground.phase }, { on := 3, ground := Ground.phase }, { on := 4, ground := Ground.phase }], guard := none }]
set_option maxRecDepth 100000 in
set_option maxHeartbeats 16000000 in
theorem al2 (Q : Exit → Act → World → Prop) (T1 : Nat) (D : List Value) (r : E4) (u0 u2 u3 u4 u5 u6 u7 u8 u9 u10 u11 u12 u13 u14 u15 : Value) (W : World)
    (r1 : W.rangeAt T1 0 D) (ld : D.length = 14)
    (C1 : Hid (∀ x, Below W.heap.size W x → Calls Tryz.prog 16 #[.int .u64 3] x fun e w' => e = .returned (.agg #[.int .u64 3, .int .u64 0, .int .u64 0, .int .u64 0]) ∧ Below x.heap.size x w'))
    (C2 : Hid (∀ x, Below W.heap.size W x → Calls Tryz.prog 16 #[.int .u64 2] x fun e w' => e = .returned (.agg #[.int .u64 2, .int .u64 0, .int .u64 0, .int .u64 0]) ∧ Below x.heap.size x w'))
    (C3 : Hid (∀ x, Below W.heap.size W x → Calls Tryz.prog 17 #[.agg D.toArray, .agg #[.int .u64 3, .int .u64 0, .int .u64 0, .int .u64 0], .agg #[.int .u64 2, .int .u64 0, .int .u64 0, .int .u64 0]] x fun e w' => e = .returned (.agg #[.int .u64 r.x0, .int .u64 r.x1, .int .u64 r.x2, .int .u64 r.x3]) ∧ Below x.heap.size x w'))
    (HQ : Hid (∀ (A : Nat) (wz : World), W.heap.size ≤ A → Below W.heap.size W wz → wz.rangeAt A 0 [.int .u64 r.x0, .int .u64 r.x1, .int .u64 r.x2, .int .u64 r.x3] → Q .normal ⟨#[u0, .pointer (some ⟨T1, 0, none⟩), .pointer (some ⟨A, 0, none⟩), u3, u4, u5, u6, u7, .agg D.toArray, .agg #[.int .u64 3, .int .u64 0, .int .u64 0, .int .u64 0], .agg #[.int .u64 2, .int .u64 0, .int .u64 0, .int .u64 0], .agg #[.int .u64 r.x0, .int .u64 r.x1, .int .u64 r.x2, .int .u64 r.x3], u12, u13, u14, u15], []⟩ wz)) : (Code.region 2 al2o true).wp Tryz.prog Q ⟨#[u0, .pointer (some ⟨T1, 0, none⟩), u2, u3, u4, u5, u6, u7, u8, u9, u10, u11, u12, u13, u14, u15], []⟩ W := by
  have RG := hidden r1
  have U14 : Hid (Tryz.prog.underlying 54 = some _) := hidden Tryz.underlying54
  have I14 : Hid ((Tryz.prog.info? 54).map (·.size) = some D.length) := hidden (by rw [ld]; kernel_rfl)
  clear r1 ld
  unfold al2o
  refine wp_region_noPanic ?_
  refine wp_region_held_drew (S := fun x => Below W.heap.size W x) (by kernel_rfl) (bl_drew W) (fun hH0 => ?_)
  refine wpAnyH_take (i := 0) (oi := { dst := some 8, op := Op.load 54 (Operand.tmp 1), type := 54, pos := "outright.go:15", after := #[], guard := none }) (v := .agg (D).toArray) rfl (by kernel_rfl) (by kernel_rfl) (by kernel_rfl) (fun _ _ _ h => h) (yieldsIf_load_mid (by rfl) 54 _ rfl (T1) 0 rfl (D) _ (fun w0 hSw => range_keepM RG.out hSw) U14.out rfl I14.out) hH0 ?_
  simp only [Act.put, List.setIfInBounds_toArray, List.set_cons_zero, List.set_cons_succ]
  refine wpAnyH_ready (rs := [1, 4]) (by kernel_rfl) (by simp) ?_
  refine AllReadyH.cons (o := { dst := some 9, op := Op.call { callee := Callee.value (Operand.func 16), args := #[Operand.const (Value.int IntKind.u64 3)], argTypes := #[22] }, type := 24, pos := "outright.go:15", after := #[], guard := none }) rfl (fun K hK => ?_) (AllReadyH.cons (o := { dst := some 2, op := Op.alloc 51, type := 0, pos := "outright.go:15", after := #[], guard := none }) rfl (fun K hK => ?_) AllReadyH.nil)
  · have HH := hidden hH0
    clear hH0
    go_simp
    refine (C1.out _ HH.out).mono ?_
    rintro e wn1 ⟨rfl, hb⟩
    have SN := hidden (bl_trans HH.out hb)
    clear HH hb C1
    go_wp2_with fail
    refine hK.out _ _ SN.out (fun hH1 => ?_)
    clear hK K SN
    refine wpAnyH_ready (rs := [2, 4]) (by kernel_rfl) (by simp) ?_
    refine AllReadyH.cons (o := { dst := some 10, op := Op.call { callee := Callee.value (Operand.func 16), args := #[Operand.const (Value.int IntKind.u64 2)], argTypes := #[22] }, type := 24, pos := "outright.go:15", after := #[{ on := 1, ground := Ground.chain }], guard := none }) rfl (fun K hK => ?_) (AllReadyH.cons (o := { dst := some 2, op := Op.alloc 51, type := 0, pos := "outright.go:15", after := #[], guard := none }) rfl (fun K hK => ?_) AllReadyH.nil)
    · have HH := hidden hH1
      clear hH1
      go_simp
      refine (C2.out _ HH.out).mono ?_
      rintro e wn2 ⟨rfl, hb⟩
      have SN := hidden (bl_trans HH.out hb)
      clear HH hb C2
      go_wp2_with fail
      refine hK.out _ _ SN.out (fun hH2 => ?_)
      clear hK K SN
      refine wpAnyH_ready (rs := [3, 4]) (by kernel_rfl) (by simp) ?_
      refine AllReadyH.cons (o := { dst := some 11, op := Op.call { callee := Callee.value (Operand.func 17), args := #[Operand.tmp 8, Operand.tmp 9, Operand.tmp 10], argTypes := #[54, 24, 24] }, type := 51, pos := "outright.go:15", after := #[{ on := 0, ground := Ground.data }, { on := 1, ground := Ground.data }, { on := 2, ground := Ground.data }, { on := 2, ground := Ground.chain }], guard := none }) rfl (fun K hK => ?_) (AllReadyH.cons (o := { dst := some 2, op := Op.alloc 51, type := 0, pos := "outright.go:15", after := #[], guard := none }) rfl (fun K hK => ?_) AllReadyH.nil)
      · have HH := hidden hH2
        clear hH2
        go_simp
        refine (C3.out _ HH.out).mono ?_
        rintro e wn3 ⟨rfl, hb⟩
        have SN := hidden (bl_trans HH.out hb)
        clear HH hb C3
        go_wp2_with fail
        refine hK.out _ _ SN.out (fun hH3 => ?_)
        clear hK K SN
        refine wpAnyH_ready (rs := [4]) (by kernel_rfl) (by simp) ?_
        refine AllReadyH.cons (o := { dst := some 2, op := Op.alloc 51, type := 0, pos := "outright.go:15", after := #[], guard := none }) rfl (fun K hK => ?_) AllReadyH.nil
        have HH := hidden hH3
        clear hH3
        refine wp_allocX z4 zv_L rfl (fun A wq4 hA hb hth hra => ?_)
        have GA := hidden (show W.heap.size ≤ A by rw [hA]; exact HH.out.size)
        have TH := hidden hth
        have SN := hidden (bl_trans HH.out hb)
        clear HH hb hth hra hA
        simp only [Act.put, List.setIfInBounds_toArray, List.set_cons_zero, List.set_cons_succ]
        refine hK.out _ _ SN.out (fun hH4 => ?_)
        clear hK K SN
        have HH := hidden hH4
        clear hH4
        refine wpAnyH_ready (rs := [5]) (by kernel_rfl) (by simp) ?_
        refine AllReadyH.cons (o := { dst := none, op := Op.store 51 (Operand.tmp 2) (Operand.tmp 11), type := 0, pos := "outright.go:15", after := #[{ on := 4, ground := Ground.data }, { on := 3, ground := Ground.data }, { on := 3, ground := Ground.chain }, { on := 0, ground := Ground.phase }, { on := 1, ground := Ground.phase }, { on := 2, ground := Ground.phase }, { on := 3, ground := Ground.phase }, { on := 4, ground := Ground.phase }], guard := none }) rfl (fun K hK => ?_) AllReadyH.nil
        refine wp_store_mid 51 _ _ rfl A 0 ([.int .u64 r.x0, .int .u64 r.x1, .int .u64 r.x2, .int .u64 r.x3]).toArray (by rfl) (by rfl) TH.out i4_L (one4 r) ?_
        have FQ := hidden (HQ.out A _ GA.out (below_setCellsM A _ 0 HH.out GA.out) (World.rangeAt_setCells_same _ A 0 _ TH.out))
        refine hK.out _ _ (below_setCellsM A _ 0 HH.out GA.out) (fun hF => ?_)
        clear hK K HH
        refine wpAnyH_done (by kernel_rfl) ?_ _
        refine NoPanic.normal ?_
        exact FQ.out
      · have HH := hidden hH2
        clear hH2
        refine wp_allocX z4 zv_L rfl (fun A wq3 hA hb hth hra => ?_)
        have GA := hidden (show W.heap.size ≤ A by rw [hA]; exact HH.out.size)
        have TH := hidden hth
        have SN := hidden (bl_trans HH.out hb)
        clear HH hb hth hra hA
        simp only [Act.put, List.setIfInBounds_toArray, List.set_cons_zero, List.set_cons_succ]
        refine hK.out _ _ SN.out (fun hH3 => ?_)
        clear hK K SN
        refine wpAnyH_ready (rs := [3]) (by kernel_rfl) (by simp) ?_
        refine AllReadyH.cons (o := { dst := some 11, op := Op.call { callee := Callee.value (Operand.func 17), args := #[Operand.tmp 8, Operand.tmp 9, Operand.tmp 10], argTypes := #[54, 24, 24] }, type := 51, pos := "outright.go:15", after := #[{ on := 0, ground := Ground.data }, { on := 1, ground := Ground.data }, { on := 2, ground := Ground.data }, { on := 2, ground := Ground.chain }], guard := none }) rfl (fun K hK => ?_) AllReadyH.nil
        have HH := hidden hH3
        clear hH3
        go_simp
        refine (C3.out _ HH.out).mono ?_
        rintro e wn4 ⟨rfl, hb⟩
        replace TH := hidden (there_keepM TH.out hb)
        have SN := hidden (bl_trans HH.out hb)
        clear HH hb C3
        go_wp2_with fail
        refine hK.out _ _ SN.out (fun hH4 => ?_)
        clear hK K SN
        have HH := hidden hH4
        clear hH4
        refine wpAnyH_ready (rs := [5]) (by kernel_rfl) (by simp) ?_
        refine AllReadyH.cons (o := { dst := none, op := Op.store 51 (Operand.tmp 2) (Operand.tmp 11), type := 0, pos := "outright.go:15", after := #[{ on := 4, ground := Ground.data }, { on := 3, ground := Ground.data }, { on := 3, ground := Ground.chain }, { on := 0, ground := Ground.phase }, { on := 1, ground := Ground.phase }, { on := 2, ground := Ground.phase }, { on := 3, ground := Ground.phase }, { on := 4, ground := Ground.phase }], guard := none }) rfl (fun K hK => ?_) AllReadyH.nil
        refine wp_store_mid 51 _ _ rfl A 0 ([.int .u64 r.x0, .int .u64 r.x1, .int .u64 r.x2, .int .u64 r.x3]).toArray (by rfl) (by rfl) TH.out i4_L (one4 r) ?_
        have FQ := hidden (HQ.out A _ GA.out (below_setCellsM A _ 0 HH.out GA.out) (World.rangeAt_setCells_same _ A 0 _ TH.out))
        refine hK.out _ _ (below_setCellsM A _ 0 HH.out GA.out) (fun hF => ?_)
        clear hK K HH
        refine wpAnyH_done (by kernel_rfl) ?_ _
        refine NoPanic.normal ?_
        exact FQ.out
    · have HH := hidden hH1
      clear hH1
      refine wp_allocX z4 zv_L rfl (fun A wq2 hA hb hth hra => ?_)
      have GA := hidden (show W.heap.size ≤ A by rw [hA]; exact HH.out.size)
      have TH := hidden hth
      have SN := hidden (bl_trans HH.out hb)
      clear HH hb hth hra hA
      simp only [Act.put, List.setIfInBounds_toArray, List.set_cons_zero, List.set_cons_succ]
      refine hK.out _ _ SN.out (fun hH2 => ?_)
      clear hK K SN
      refine wpAnyH_ready (rs := [2]) (by kernel_rfl) (by simp) ?_
      refine AllReadyH.cons (o := { dst := some 10, op := Op.call { callee := Callee.value (Operand.func 16), args := #[Operand.const (Value.int IntKind.u64 2)], argTypes := #[22] }, type := 24, pos := "outright.go:15", after := #[{ on := 1, ground := Ground.chain }], guard := none }) rfl (fun K hK => ?_) AllReadyH.nil
      have HH := hidden hH2
      clear hH2
      go_simp
      refine (C2.out _ HH.out).mono ?_
      rintro e wn3 ⟨rfl, hb⟩
      replace TH := hidden (there_keepM TH.out hb)
      have SN := hidden (bl_trans HH.out hb)
      clear HH hb C2
      go_wp2_with fail
      refine hK.out _ _ SN.out (fun hH3 => ?_)
      clear hK K SN
      refine wpAnyH_ready (rs := [3]) (by kernel_rfl) (by simp) ?_
      refine AllReadyH.cons (o := { dst := some 11, op := Op.call { callee := Callee.value (Operand.func 17), args := #[Operand.tmp 8, Operand.tmp 9, Operand.tmp 10], argTypes := #[54, 24, 24] }, type := 51, pos := "outright.go:15", after := #[{ on := 0, ground := Ground.data }, { on := 1, ground := Ground.data }, { on := 2, ground := Ground.data }, { on := 2, ground := Ground.chain }], guard := none }) rfl (fun K hK => ?_) AllReadyH.nil
      have HH := hidden hH3
      clear hH3
      go_simp
      refine (C3.out _ HH.out).mono ?_
      rintro e wn4 ⟨rfl, hb⟩
      replace TH := hidden (there_keepM TH.out hb)
      have SN := hidden (bl_trans HH.out hb)
      clear HH hb C3
      go_wp2_with fail
      refine hK.out _ _ SN.out (fun hH4 => ?_)
      clear hK K SN
      have HH := hidden hH4
      clear hH4
      refine wpAnyH_ready (rs := [5]) (by kernel_rfl) (by simp) ?_
      refine AllReadyH.cons (o := { dst := none, op := Op.store 51 (Operand.tmp 2) (Operand.tmp 11), type := 0, pos := "outright.go:15", after := #[{ on := 4, ground := Ground.data }, { on := 3, ground := Ground.data }, { on := 3, ground := Ground.chain }, { on := 0, ground := Ground.phase }, { on := 1, ground := Ground.phase }, { on := 2, ground := Ground.phase }, { on := 3, ground := Ground.phase }, { on := 4, ground := Ground.phase }], guard := none }) rfl (fun K hK => ?_) AllReadyH.nil
      refine wp_store_mid 51 _ _ rfl A 0 ([.int .u64 r.x0, .int .u64 r.x1, .int .u64 r.x2, .int .u64 r.x3]).toArray (by rfl) (by rfl) TH.out i4_L (one4 r) ?_
      have FQ := hidden (HQ.out A _ GA.out (below_setCellsM A _ 0 HH.out GA.out) (World.rangeAt_setCells_same _ A 0 _ TH.out))
      refine hK.out _ _ (below_setCellsM A _ 0 HH.out GA.out) (fun hF => ?_)
      clear hK K HH
      refine wpAnyH_done (by kernel_rfl) ?_ _
      refine NoPanic.normal ?_
      exact FQ.out
  · have HH := hidden hH0
    clear hH0
    refine wp_allocX z4 zv_L rfl (fun A wq1 hA hb hth hra => ?_)
    have GA := hidden (show W.heap.size ≤ A by rw [hA]; exact HH.out.size)
    have TH := hidden hth
    have SN := hidden (bl_trans HH.out hb)
    clear HH hb hth hra hA
    simp only [Act.put, List.setIfInBounds_toArray, List.set_cons_zero, List.set_cons_succ]
    refine hK.out _ _ SN.out (fun hH1 => ?_)
    clear hK K SN
    refine wpAnyH_ready (rs := [1]) (by kernel_rfl) (by simp) ?_
    refine AllReadyH.cons (o := { dst := some 9, op := Op.call { callee := Callee.value (Operand.func 16), args := #[Operand.const (Value.int IntKind.u64 3)], argTypes := #[22] }, type := 24, pos := "outright.go:15", after := #[], guard := none }) rfl (fun K hK => ?_) AllReadyH.nil
    have HH := hidden hH1
    clear hH1
    go_simp
    refine (C1.out _ HH.out).mono ?_
    rintro e wn2 ⟨rfl, hb⟩
    replace TH := hidden (there_keepM TH.out hb)
    have SN := hidden (bl_trans HH.out hb)
    clear HH hb C1
    go_wp2_with fail
    refine hK.out _ _ SN.out (fun hH2 => ?_)
    clear hK K SN
    refine wpAnyH_ready (rs := [2]) (by kernel_rfl) (by simp) ?_
    refine AllReadyH.cons (o := { dst := some 10, op := Op.call { callee := Callee.value (Operand.func 16), args := #[Operand.const (Value.int IntKind.u64 2)], argTypes := #[22] }, type := 24, pos := "outright.go:15", after := #[{ on := 1, ground := Ground.chain }], guard := none }) rfl (fun K hK => ?_) AllReadyH.nil
    have HH := hidden hH2
    clear hH2
    go_simp
    refine (C2.out _ HH.out).mono ?_
    rintro e wn3 ⟨rfl, hb⟩
    replace TH := hidden (there_keepM TH.out hb)
    have SN := hidden (bl_trans HH.out hb)
    clear HH hb C2
    go_wp2_with fail
    refine hK.out _ _ SN.out (fun hH3 => ?_)
    clear hK K SN
    refine wpAnyH_ready (rs := [3]) (by kernel_rfl) (by simp) ?_
    refine AllReadyH.cons (o := { dst := some 11, op := Op.call { callee := Callee.value (Operand.func 17), args := #[Operand.tmp 8, Operand.tmp 9, Operand.tmp 10], argTypes := #[54, 24, 24] }, type := 51, pos := "outright.go:15", after := #[{ on := 0, ground := Ground.data }, { on := 1, ground := Ground.data }, { on := 2, ground := Ground.data }, { on := 2, ground := Ground.chain }], guard := none }) rfl (fun K hK => ?_) AllReadyH.nil
    have HH := hidden hH3
    clear hH3
    go_simp
    refine (C3.out _ HH.out).mono ?_
    rintro e wn4 ⟨rfl, hb⟩
    replace TH := hidden (there_keepM TH.out hb)
    have SN := hidden (bl_trans HH.out hb)
    clear HH hb C3
    go_wp2_with fail
    refine hK.out _ _ SN.out (fun hH4 => ?_)
    clear hK K SN
    have HH := hidden hH4
    clear hH4
    refine wpAnyH_ready (rs := [5]) (by kernel_rfl) (by simp) ?_
    refine AllReadyH.cons (o := { dst := none, op := Op.store 51 (Operand.tmp 2) (Operand.tmp 11), type := 0, pos := "outright.go:15", after := #[{ on := 4, ground := Ground.data }, { on := 3, ground := Ground.data }, { on := 3, ground := Ground.chain }, { on := 0, ground := Ground.phase }, { on := 1, ground := Ground.phase }, { on := 2, ground := Ground.phase }, { on := 3, ground := Ground.phase }, { on := 4, ground := Ground.phase }], guard := none }) rfl (fun K hK => ?_) AllReadyH.nil
    refine wp_store_mid 51 _ _ rfl A 0 ([.int .u64 r.x0, .int .u64 r.x1, .int .u64 r.x2, .int .u64 r.x3]).toArray (by rfl) (by rfl) TH.out i4_L (one4 r) ?_
    have FQ := hidden (HQ.out A _ GA.out (below_setCellsM A _ 0 HH.out GA.out) (World.rangeAt_setCells_same _ A 0 _ TH.out))
    refine hK.out _ _ (below_setCellsM A _ 0 HH.out GA.out) (fun hF => ?_)
    clear hK K HH
    refine wpAnyH_done (by kernel_rfl) ?_ _
    refine NoPanic.normal ?_
    exact FQ.out
def al3o : Array Oper := #[{ dst := some 12, op := Op.fieldAddr 51 (Operand.tmp 2) 0, type := 0, pos := "outright.go:16", after := #[], guard := none },
  { dst := some 13, op := Op.load 24 (Operand.tmp 12), type := 24, pos := "outright.go:16", after := #[{ on := 0, ground := Ground.data }], guard := none },
  { dst := some 14, op := Op.call { callee := Callee.value (Operand.func 16), args := #[Operand.const (Value.int IntKind.u64 29)], argTypes := #[22] }, type := 24, pos := "outright.go:16", after := #[], guard := none },
  { dst := some 15, op := Op.call { callee := Callee.value (Operand.func 8), args := #[Operand.tmp 13, Operand.tmp 14], argTypes := #[24, 24] }, type := 4, pos := "outright.go:16", after := #[{ on := 1, ground := Ground.data }, { on := 2, ground := Ground.data }, { on := 2, ground := Ground.chain }], guard := none },
  { dst := some 0, op := Op.assign (Operand.tmp 15), type := 4, pos := "outright.go:16", after := #[{ on := 3, ground := Ground.data }, { on := 3, ground := Ground.chain }, { on := 0, ground := Ground.phase }, { on := 1, ground := Ground.phase }, { on := 2, ground := Ground.phase }, { on := 3, ground := Ground.phase }], guard := none }]
set_option maxRecDepth 100000 in
set_option maxHeartbeats 16000000 in
theorem al3 (Q : Exit → Act → World → Prop) (T2 : Nat) (r : E4) (u0 u1 u3 u4 u5 u6 u7 u8 u9 u10 u11 u12 u13 u14 u15 : Value) (W : World)
    (cr0 : W.cell? ⟨T2, 0, none⟩ = some (.int .u64 r.x0)) (cr1 : W.cell? ⟨T2, 1, none⟩ = some (.int .u64 r.x1)) (cr2 : W.cell? ⟨T2, 2, none⟩ = some (.int .u64 r.x2)) (cr3 : W.cell? ⟨T2, 3, none⟩ = some (.int .u64 r.x3))
    (C2 : Hid (∀ x, Below W.heap.size W x → Calls Tryz.prog 16 #[.int .u64 29] x fun e w' => e = .returned (.agg #[.int .u64 29, .int .u64 0, .int .u64 0, .int .u64 0]) ∧ Below x.heap.size x w'))
    (C3 : Hid (∀ x, Below W.heap.size W x → Calls Tryz.prog 8 #[.agg #[.int .u64 r.x0, .int .u64 r.x1, .int .u64 r.x2, .int .u64 r.x3], .agg #[.int .u64 29, .int .u64 0, .int .u64 0, .int .u64 0]] x fun e w' => e = .returned (.bool true) ∧ Below x.heap.size x w'))
    (HQ : Hid (∀ (wz : World), Below W.heap.size W wz → Q .normal ⟨#[.bool true, u1, .pointer (some ⟨T2, 0, none⟩), u3, u4, u5, u6, u7, u8, u9, u10, u11, .pointer (some ⟨T2, 0, none⟩), .agg #[.int .u64 r.x0, .int .u64 r.x1, .int .u64 r.x2, .int .u64 r.x3], .agg #[.int .u64 29, .int .u64 0, .int .u64 0, .int .u64 0], .bool true], []⟩ wz)) : (Code.region 3 al3o true).wp Tryz.prog Q ⟨#[u0, u1, .pointer (some ⟨T2, 0, none⟩), u3, u4, u5, u6, u7, u8, u9, u10, u11, u12, u13, u14, u15], []⟩ W := by
  unfold al3o
  refine wp_region_noPanic ?_
  refine wp_region_held_drew (S := fun x => Below W.heap.size W x) (by kernel_rfl) (bl_drew W) (fun hH0 => ?_)
  refine wpAnyH_take (i := 0) (oi := { dst := some 12, op := Op.fieldAddr 51 (Operand.tmp 2) 0, type := 0, pos := "outright.go:16", after := #[], guard := none }) (v := .pointer (some ⟨T2, 0, none⟩)) rfl (by kernel_rfl) (by kernel_rfl) (by kernel_rfl) (fun _ _ _ h => h) (Or.inl ⟨by rfl, fun w0 hSw => ?_⟩) hH0 ?_
  · (clear hSw; go_simp)
  simp only [Act.put, List.setIfInBounds_toArray, List.set_cons_zero, List.set_cons_succ]
  refine wpAnyH_take (i := 1) (oi := { dst := some 13, op := Op.load 24 (Operand.tmp 12), type := 24, pos := "outright.go:16", after := #[{ on := 0, ground := Ground.data }], guard := none }) (v := .agg #[.int .u64 r.x0, .int .u64 r.x1, .int .u64 r.x2, .int .u64 r.x3]) rfl (by kernel_rfl) (by kernel_rfl) (by kernel_rfl) (fun _ _ _ h => h) (Or.inl ⟨by rfl, fun w0 hSw => ?_⟩) hH0 ?_
  · (have hS : Below W.heap.size W w0 := hSw; have a0 := cell_keep cr0 hS; have a1 := cell_keep cr1 hS; have a2 := cell_keep cr2 hS; have a3 := cell_keep cr3 hS; clear hS hSw; go_simp)
  simp only [Act.put, List.setIfInBounds_toArray, List.set_cons_zero, List.set_cons_succ]
  refine wpAnyH_ready (rs := [2]) (by kernel_rfl) (by simp) ?_
  refine AllReadyH.cons (o := { dst := some 14, op := Op.call { callee := Callee.value (Operand.func 16), args := #[Operand.const (Value.int IntKind.u64 29)], argTypes := #[22] }, type := 24, pos := "outright.go:16", after := #[], guard := none }) rfl (fun K hK => ?_) AllReadyH.nil
  have HH := hidden hH0
  clear hH0
  go_simp
  refine (C2.out _ HH.out).mono ?_
  rintro e wn1 ⟨rfl, hb⟩
  have SN := hidden (bl_trans HH.out hb)
  clear HH C2 hb
  go_wp2_with fail
  refine hK.out _ _ SN.out (fun hH1 => ?_)
  clear hK K SN
  refine wpAnyH_ready (rs := [3]) (by kernel_rfl) (by simp) ?_
  refine AllReadyH.cons (o := { dst := some 15, op := Op.call { callee := Callee.value (Operand.func 8), args := #[Operand.tmp 13, Operand.tmp 14], argTypes := #[24, 24] }, type := 4, pos := "outright.go:16", after := #[{ on := 1, ground := Ground.data }, { on := 2, ground := Ground.data }, { on := 2, ground := Ground.chain }], guard := none }) rfl (fun K hK => ?_) AllReadyH.nil
  have HH := hidden hH1
  clear hH1
  go_simp
  refine (C3.out _ HH.out).mono ?_
  rintro e wn2 ⟨rfl, hb⟩
  have SN := hidden (bl_trans HH.out hb)
  clear HH C3 hb
  go_wp2_with fail
  refine hK.out _ _ SN.out (fun hH2 => ?_)
  clear hK K SN
  refine wpAnyH_take (i := 4) (oi := { dst := some 0, op := Op.assign (Operand.tmp 15), type := 4, pos := "outright.go:16", after := #[{ on := 3, ground := Ground.data }, { on := 3, ground := Ground.chain }, { on := 0, ground := Ground.phase }, { on := 1, ground := Ground.phase }, { on := 2, ground := Ground.phase }, { on := 3, ground := Ground.phase }], guard := none }) (v := .bool true) rfl (by kernel_rfl) (by kernel_rfl) (by kernel_rfl) (fun _ _ _ h => h) (Or.inl ⟨by rfl, fun w0 hSw => ?_⟩) hH2 ?_
  · (clear hSw; go_simp)
  simp only [Act.put, List.setIfInBounds_toArray, List.set_cons_zero]
  have HH := hidden hH2
  have FQ := hidden (HQ.out _ HH.out)
  refine wpAnyH_done (by kernel_rfl) ?_ _
  refine NoPanic.normal ?_
  exact FQ.out
theorem ok_small (k : Int) (h : 0 ≤ k ∧ k < 100) : (⟨k, 0, 0, 0⟩ : E4).ok := by unfold E4.ok; simp only [Sm.Wd]; omega
theorem n_small (k : Int) : (⟨k, 0, 0, 0⟩ : E4).n = k := by simp [E4.n, Sm.V]
set_option maxRecDepth 100000 in
set_option maxHeartbeats 8000000 in
theorem alive_any (w : World) (hT : Tb w) : Calls Tryz.prog 5 #[] w fun e w' => e = .returned (.bool true) ∧ Below w.heap.size w w' := by
  have I5 := hidden (fun x => ints_any 5 x)
  have I7 := hidden (fun x => ints_any 7 x)
  have HT := hidden hT
  obtain ⟨r, hr⟩ : ∃ r, lst ((lst ((⟨5, 0, 0, 0⟩ : E4).n * (⟨3, 0, 0, 0⟩ : E4).n)).n + (lst ((⟨7, 0, 0, 0⟩ : E4).n * (⟨2, 0, 0, 0⟩ : E4).n)).n) = r := ⟨_, rfl⟩
  have hr29 : lst r.n = lst 29 := by rw [← hr, lst_n', n_small, n_small, n_small, n_small, lst_two (lst_n' _) (lst_n' _)]; rfl
  have rok : r.ok := hr ▸ lst_ok _
  clear hT
  go_enter Tryz.func5, Tryz.ntmps5
  go_upto_region 2 with (first
    | (go_at_call 16; refine (I5.out _).mono ?_; rintro e wa ⟨rfl, ha⟩; have BA := hidden ha; clear ha I5)
    | (go_at_call 16; refine (I7.out _).mono ?_; rintro e wb ⟨rfl, hb⟩; have BW := hidden (bl_trans BA.out hb); clear hb I7))
  have TT := HT.out
  have C1 := hidden (fun (x : World) (_ : Below (wb.alloc (.cells #[.int .u64 5, .int .u64 0, .int .u64 0, .int .u64 0, .int .u64 7, .int .u64 0, .int .u64 0, .int .u64 0, .int .u64 0, .int .u64 0, .int .u64 0, .int .u64 0, .slice none 0 0, .slice none 0 0] 54)).heap.size (wb.alloc (.cells #[.int .u64 5, .int .u64 0, .int .u64 0, .int .u64 0, .int .u64 7, .int .u64 0, .int .u64 0, .int .u64 0, .int .u64 0, .int .u64 0, .int .u64 0, .int .u64 0, .slice none 0 0, .slice none 0 0] 54)) x) => ints_any 3 x)
  have C2 := hidden (fun (x : World) (_ : Below (wb.alloc (.cells #[.int .u64 5, .int .u64 0, .int .u64 0, .int .u64 0, .int .u64 7, .int .u64 0, .int .u64 0, .int .u64 0, .int .u64 0, .int .u64 0, .int .u64 0, .int .u64 0, .slice none 0 0, .slice none 0 0] 54)).heap.size (wb.alloc (.cells #[.int .u64 5, .int .u64 0, .int .u64 0, .int .u64 0, .int .u64 7, .int .u64 0, .int .u64 0, .int .u64 0, .int .u64 0, .int .u64 0, .int .u64 0, .int .u64 0, .slice none 0 0, .slice none 0 0] 54)) x) => ints_any 2 x)
  have B1 : Below w.heap.size w (wb.alloc (.cells #[.int .u64 5, .int .u64 0, .int .u64 0, .int .u64 0, .int .u64 7, .int .u64 0, .int .u64 0, .int .u64 0, .int .u64 0, .int .u64 0, .int .u64 0, .int .u64 0, .slice none 0 0, .slice none 0 0] 54)) := bl_trans BW.out (bl_alloc wb _)
  have C3 := hidden (fun (x : World) (hx : Below (wb.alloc (.cells #[.int .u64 5, .int .u64 0, .int .u64 0, .int .u64 0, .int .u64 7, .int .u64 0, .int .u64 0, .int .u64 0, .int .u64 0, .int .u64 0, .int .u64 0, .int .u64 0, .slice none 0 0, .slice none 0 0] 54)).heap.size (wb.alloc (.cells #[.int .u64 5, .int .u64 0, .int .u64 0, .int .u64 0, .int .u64 7, .int .u64 0, .int .u64 0, .int .u64 0, .int .u64 0, .int .u64 0, .int .u64 0, .int .u64 0, .slice none 0 0, .slice none 0 0] 54)) x) => commitL_any (⟨5, 0, 0, 0⟩ : E4) (⟨7, 0, 0, 0⟩ : E4) (⟨3, 0, 0, 0⟩ : E4) (⟨2, 0, 0, 0⟩ : E4) _ _ r x (TT.keep (bl_trans B1 hx)) (ok_small 5 (by omega)) (ok_small 7 (by omega)) (ok_small 3 (by omega)) (ok_small 2 (by omega)) rfl rfl hr.symm)
  refine al2 _ wb.heap.size [.int .u64 5, .int .u64 0, .int .u64 0, .int .u64 0, .int .u64 7, .int .u64 0, .int .u64 0, .int .u64 0, .int .u64 0, .int .u64 0, .int .u64 0, .int .u64 0, .slice none 0 0, .slice none 0 0] r _ _ _ _ _ _ _ _ _ _ _ _ _ _ _ (wb.alloc (.cells #[.int .u64 5, .int .u64 0, .int .u64 0, .int .u64 0, .int .u64 7, .int .u64 0, .int .u64 0, .int .u64 0, .int .u64 0, .int .u64 0, .int .u64 0, .int .u64 0, .slice none 0 0, .slice none 0 0] 54)) (range_newM wb _ 54) rfl C1 C2 C3 (hidden ?_)
  intro A wz hA hz hR
  have B2 := bl_trans B1 hz
  clear C1 C2 C3
  have C4 := hidden (fun (x : World) (_ : Below wz.heap.size wz x) => ints_any 29 x)
  have C5 : Hid (∀ x, Below wz.heap.size wz x → Calls Tryz.prog 8 #[.agg #[.int .u64 r.x0, .int .u64 r.x1, .int .u64 r.x2, .int .u64 r.x3], .agg #[.int .u64 29, .int .u64 0, .int .u64 0, .int .u64 0]] x fun e w' => e = .returned (.bool true) ∧ Below x.heap.size x w') := hidden (fun x hx => (Same_any r (⟨29, 0, 0, 0⟩ : E4) x (TT.keep (bl_trans B2 hx)) rok (ok_small 29 (by omega))).mono (fun e w' h => ⟨by rw [h.1, hr29, n_small, E4.same_self], h.2⟩))
  go_upto_region 3 with fail
  refine al3 _ A r _ _ _ _ _ _ _ _ _ _ _ _ _ _ _ wz (hR 0 _ rfl) (hR 1 _ rfl) (hR 2 _ rfl) (hR 3 _ rfl) C4 C5 (hidden ?_)
  intro wy hy
  have B3 := bl_trans B2 hy
  clear C4 C5 B1
  go_wp2_with fail
  refine bodyPost_ret (v := .bool true) (by simp [results, Tryz.results5, go_sem]) rfl ⟨rfl, B3⟩
end Go.Proofs.YthlohkbicnicjaaGreatDoor
