import Derived.Test.YtaejedhdpilhjaaDoorRM4
namespace Go.Proofs.YtaejedhdpilhjaaDoor
namespace Rp
open Go.RowKit
set_option linter.unusedVariables false
set_option linter.unusedSimpArgs false
theorem i4R : (Tryd.prog.info? 26).map (·.size) = some 4 := by kernel_rfl
def lw30o : Array Oper := #[{ dst := some 111, op := Op.load 26 (Operand.tmp 21), type := 26, pos := "outright.go:157", after := #[], guard := none },
  { dst := some 112, op := Op.move (Operand.tmp 19), type := 23, pos := "outright.go:157", after := #[], guard := none },
  { dst := some 113, op := Op.move (Operand.tmp 23), type := 3, pos := "outright.go:157", after := #[], guard := none },
  { dst := some 114, op := Op.indexAddr 23 (Operand.tmp 112) (Operand.tmp 113), type := 0, pos := "outright.go:157", after := #[{ on := 1, ground := Ground.data }, { on := 2, ground := Ground.data }], guard := none },
  { dst := some 115, op := Op.load 26 (Operand.tmp 114), type := 26, pos := "outright.go:157", after := #[{ on := 3, ground := Ground.data }], guard := none },
  { dst := some 116, op := Op.move (Operand.tmp 12), type := 23, pos := "outright.go:157", after := #[], guard := none },
  { dst := some 117, op := Op.move (Operand.tmp 23), type := 3, pos := "outright.go:157", after := #[], guard := none },
  { dst := some 118, op := Op.indexAddr 23 (Operand.tmp 116) (Operand.tmp 117), type := 0, pos := "outright.go:157", after := #[{ on := 5, ground := Ground.data }, { on := 6, ground := Ground.data }], guard := none },
  { dst := some 119, op := Op.load 26 (Operand.tmp 118), type := 26, pos := "outright.go:157", after := #[{ on := 7, ground := Ground.data }], guard := none },
  { dst := some 120, op := Op.call { callee := Callee.value (Operand.func 10), args := #[Operand.tmp 115, Operand.tmp 119], argTypes := #[26, 26] }, type := 26, pos := "outright.go:157", after := #[{ on := 4, ground := Ground.data }, { on := 8, ground := Ground.data }], guard := none },
  { dst := some 121, op := Op.call { callee := Callee.value (Operand.func 9), args := #[Operand.tmp 111, Operand.tmp 120], argTypes := #[26, 26] }, type := 26, pos := "outright.go:157", after := #[{ on := 0, ground := Ground.data }, { on := 9, ground := Ground.data }, { on := 9, ground := Ground.chain }], guard := none },
  { dst := none, op := Op.store 26 (Operand.tmp 21) (Operand.tmp 121), type := 0, pos := "outright.go:157", after := #[{ on := 10, ground := Ground.data }, { on := 10, ground := Ground.chain }, { on := 0, ground := Ground.phase }, { on := 1, ground := Ground.phase }, { on := 2, ground := Ground.phase }, { on := 3, ground := Ground.phase }, { on := 4, ground := Ground.phase }, { on := 5, ground := Ground.phase }, { on := 6, ground := Ground.phase }, { on := 7, ground := Ground.phase }, { on := 8, ground := Ground.phase }, { on := 9, ground := Ground.phase }, { on := 10, ground := Ground.phase }], guard := none }]
set_option maxRecDepth 100000 in
set_option maxHeartbeats 16000000 in
theorem lw30 (Q : Exit → Act → World → Prop) (ds : List Deferred) (T n i wb wcp ab ac : Nat) (l x y z r : E4) (u0 u1 u2 u3 u4 u5 u6 u7 u8 u9 u10 u11 u13 u14 u15 u16 u17 u18 u20 u22 u24 u25 u26 u27 u28 u29 u30 u31 u32 u33 u34 u35 u36 u37 u38 u39 u40 u41 u42 u43 u44 u45 u46 u47 u48 u49 u50 u51 u52 u53 u54 u55 u56 u57 u58 u59 u60 u61 u62 u63 u64 u65 u66 u67 u68 u69 u70 u71 u72 u73 u74 u75 u76 u77 u78 u79 u80 u81 u82 u83 u84 u85 u86 u87 u88 u89 u90 u91 u92 u93 u94 u95 u96 u97 u98 u99 u100 u101 u102 u103 u104 u105 u106 u107 u108 u109 u110 u111 u112 u113 u114 u115 u116 u117 u118 u119 u120 u121 u122 u123 u124 u125 u126 u127 u128 u129 u130 u131 u132 u133 u134 u135 u136 u137 u138 u139 u140 u141 u142 u143 u144 u145 u146 u147 u148 u149 : Value) (W : World)
    (nw : wb ≠ T) (na : ab ≠ T) (i0 : (0 : Int) ≤ (i : Int)) (i1 : (i : Int) < (n : Int)) (rn : W.rangeAt T 0 [.int .u64 l.x0, .int .u64 l.x1, .int .u64 l.x2, .int .u64 l.x3]) (th : W.there T 0 4) (x0 : W.cell? ⟨wb, i * 4, none⟩ = some (.int .u64 x.x0)) (x1 : W.cell? ⟨wb, i * 4 + 1, none⟩ = some (.int .u64 x.x1)) (x2 : W.cell? ⟨wb, i * 4 + 2, none⟩ = some (.int .u64 x.x2)) (x3 : W.cell? ⟨wb, i * 4 + 3, none⟩ = some (.int .u64 x.x3)) (y0 : W.cell? ⟨ab, i * 4, none⟩ = some (.int .u64 y.x0)) (y1 : W.cell? ⟨ab, i * 4 + 1, none⟩ = some (.int .u64 y.x1)) (y2 : W.cell? ⟨ab, i * 4 + 2, none⟩ = some (.int .u64 y.x2)) (y3 : W.cell? ⟨ab, i * 4 + 3, none⟩ = some (.int .u64 y.x3))
    (CM : Hid (∀ yy, W.grownBy yy (some T) → Calls Tryd.prog 10 #[.agg #[.int .u64 x.x0, .int .u64 x.x1, .int .u64 x.x2, .int .u64 x.x3], .agg #[.int .u64 y.x0, .int .u64 y.x1, .int .u64 y.x2, .int .u64 y.x3]] yy fun e w' => e = .returned (.agg #[.int .u64 z.x0, .int .u64 z.x1, .int .u64 z.x2, .int .u64 z.x3]) ∧ Below yy.heap.size yy w'))
    (CA : Hid (∀ yy, W.grownBy yy (some T) → Calls Tryd.prog 9 #[.agg #[.int .u64 l.x0, .int .u64 l.x1, .int .u64 l.x2, .int .u64 l.x3], .agg #[.int .u64 z.x0, .int .u64 z.x1, .int .u64 z.x2, .int .u64 z.x3]] yy fun e w' => e = .returned (.agg #[.int .u64 r.x0, .int .u64 r.x1, .int .u64 r.x2, .int .u64 r.x3]) ∧ Below yy.heap.size yy w'))
    (HQ : Hid (∀ (wz : World), (∃ wy, Below W.heap.size W wy ∧ wy.there T 0 4 ∧ wz = wy.setCells T 0 [.int .u64 r.x0, .int .u64 r.x1, .int .u64 r.x2, .int .u64 r.x3]) → Q .normal ⟨#[u0, u1, u2, u3, u4, u5, u6, u7, u8, u9, u10, u11, .slice (some ⟨ab, 0, none⟩) n ac, u13, u14, u15, u16, u17, u18, .slice (some ⟨wb, 0, none⟩) n wcp, u20, .pointer (some ⟨T, 0, none⟩), u22, .int .i64 (i : Int), u24, u25, u26, u27, u28, u29, u30, u31, u32, u33, u34, u35, u36, u37, u38, u39, u40, u41, u42, u43, u44, u45, u46, u47, u48, u49, u50, u51, u52, u53, u54, u55, u56, u57, u58, u59, u60, u61, u62, u63, u64, u65, u66, u67, u68, u69, u70, u71, u72, u73, u74, u75, u76, u77, u78, u79, u80, u81, u82, u83, u84, u85, u86, u87, u88, u89, u90, u91, u92, u93, u94, u95, u96, u97, u98, u99, u100, u101, u102, u103, u104, u105, u106, u107, u108, u109, u110, .agg #[.int .u64 l.x0, .int .u64 l.x1, .int .u64 l.x2, .int .u64 l.x3], .slice (some ⟨wb, 0, none⟩) n wcp, .int .i64 (i : Int), .pointer (some ⟨wb, i * 4, none⟩), .agg #[.int .u64 x.x0, .int .u64 x.x1, .int .u64 x.x2, .int .u64 x.x3], .slice (some ⟨ab, 0, none⟩) n ac, .int .i64 (i : Int), .pointer (some ⟨ab, i * 4, none⟩), .agg #[.int .u64 y.x0, .int .u64 y.x1, .int .u64 y.x2, .int .u64 y.x3], .agg #[.int .u64 z.x0, .int .u64 z.x1, .int .u64 z.x2, .int .u64 z.x3], .agg #[.int .u64 r.x0, .int .u64 r.x1, .int .u64 r.x2, .int .u64 r.x3], u122, u123, u124, u125, u126, u127, u128, u129, u130, u131, u132, u133, u134, u135, u136, u137, u138, u139, u140, u141, u142, u143, u144, u145, u146, u147, u148, u149], ds⟩ wz)) : (Code.region 30 lw30o true).wp Tryd.prog Q ⟨#[u0, u1, u2, u3, u4, u5, u6, u7, u8, u9, u10, u11, .slice (some ⟨ab, 0, none⟩) n ac, u13, u14, u15, u16, u17, u18, .slice (some ⟨wb, 0, none⟩) n wcp, u20, .pointer (some ⟨T, 0, none⟩), u22, .int .i64 (i : Int), u24, u25, u26, u27, u28, u29, u30, u31, u32, u33, u34, u35, u36, u37, u38, u39, u40, u41, u42, u43, u44, u45, u46, u47, u48, u49, u50, u51, u52, u53, u54, u55, u56, u57, u58, u59, u60, u61, u62, u63, u64, u65, u66, u67, u68, u69, u70, u71, u72, u73, u74, u75, u76, u77, u78, u79, u80, u81, u82, u83, u84, u85, u86, u87, u88, u89, u90, u91, u92, u93, u94, u95, u96, u97, u98, u99, u100, u101, u102, u103, u104, u105, u106, u107, u108, u109, u110, u111, u112, u113, u114, u115, u116, u117, u118, u119, u120, u121, u122, u123, u124, u125, u126, u127, u128, u129, u130, u131, u132, u133, u134, u135, u136, u137, u138, u139, u140, u141, u142, u143, u144, u145, u146, u147, u148, u149], ds⟩ W := by
  have TH := hidden (there_keepM th (bl_drewR W))
  have RN := hidden (range_keepM rn (bl_drewR W))
  have BB := hidden (bl_drewR W)
  clear th rn
  unfold lw30o
  refine wp_region_noPanic ?_
  refine wp_region_held_drew (S := fun x => W.grownBy x (some T)) (by kernel_rfl) (gbI (bl_drewR W) _) (fun hH0 => ?_)
  refine wpAnyH_take (i := 1) (oi := { dst := some 112, op := Op.move (Operand.tmp 19), type := 23, pos := "outright.go:157", after := #[], guard := none }) (v := .slice (some ⟨wb, 0, none⟩) n wcp) rfl (by kernel_rfl) (by kernel_rfl) (by kernel_rfl) (fun _ _ _ h => h) (Or.inl ⟨by rfl, fun w0 hSw => ?_⟩) hH0 ?_
  · (clear hSw; go_simp)
  simp only [Act.put, List.setIfInBounds_toArray, List.set_cons_zero, List.set_cons_succ]
  refine wpAnyH_take (i := 2) (oi := { dst := some 113, op := Op.move (Operand.tmp 23), type := 3, pos := "outright.go:157", after := #[], guard := none }) (v := .int .i64 (i : Int)) rfl (by kernel_rfl) (by kernel_rfl) (by kernel_rfl) (fun _ _ _ h => h) (Or.inl ⟨by rfl, fun w0 hSw => ?_⟩) hH0 ?_
  · (clear hSw; go_simp)
  simp only [Act.put, List.setIfInBounds_toArray, List.set_cons_zero, List.set_cons_succ]
  refine wpAnyH_take (i := 5) (oi := { dst := some 116, op := Op.move (Operand.tmp 12), type := 23, pos := "outright.go:157", after := #[], guard := none }) (v := .slice (some ⟨ab, 0, none⟩) n ac) rfl (by kernel_rfl) (by kernel_rfl) (by kernel_rfl) (fun _ _ _ h => h) (Or.inl ⟨by rfl, fun w0 hSw => ?_⟩) hH0 ?_
  · (clear hSw; go_simp)
  simp only [Act.put, List.setIfInBounds_toArray, List.set_cons_zero, List.set_cons_succ]
  refine wpAnyH_take (i := 6) (oi := { dst := some 117, op := Op.move (Operand.tmp 23), type := 3, pos := "outright.go:157", after := #[], guard := none }) (v := .int .i64 (i : Int)) rfl (by kernel_rfl) (by kernel_rfl) (by kernel_rfl) (fun _ _ _ h => h) (Or.inl ⟨by rfl, fun w0 hSw => ?_⟩) hH0 ?_
  · (clear hSw; go_simp)
  simp only [Act.put, List.setIfInBounds_toArray, List.set_cons_zero, List.set_cons_succ]
  refine wpAnyH_take (i := 3) (oi := { dst := some 114, op := Op.indexAddr 23 (Operand.tmp 112) (Operand.tmp 113), type := 0, pos := "outright.go:157", after := #[{ on := 1, ground := Ground.data }, { on := 2, ground := Ground.data }], guard := none }) (v := .pointer (some ⟨wb, i * 4, none⟩)) rfl (by kernel_rfl) (by kernel_rfl) (by kernel_rfl) (fun _ _ _ h => h) (Or.inl ⟨by rfl, fun w0 hSw => ?_⟩) hH0 ?_
  · (clear hSw; go_simp)
  simp only [Act.put, List.setIfInBounds_toArray, List.set_cons_zero, List.set_cons_succ]
  refine wpAnyH_take (i := 7) (oi := { dst := some 118, op := Op.indexAddr 23 (Operand.tmp 116) (Operand.tmp 117), type := 0, pos := "outright.go:157", after := #[{ on := 5, ground := Ground.data }, { on := 6, ground := Ground.data }], guard := none }) (v := .pointer (some ⟨ab, i * 4, none⟩)) rfl (by kernel_rfl) (by kernel_rfl) (by kernel_rfl) (fun _ _ _ h => h) (Or.inl ⟨by rfl, fun w0 hSw => ?_⟩) hH0 ?_
  · (clear hSw; go_simp)
  simp only [Act.put, List.setIfInBounds_toArray, List.set_cons_zero, List.set_cons_succ]
  refine wpAnyH_take (i := 4) (oi := { dst := some 115, op := Op.load 26 (Operand.tmp 114), type := 26, pos := "outright.go:157", after := #[{ on := 3, ground := Ground.data }], guard := none }) (v := .agg #[.int .u64 x.x0, .int .u64 x.x1, .int .u64 x.x2, .int .u64 x.x3]) rfl (by kernel_rfl) (by kernel_rfl) (by kernel_rfl) (fun _ _ _ h => h) (Or.inl ⟨by rfl, fun w0 hSw => ?_⟩) hH0 ?_
  · (have hS : W.grownBy w0 (some T) := hSw; have a0 := hS.cell x0 (fun e => nw (Option.some.inj e)); have a1 := hS.cell x1 (fun e => nw (Option.some.inj e)); have a2 := hS.cell x2 (fun e => nw (Option.some.inj e)); have a3 := hS.cell x3 (fun e => nw (Option.some.inj e)); clear hS hSw; go_simp)
  simp only [Act.put, List.setIfInBounds_toArray, List.set_cons_zero, List.set_cons_succ]
  refine wpAnyH_take (i := 8) (oi := { dst := some 119, op := Op.load 26 (Operand.tmp 118), type := 26, pos := "outright.go:157", after := #[{ on := 7, ground := Ground.data }], guard := none }) (v := .agg #[.int .u64 y.x0, .int .u64 y.x1, .int .u64 y.x2, .int .u64 y.x3]) rfl (by kernel_rfl) (by kernel_rfl) (by kernel_rfl) (fun _ _ _ h => h) (Or.inl ⟨by rfl, fun w0 hSw => ?_⟩) hH0 ?_
  · (have hS : W.grownBy w0 (some T) := hSw; have a0 := hS.cell y0 (fun e => na (Option.some.inj e)); have a1 := hS.cell y1 (fun e => na (Option.some.inj e)); have a2 := hS.cell y2 (fun e => na (Option.some.inj e)); have a3 := hS.cell y3 (fun e => na (Option.some.inj e)); clear hS hSw; go_simp)
  simp only [Act.put, List.setIfInBounds_toArray, List.set_cons_zero, List.set_cons_succ]
  refine wpAnyH_ready (rs := [0, 9]) (by kernel_rfl) (by simp) ?_
  refine AllReadyH.cons (o := { dst := some 111, op := Op.load 26 (Operand.tmp 21), type := 26, pos := "outright.go:157", after := #[], guard := none }) rfl (fun K hK => ?_) (AllReadyH.cons (o := { dst := some 120, op := Op.call { callee := Callee.value (Operand.func 10), args := #[Operand.tmp 115, Operand.tmp 119], argTypes := #[26, 26] }, type := 26, pos := "outright.go:157", after := #[{ on := 4, ground := Ground.data }, { on := 8, ground := Ground.data }], guard := none }) rfl (fun K hK => ?_) AllReadyH.nil)
  · have HH := hidden hH0
    clear hH0
    refine wp_load_mid 26 _ rfl T 0 rfl [.int .u64 l.x0, .int .u64 l.x1, .int .u64 l.x2, .int .u64 l.x3] _ RN.out Tryd.underlying26 rfl i4R ?_
    simp only [Act.put, List.setIfInBounds_toArray, List.set_cons_zero, List.set_cons_succ]
    have SN := HH
    clear HH
    refine hK.out _ _ SN.out (fun hH1 => ?_)
    clear hK K SN
    refine wpAnyH_ready (rs := [9]) (by kernel_rfl) (by simp) ?_
    refine AllReadyH.cons (o := { dst := some 120, op := Op.call { callee := Callee.value (Operand.func 10), args := #[Operand.tmp 115, Operand.tmp 119], argTypes := #[26, 26] }, type := 26, pos := "outright.go:157", after := #[{ on := 4, ground := Ground.data }, { on := 8, ground := Ground.data }], guard := none }) rfl (fun K hK => ?_) AllReadyH.nil
    have HH := hidden hH1
    clear hH1
    go_simp
    refine (CM.out _ HH.out).mono ?_
    rintro e wn2 ⟨rfl, hb⟩
    replace RN := hidden (range_keepM RN.out hb)
    replace TH := hidden (there_keepM TH.out hb)
    replace BB := hidden (bl_trans BB.out hb)
    have SN := hidden (HH.out.trans (gbI hb _))
    clear HH CM hb
    go_wp2_with fail
    refine hK.out _ _ SN.out (fun hH2 => ?_)
    clear hK K SN
    refine wpAnyH_ready (rs := [10]) (by kernel_rfl) (by simp) ?_
    refine AllReadyH.cons (o := { dst := some 121, op := Op.call { callee := Callee.value (Operand.func 9), args := #[Operand.tmp 111, Operand.tmp 120], argTypes := #[26, 26] }, type := 26, pos := "outright.go:157", after := #[{ on := 0, ground := Ground.data }, { on := 9, ground := Ground.data }, { on := 9, ground := Ground.chain }], guard := none }) rfl (fun K hK => ?_) AllReadyH.nil
    have HH := hidden hH2
    clear hH2
    go_simp
    refine (CA.out _ HH.out).mono ?_
    rintro e wn3 ⟨rfl, hb⟩
    replace RN := hidden (range_keepM RN.out hb)
    replace TH := hidden (there_keepM TH.out hb)
    replace BB := hidden (bl_trans BB.out hb)
    have SN := hidden (HH.out.trans (gbI hb _))
    clear HH CA hb
    go_wp2_with fail
    refine hK.out _ _ SN.out (fun hH3 => ?_)
    clear hK K SN
    refine wpAnyH_ready (rs := [11]) (by kernel_rfl) (by simp) ?_
    refine AllReadyH.cons (o := { dst := none, op := Op.store 26 (Operand.tmp 21) (Operand.tmp 121), type := 0, pos := "outright.go:157", after := #[{ on := 10, ground := Ground.data }, { on := 10, ground := Ground.chain }, { on := 0, ground := Ground.phase }, { on := 1, ground := Ground.phase }, { on := 2, ground := Ground.phase }, { on := 3, ground := Ground.phase }, { on := 4, ground := Ground.phase }, { on := 5, ground := Ground.phase }, { on := 6, ground := Ground.phase }, { on := 7, ground := Ground.phase }, { on := 8, ground := Ground.phase }, { on := 9, ground := Ground.phase }, { on := 10, ground := Ground.phase }], guard := none }) rfl (fun K hK => ?_) AllReadyH.nil
    have HH := hidden hH3
    clear hH3
    refine wp_storeE 26 _ _ rfl T 0 ([.int .u64 r.x0, .int .u64 r.x1, .int .u64 r.x2, .int .u64 r.x3]) (by rfl) (by rfl) TH.out i4R (c4_one r) rfl (fun wn4 hw => ?_)
    have SN := hidden (HH.out.trans (gb_setCells T [.int .u64 r.x0, .int .u64 r.x1, .int .u64 r.x2, .int .u64 r.x3] 0 _))
    have FE := hidden ((⟨_, BB.out, TH.out, hw⟩ : ∃ wy, Below W.heap.size W wy ∧ wy.there T 0 4 ∧ _ = wy.setCells T 0 [.int .u64 r.x0, .int .u64 r.x1, .int .u64 r.x2, .int .u64 r.x3]))
    rw [← hw] at SN
    clear HH hw
    refine hK.out _ _ SN.out (fun hH4 => ?_)
    clear hK K SN
    have HH := hidden hH4
    have FQ := hidden (HQ.out _ FE.out)
    refine wpAnyH_done (by kernel_rfl) ?_ _
    refine NoPanic.normal ?_
    exact FQ.out
  · have HH := hidden hH0
    clear hH0
    go_simp
    refine (CM.out _ HH.out).mono ?_
    rintro e wn1 ⟨rfl, hb⟩
    replace RN := hidden (range_keepM RN.out hb)
    replace TH := hidden (there_keepM TH.out hb)
    replace BB := hidden (bl_trans BB.out hb)
    have SN := hidden (HH.out.trans (gbI hb _))
    clear HH CM hb
    go_wp2_with fail
    refine hK.out _ _ SN.out (fun hH1 => ?_)
    clear hK K SN
    refine wpAnyH_ready (rs := [0]) (by kernel_rfl) (by simp) ?_
    refine AllReadyH.cons (o := { dst := some 111, op := Op.load 26 (Operand.tmp 21), type := 26, pos := "outright.go:157", after := #[], guard := none }) rfl (fun K hK => ?_) AllReadyH.nil
    have HH := hidden hH1
    clear hH1
    refine wp_load_mid 26 _ rfl T 0 rfl [.int .u64 l.x0, .int .u64 l.x1, .int .u64 l.x2, .int .u64 l.x3] _ RN.out Tryd.underlying26 rfl i4R ?_
    simp only [Act.put, List.setIfInBounds_toArray, List.set_cons_zero, List.set_cons_succ]
    have SN := HH
    clear HH
    refine hK.out _ _ SN.out (fun hH2 => ?_)
    clear hK K SN
    refine wpAnyH_ready (rs := [10]) (by kernel_rfl) (by simp) ?_
    refine AllReadyH.cons (o := { dst := some 121, op := Op.call { callee := Callee.value (Operand.func 9), args := #[Operand.tmp 111, Operand.tmp 120], argTypes := #[26, 26] }, type := 26, pos := "outright.go:157", after := #[{ on := 0, ground := Ground.data }, { on := 9, ground := Ground.data }, { on := 9, ground := Ground.chain }], guard := none }) rfl (fun K hK => ?_) AllReadyH.nil
    have HH := hidden hH2
    clear hH2
    go_simp
    refine (CA.out _ HH.out).mono ?_
    rintro e wn3 ⟨rfl, hb⟩
    replace RN := hidden (range_keepM RN.out hb)
    replace TH := hidden (there_keepM TH.out hb)
    replace BB := hidden (bl_trans BB.out hb)
    have SN := hidden (HH.out.trans (gbI hb _))
    clear HH CA hb
    go_wp2_with fail
    refine hK.out _ _ SN.out (fun hH3 => ?_)
    clear hK K SN
    refine wpAnyH_ready (rs := [11]) (by kernel_rfl) (by simp) ?_
    refine AllReadyH.cons (o := { dst := none, op := Op.store 26 (Operand.tmp 21) (Operand.tmp 121), type := 0, pos := "outright.go:157", after := #[{ on := 10, ground := Ground.data }, { on := 10, ground := Ground.chain }, { on := 0, ground := Ground.phase }, { on := 1, ground := Ground.phase }, { on := 2, ground := Ground.phase }, { on := 3, ground := Ground.phase }, { on := 4, ground := Ground.phase }, { on := 5, ground := Ground.phase }, { on := 6, ground := Ground.phase }, { on := 7, ground := Ground.phase }, { on := 8, ground := Ground.phase }, { on := 9, ground := Ground.phase }, { on := 10, ground := Ground.phase }], guard := none }) rfl (fun K hK => ?_) AllReadyH.nil
    have HH := hidden hH3
    clear hH3
    refine wp_storeE 26 _ _ rfl T 0 ([.int .u64 r.x0, .int .u64 r.x1, .int .u64 r.x2, .int .u64 r.x3]) (by rfl) (by rfl) TH.out i4R (c4_one r) rfl (fun wn4 hw => ?_)
    have SN := hidden (HH.out.trans (gb_setCells T [.int .u64 r.x0, .int .u64 r.x1, .int .u64 r.x2, .int .u64 r.x3] 0 _))
    have FE := hidden ((⟨_, BB.out, TH.out, hw⟩ : ∃ wy, Below W.heap.size W wy ∧ wy.there T 0 4 ∧ _ = wy.setCells T 0 [.int .u64 r.x0, .int .u64 r.x1, .int .u64 r.x2, .int .u64 r.x3]))
    rw [← hw] at SN
    clear HH hw
    refine hK.out _ _ SN.out (fun hH4 => ?_)
    clear hK K SN
    have HH := hidden hH4
    have FQ := hidden (HQ.out _ FE.out)
    refine wpAnyH_done (by kernel_rfl) ?_ _
    refine NoPanic.normal ?_
    exact FQ.out
def lw31o : Array Oper := #[{ dst := some 122, op := Op.load 26 (Operand.tmp 22), type := 26, pos := "outright.go:158", after := #[], guard := none },
  { dst := some 123, op := Op.move (Operand.tmp 19), type := 23, pos := "outright.go:158", after := #[], guard := none },
  { dst := some 124, op := Op.move (Operand.tmp 23), type := 3, pos := "outright.go:158", after := #[], guard := none },
  { dst := some 125, op := Op.indexAddr 23 (Operand.tmp 123) (Operand.tmp 124), type := 0, pos := "outright.go:158", after := #[{ on := 1, ground := Ground.data }, { on := 2, ground := Ground.data }], guard := none },
  { dst := some 126, op := Op.load 26 (Operand.tmp 125), type := 26, pos := "outright.go:158", after := #[{ on := 3, ground := Ground.data }], guard := none },
  { dst := some 127, op := Op.call { callee := Callee.value (Operand.func 11), args := #[Operand.tmp 126], argTypes := #[26] }, type := 26, pos := "outright.go:158", after := #[{ on := 4, ground := Ground.data }], guard := none },
  { dst := some 128, op := Op.move (Operand.tmp 13), type := 23, pos := "outright.go:158", after := #[], guard := none },
  { dst := some 129, op := Op.move (Operand.tmp 23), type := 3, pos := "outright.go:158", after := #[], guard := none },
  { dst := some 130, op := Op.indexAddr 23 (Operand.tmp 128) (Operand.tmp 129), type := 0, pos := "outright.go:158", after := #[{ on := 6, ground := Ground.data }, { on := 7, ground := Ground.data }], guard := none },
  { dst := some 131, op := Op.load 26 (Operand.tmp 130), type := 26, pos := "outright.go:158", after := #[{ on := 8, ground := Ground.data }], guard := none },
  { dst := some 132, op := Op.call { callee := Callee.value (Operand.func 10), args := #[Operand.tmp 127, Operand.tmp 131], argTypes := #[26, 26] }, type := 26, pos := "outright.go:158", after := #[{ on := 5, ground := Ground.data }, { on := 9, ground := Ground.data }, { on := 5, ground := Ground.chain }], guard := none },
  { dst := some 133, op := Op.call { callee := Callee.value (Operand.func 9), args := #[Operand.tmp 122, Operand.tmp 132], argTypes := #[26, 26] }, type := 26, pos := "outright.go:158", after := #[{ on := 0, ground := Ground.data }, { on := 10, ground := Ground.data }, { on := 10, ground := Ground.chain }], guard := none },
  { dst := none, op := Op.store 26 (Operand.tmp 22) (Operand.tmp 133), type := 0, pos := "outright.go:158", after := #[{ on := 11, ground := Ground.data }, { on := 11, ground := Ground.chain }, { on := 0, ground := Ground.phase }, { on := 1, ground := Ground.phase }, { on := 2, ground := Ground.phase }, { on := 3, ground := Ground.phase }, { on := 4, ground := Ground.phase }, { on := 5, ground := Ground.phase }, { on := 6, ground := Ground.phase }, { on := 7, ground := Ground.phase }, { on := 8, ground := Ground.phase }, { on := 9, ground := Ground.phase }, { on := 10, ground := Ground.phase }, { on := 11, ground := Ground.phase }], guard := none }]
set_option maxRecDepth 100000 in
set_option maxHeartbeats 16000000 in
theorem lw31 (Q : Exit → Act → World → Prop) (ds : List Deferred) (T n i wb wcp ab ac : Nat) (l x y z r v : E4) (u0 u1 u2 u3 u4 u5 u6 u7 u8 u9 u10 u11 u12 u14 u15 u16 u17 u18 u20 u21 u24 u25 u26 u27 u28 u29 u30 u31 u32 u33 u34 u35 u36 u37 u38 u39 u40 u41 u42 u43 u44 u45 u46 u47 u48 u49 u50 u51 u52 u53 u54 u55 u56 u57 u58 u59 u60 u61 u62 u63 u64 u65 u66 u67 u68 u69 u70 u71 u72 u73 u74 u75 u76 u77 u78 u79 u80 u81 u82 u83 u84 u85 u86 u87 u88 u89 u90 u91 u92 u93 u94 u95 u96 u97 u98 u99 u100 u101 u102 u103 u104 u105 u106 u107 u108 u109 u110 u111 u112 u113 u114 u115 u116 u117 u118 u119 u120 u121 u122 u123 u124 u125 u126 u127 u128 u129 u130 u131 u132 u133 u134 u135 u136 u137 u138 u139 u140 u141 u142 u143 u144 u145 u146 u147 u148 u149 : Value) (W : World)
    (nw : wb ≠ T) (na : ab ≠ T) (i0 : (0 : Int) ≤ (i : Int)) (i1 : (i : Int) < (n : Int)) (rn : W.rangeAt T 0 [.int .u64 l.x0, .int .u64 l.x1, .int .u64 l.x2, .int .u64 l.x3]) (th : W.there T 0 4) (x0 : W.cell? ⟨wb, i * 4, none⟩ = some (.int .u64 x.x0)) (x1 : W.cell? ⟨wb, i * 4 + 1, none⟩ = some (.int .u64 x.x1)) (x2 : W.cell? ⟨wb, i * 4 + 2, none⟩ = some (.int .u64 x.x2)) (x3 : W.cell? ⟨wb, i * 4 + 3, none⟩ = some (.int .u64 x.x3)) (y0 : W.cell? ⟨ab, i * 4, none⟩ = some (.int .u64 y.x0)) (y1 : W.cell? ⟨ab, i * 4 + 1, none⟩ = some (.int .u64 y.x1)) (y2 : W.cell? ⟨ab, i * 4 + 2, none⟩ = some (.int .u64 y.x2)) (y3 : W.cell? ⟨ab, i * 4 + 3, none⟩ = some (.int .u64 y.x3))
    (CI : Hid (∀ yy, W.grownBy yy (some T) → Calls Tryd.prog 11 #[.agg #[.int .u64 x.x0, .int .u64 x.x1, .int .u64 x.x2, .int .u64 x.x3]] yy fun e w' => e = .returned (.agg #[.int .u64 v.x0, .int .u64 v.x1, .int .u64 v.x2, .int .u64 v.x3]) ∧ Below yy.heap.size yy w'))
    (CM : Hid (∀ yy, W.grownBy yy (some T) → Calls Tryd.prog 10 #[.agg #[.int .u64 v.x0, .int .u64 v.x1, .int .u64 v.x2, .int .u64 v.x3], .agg #[.int .u64 y.x0, .int .u64 y.x1, .int .u64 y.x2, .int .u64 y.x3]] yy fun e w' => e = .returned (.agg #[.int .u64 z.x0, .int .u64 z.x1, .int .u64 z.x2, .int .u64 z.x3]) ∧ Below yy.heap.size yy w'))
    (CA : Hid (∀ yy, W.grownBy yy (some T) → Calls Tryd.prog 9 #[.agg #[.int .u64 l.x0, .int .u64 l.x1, .int .u64 l.x2, .int .u64 l.x3], .agg #[.int .u64 z.x0, .int .u64 z.x1, .int .u64 z.x2, .int .u64 z.x3]] yy fun e w' => e = .returned (.agg #[.int .u64 r.x0, .int .u64 r.x1, .int .u64 r.x2, .int .u64 r.x3]) ∧ Below yy.heap.size yy w'))
    (HQ : Hid (∀ (wz : World), (∃ wy, Below W.heap.size W wy ∧ wy.there T 0 4 ∧ wz = wy.setCells T 0 [.int .u64 r.x0, .int .u64 r.x1, .int .u64 r.x2, .int .u64 r.x3]) → Q .normal ⟨#[u0, u1, u2, u3, u4, u5, u6, u7, u8, u9, u10, u11, u12, .slice (some ⟨ab, 0, none⟩) n ac, u14, u15, u16, u17, u18, .slice (some ⟨wb, 0, none⟩) n wcp, u20, u21, .pointer (some ⟨T, 0, none⟩), .int .i64 (i : Int), u24, u25, u26, u27, u28, u29, u30, u31, u32, u33, u34, u35, u36, u37, u38, u39, u40, u41, u42, u43, u44, u45, u46, u47, u48, u49, u50, u51, u52, u53, u54, u55, u56, u57, u58, u59, u60, u61, u62, u63, u64, u65, u66, u67, u68, u69, u70, u71, u72, u73, u74, u75, u76, u77, u78, u79, u80, u81, u82, u83, u84, u85, u86, u87, u88, u89, u90, u91, u92, u93, u94, u95, u96, u97, u98, u99, u100, u101, u102, u103, u104, u105, u106, u107, u108, u109, u110, u111, u112, u113, u114, u115, u116, u117, u118, u119, u120, u121, .agg #[.int .u64 l.x0, .int .u64 l.x1, .int .u64 l.x2, .int .u64 l.x3], .slice (some ⟨wb, 0, none⟩) n wcp, .int .i64 (i : Int), .pointer (some ⟨wb, i * 4, none⟩), .agg #[.int .u64 x.x0, .int .u64 x.x1, .int .u64 x.x2, .int .u64 x.x3], .agg #[.int .u64 v.x0, .int .u64 v.x1, .int .u64 v.x2, .int .u64 v.x3], .slice (some ⟨ab, 0, none⟩) n ac, .int .i64 (i : Int), .pointer (some ⟨ab, i * 4, none⟩), .agg #[.int .u64 y.x0, .int .u64 y.x1, .int .u64 y.x2, .int .u64 y.x3], .agg #[.int .u64 z.x0, .int .u64 z.x1, .int .u64 z.x2, .int .u64 z.x3], .agg #[.int .u64 r.x0, .int .u64 r.x1, .int .u64 r.x2, .int .u64 r.x3], u134, u135, u136, u137, u138, u139, u140, u141, u142, u143, u144, u145, u146, u147, u148, u149], ds⟩ wz)) : (Code.region 31 lw31o true).wp Tryd.prog Q ⟨#[u0, u1, u2, u3, u4, u5, u6, u7, u8, u9, u10, u11, u12, .slice (some ⟨ab, 0, none⟩) n ac, u14, u15, u16, u17, u18, .slice (some ⟨wb, 0, none⟩) n wcp, u20, u21, .pointer (some ⟨T, 0, none⟩), .int .i64 (i : Int), u24, u25, u26, u27, u28, u29, u30, u31, u32, u33, u34, u35, u36, u37, u38, u39, u40, u41, u42, u43, u44, u45, u46, u47, u48, u49, u50, u51, u52, u53, u54, u55, u56, u57, u58, u59, u60, u61, u62, u63, u64, u65, u66, u67, u68, u69, u70, u71, u72, u73, u74, u75, u76, u77, u78, u79, u80, u81, u82, u83, u84, u85, u86, u87, u88, u89, u90, u91, u92, u93, u94, u95, u96, u97, u98, u99, u100, u101, u102, u103, u104, u105, u106, u107, u108, u109, u110, u111, u112, u113, u114, u115, u116, u117, u118, u119, u120, u121, u122, u123, u124, u125, u126, u127, u128, u129, u130, u131, u132, u133, u134, u135, u136, u137, u138, u139, u140, u141, u142, u143, u144, u145, u146, u147, u148, u149], ds⟩ W := by
  have TH := hidden (there_keepM th (bl_drewR W))
  have RN := hidden (range_keepM rn (bl_drewR W))
  have BB := hidden (bl_drewR W)
  clear th rn
  unfold lw31o
  refine wp_region_noPanic ?_
  refine wp_region_held_drew (S := fun x => W.grownBy x (some T)) (by kernel_rfl) (gbI (bl_drewR W) _) (fun hH0 => ?_)
  refine wpAnyH_take (i := 1) (oi := { dst := some 123, op := Op.move (Operand.tmp 19), type := 23, pos := "outright.go:158", after := #[], guard := none }) (v := .slice (some ⟨wb, 0, none⟩) n wcp) rfl (by kernel_rfl) (by kernel_rfl) (by kernel_rfl) (fun _ _ _ h => h) (Or.inl ⟨by rfl, fun w0 hSw => ?_⟩) hH0 ?_
  · (clear hSw; go_simp)
  simp only [Act.put, List.setIfInBounds_toArray, List.set_cons_zero, List.set_cons_succ]
  refine wpAnyH_take (i := 2) (oi := { dst := some 124, op := Op.move (Operand.tmp 23), type := 3, pos := "outright.go:158", after := #[], guard := none }) (v := .int .i64 (i : Int)) rfl (by kernel_rfl) (by kernel_rfl) (by kernel_rfl) (fun _ _ _ h => h) (Or.inl ⟨by rfl, fun w0 hSw => ?_⟩) hH0 ?_
  · (clear hSw; go_simp)
  simp only [Act.put, List.setIfInBounds_toArray, List.set_cons_zero, List.set_cons_succ]
  refine wpAnyH_take (i := 6) (oi := { dst := some 128, op := Op.move (Operand.tmp 13), type := 23, pos := "outright.go:158", after := #[], guard := none }) (v := .slice (some ⟨ab, 0, none⟩) n ac) rfl (by kernel_rfl) (by kernel_rfl) (by kernel_rfl) (fun _ _ _ h => h) (Or.inl ⟨by rfl, fun w0 hSw => ?_⟩) hH0 ?_
  · (clear hSw; go_simp)
  simp only [Act.put, List.setIfInBounds_toArray, List.set_cons_zero, List.set_cons_succ]
  refine wpAnyH_take (i := 7) (oi := { dst := some 129, op := Op.move (Operand.tmp 23), type := 3, pos := "outright.go:158", after := #[], guard := none }) (v := .int .i64 (i : Int)) rfl (by kernel_rfl) (by kernel_rfl) (by kernel_rfl) (fun _ _ _ h => h) (Or.inl ⟨by rfl, fun w0 hSw => ?_⟩) hH0 ?_
  · (clear hSw; go_simp)
  simp only [Act.put, List.setIfInBounds_toArray, List.set_cons_zero, List.set_cons_succ]
  refine wpAnyH_take (i := 3) (oi := { dst := some 125, op := Op.indexAddr 23 (Operand.tmp 123) (Operand.tmp 124), type := 0, pos := "outright.go:158", after := #[{ on := 1, ground := Ground.data }, { on := 2, ground := Ground.data }], guard := none }) (v := .pointer (some ⟨wb, i * 4, none⟩)) rfl (by kernel_rfl) (by kernel_rfl) (by kernel_rfl) (fun _ _ _ h => h) (Or.inl ⟨by rfl, fun w0 hSw => ?_⟩) hH0 ?_
  · (clear hSw; go_simp)
  simp only [Act.put, List.setIfInBounds_toArray, List.set_cons_zero, List.set_cons_succ]
  refine wpAnyH_take (i := 8) (oi := { dst := some 130, op := Op.indexAddr 23 (Operand.tmp 128) (Operand.tmp 129), type := 0, pos := "outright.go:158", after := #[{ on := 6, ground := Ground.data }, { on := 7, ground := Ground.data }], guard := none }) (v := .pointer (some ⟨ab, i * 4, none⟩)) rfl (by kernel_rfl) (by kernel_rfl) (by kernel_rfl) (fun _ _ _ h => h) (Or.inl ⟨by rfl, fun w0 hSw => ?_⟩) hH0 ?_
  · (clear hSw; go_simp)
  simp only [Act.put, List.setIfInBounds_toArray, List.set_cons_zero, List.set_cons_succ]
  refine wpAnyH_take (i := 4) (oi := { dst := some 126, op := Op.load 26 (Operand.tmp 125), type := 26, pos := "outright.go:158", after := #[{ on := 3, ground := Ground.data }], guard := none }) (v := .agg #[.int .u64 x.x0, .int .u64 x.x1, .int .u64 x.x2, .int .u64 x.x3]) rfl (by kernel_rfl) (by kernel_rfl) (by kernel_rfl) (fun _ _ _ h => h) (Or.inl ⟨by rfl, fun w0 hSw => ?_⟩) hH0 ?_
  · (have hS : W.grownBy w0 (some T) := hSw; have a0 := hS.cell x0 (fun e => nw (Option.some.inj e)); have a1 := hS.cell x1 (fun e => nw (Option.some.inj e)); have a2 := hS.cell x2 (fun e => nw (Option.some.inj e)); have a3 := hS.cell x3 (fun e => nw (Option.some.inj e)); clear hS hSw; go_simp)
  simp only [Act.put, List.setIfInBounds_toArray, List.set_cons_zero, List.set_cons_succ]
  refine wpAnyH_take (i := 9) (oi := { dst := some 131, op := Op.load 26 (Operand.tmp 130), type := 26, pos := "outright.go:158", after := #[{ on := 8, ground := Ground.data }], guard := none }) (v := .agg #[.int .u64 y.x0, .int .u64 y.x1, .int .u64 y.x2, .int .u64 y.x3]) rfl (by kernel_rfl) (by kernel_rfl) (by kernel_rfl) (fun _ _ _ h => h) (Or.inl ⟨by rfl, fun w0 hSw => ?_⟩) hH0 ?_
  · (have hS : W.grownBy w0 (some T) := hSw; have a0 := hS.cell y0 (fun e => na (Option.some.inj e)); have a1 := hS.cell y1 (fun e => na (Option.some.inj e)); have a2 := hS.cell y2 (fun e => na (Option.some.inj e)); have a3 := hS.cell y3 (fun e => na (Option.some.inj e)); clear hS hSw; go_simp)
  simp only [Act.put, List.setIfInBounds_toArray, List.set_cons_zero, List.set_cons_succ]
  refine wpAnyH_ready (rs := [0, 5]) (by kernel_rfl) (by simp) ?_
  refine AllReadyH.cons (o := { dst := some 122, op := Op.load 26 (Operand.tmp 22), type := 26, pos := "outright.go:158", after := #[], guard := none }) rfl (fun K hK => ?_) (AllReadyH.cons (o := { dst := some 127, op := Op.call { callee := Callee.value (Operand.func 11), args := #[Operand.tmp 126], argTypes := #[26] }, type := 26, pos := "outright.go:158", after := #[{ on := 4, ground := Ground.data }], guard := none }) rfl (fun K hK => ?_) AllReadyH.nil)
  · have HH := hidden hH0
    clear hH0
    refine wp_load_mid 26 _ rfl T 0 rfl [.int .u64 l.x0, .int .u64 l.x1, .int .u64 l.x2, .int .u64 l.x3] _ RN.out Tryd.underlying26 rfl i4R ?_
    simp only [Act.put, List.setIfInBounds_toArray, List.set_cons_zero, List.set_cons_succ]
    have SN := HH
    clear HH
    refine hK.out _ _ SN.out (fun hH1 => ?_)
    clear hK K SN
    refine wpAnyH_ready (rs := [5]) (by kernel_rfl) (by simp) ?_
    refine AllReadyH.cons (o := { dst := some 127, op := Op.call { callee := Callee.value (Operand.func 11), args := #[Operand.tmp 126], argTypes := #[26] }, type := 26, pos := "outright.go:158", after := #[{ on := 4, ground := Ground.data }], guard := none }) rfl (fun K hK => ?_) AllReadyH.nil
    have HH := hidden hH1
    clear hH1
    go_simp
    refine (CI.out _ HH.out).mono ?_
    rintro e wn2 ⟨rfl, hb⟩
    replace RN := hidden (range_keepM RN.out hb)
    replace TH := hidden (there_keepM TH.out hb)
    replace BB := hidden (bl_trans BB.out hb)
    have SN := hidden (HH.out.trans (gbI hb _))
    clear HH CI hb
    go_wp2_with fail
    refine hK.out _ _ SN.out (fun hH2 => ?_)
    clear hK K SN
    refine wpAnyH_ready (rs := [10]) (by kernel_rfl) (by simp) ?_
    refine AllReadyH.cons (o := { dst := some 132, op := Op.call { callee := Callee.value (Operand.func 10), args := #[Operand.tmp 127, Operand.tmp 131], argTypes := #[26, 26] }, type := 26, pos := "outright.go:158", after := #[{ on := 5, ground := Ground.data }, { on := 9, ground := Ground.data }, { on := 5, ground := Ground.chain }], guard := none }) rfl (fun K hK => ?_) AllReadyH.nil
    have HH := hidden hH2
    clear hH2
    go_simp
    refine (CM.out _ HH.out).mono ?_
    rintro e wn3 ⟨rfl, hb⟩
    replace RN := hidden (range_keepM RN.out hb)
    replace TH := hidden (there_keepM TH.out hb)
    replace BB := hidden (bl_trans BB.out hb)
    have SN := hidden (HH.out.trans (gbI hb _))
    clear HH CM hb
    go_wp2_with fail
    refine hK.out _ _ SN.out (fun hH3 => ?_)
    clear hK K SN
    refine wpAnyH_ready (rs := [11]) (by kernel_rfl) (by simp) ?_
    refine AllReadyH.cons (o := { dst := some 133, op := Op.call { callee := Callee.value (Operand.func 9), args := #[Operand.tmp 122, Operand.tmp 132], argTypes := #[26, 26] }, type := 26, pos := "outright.go:158", after := #[{ on := 0, ground := Ground.data }, { on := 10, ground := Ground.data }, { on := 10, ground := Ground.chain }], guard := none }) rfl (fun K hK => ?_) AllReadyH.nil
    have HH := hidden hH3
    clear hH3
    go_simp
    refine (CA.out _ HH.out).mono ?_
    rintro e wn4 ⟨rfl, hb⟩
    replace RN := hidden (range_keepM RN.out hb)
    replace TH := hidden (there_keepM TH.out hb)
    replace BB := hidden (bl_trans BB.out hb)
    have SN := hidden (HH.out.trans (gbI hb _))
    clear HH CA hb
    go_wp2_with fail
    refine hK.out _ _ SN.out (fun hH4 => ?_)
    clear hK K SN
    refine wpAnyH_ready (rs := [12]) (by kernel_rfl) (by simp) ?_
    refine AllReadyH.cons (o := { dst := none, op := Op.store 26 (Operand.tmp 22) (Operand.tmp 133), type := 0, pos := "outright.go:158", after := #[{ on := 11, ground := Ground.data }, { on := 11, ground := Ground.chain }, { on := 0, ground := Ground.phase }, { on := 1, ground := Ground.phase }, { on := 2, ground := Ground.phase }, { on := 3, ground := Ground.phase }, { on := 4, ground := Ground.phase }, { on := 5, ground := Ground.phase }, { on := 6, ground := Ground.phase }, { on := 7, ground := Ground.phase }, { on := 8, ground := Ground.phase }, { on := 9, ground := Ground.phase }, { on := 10, ground := Ground.phase }, { on := 11, ground := Ground.phase }], guard := none }) rfl (fun K hK => ?_) AllReadyH.nil
    have HH := hidden hH4
    clear hH4
    refine wp_storeE 26 _ _ rfl T 0 ([.int .u64 r.x0, .int .u64 r.x1, .int .u64 r.x2, .int .u64 r.x3]) (by rfl) (by rfl) TH.out i4R (c4_one r) rfl (fun wn5 hw => ?_)
    have SN := hidden (HH.out.trans (gb_setCells T [.int .u64 r.x0, .int .u64 r.x1, .int .u64 r.x2, .int .u64 r.x3] 0 _))
    have FE := hidden ((⟨_, BB.out, TH.out, hw⟩ : ∃ wy, Below W.heap.size W wy ∧ wy.there T 0 4 ∧ _ = wy.setCells T 0 [.int .u64 r.x0, .int .u64 r.x1, .int .u64 r.x2, .int .u64 r.x3]))
    rw [← hw] at SN
    clear HH hw
    refine hK.out _ _ SN.out (fun hH5 => ?_)
    clear hK K SN
    have HH := hidden hH5
    have FQ := hidden (HQ.out _ FE.out)
    refine wpAnyH_done (by kernel_rfl) ?_ _
    refine NoPanic.normal ?_
    exact FQ.out
  · have HH := hidden hH0
    clear hH0
    go_simp
    refine (CI.out _ HH.out).mono ?_
    rintro e wn1 ⟨rfl, hb⟩
    replace RN := hidden (range_keepM RN.out hb)
    replace TH := hidden (there_keepM TH.out hb)
    replace BB := hidden (bl_trans BB.out hb)
    have SN := hidden (HH.out.trans (gbI hb _))
    clear HH CI hb
    go_wp2_with fail
    refine hK.out _ _ SN.out (fun hH1 => ?_)
    clear hK K SN
    refine wpAnyH_ready (rs := [0, 10]) (by kernel_rfl) (by simp) ?_
    refine AllReadyH.cons (o := { dst := some 122, op := Op.load 26 (Operand.tmp 22), type := 26, pos := "outright.go:158", after := #[], guard := none }) rfl (fun K hK => ?_) (AllReadyH.cons (o := { dst := some 132, op := Op.call { callee := Callee.value (Operand.func 10), args := #[Operand.tmp 127, Operand.tmp 131], argTypes := #[26, 26] }, type := 26, pos := "outright.go:158", after := #[{ on := 5, ground := Ground.data }, { on := 9, ground := Ground.data }, { on := 5, ground := Ground.chain }], guard := none }) rfl (fun K hK => ?_) AllReadyH.nil)
    · have HH := hidden hH1
      clear hH1
      refine wp_load_mid 26 _ rfl T 0 rfl [.int .u64 l.x0, .int .u64 l.x1, .int .u64 l.x2, .int .u64 l.x3] _ RN.out Tryd.underlying26 rfl i4R ?_
      simp only [Act.put, List.setIfInBounds_toArray, List.set_cons_zero, List.set_cons_succ]
      have SN := HH
      clear HH
      refine hK.out _ _ SN.out (fun hH2 => ?_)
      clear hK K SN
      refine wpAnyH_ready (rs := [10]) (by kernel_rfl) (by simp) ?_
      refine AllReadyH.cons (o := { dst := some 132, op := Op.call { callee := Callee.value (Operand.func 10), args := #[Operand.tmp 127, Operand.tmp 131], argTypes := #[26, 26] }, type := 26, pos := "outright.go:158", after := #[{ on := 5, ground := Ground.data }, { on := 9, ground := Ground.data }, { on := 5, ground := Ground.chain }], guard := none }) rfl (fun K hK => ?_) AllReadyH.nil
      have HH := hidden hH2
      clear hH2
      go_simp
      refine (CM.out _ HH.out).mono ?_
      rintro e wn3 ⟨rfl, hb⟩
      replace RN := hidden (range_keepM RN.out hb)
      replace TH := hidden (there_keepM TH.out hb)
      replace BB := hidden (bl_trans BB.out hb)
      have SN := hidden (HH.out.trans (gbI hb _))
      clear HH CM hb
      go_wp2_with fail
      refine hK.out _ _ SN.out (fun hH3 => ?_)
      clear hK K SN
      refine wpAnyH_ready (rs := [11]) (by kernel_rfl) (by simp) ?_
      refine AllReadyH.cons (o := { dst := some 133, op := Op.call { callee := Callee.value (Operand.func 9), args := #[Operand.tmp 122, Operand.tmp 132], argTypes := #[26, 26] }, type := 26, pos := "outright.go:158", after := #[{ on := 0, ground := Ground.data }, { on := 10, ground := Ground.data }, { on := 10, ground := Ground.chain }], guard := none }) rfl (fun K hK => ?_) AllReadyH.nil
      have HH := hidden hH3
      clear hH3
      go_simp
      refine (CA.out _ HH.out).mono ?_
      rintro e wn4 ⟨rfl, hb⟩
      replace RN := hidden (range_keepM RN.out hb)
      replace TH := hidden (there_keepM TH.out hb)
      replace BB := hidden (bl_trans BB.out hb)
      have SN := hidden (HH.out.trans (gbI hb _))
      clear HH CA hb
      go_wp2_with fail
      refine hK.out _ _ SN.out (fun hH4 => ?_)
      clear hK K SN
      refine wpAnyH_ready (rs := [12]) (by kernel_rfl) (by simp) ?_
      refine AllReadyH.cons (o := { dst := none, op := Op.store 26 (Operand.tmp 22) (Operand.tmp 133), type := 0, pos := "outright.go:158", after := #[{ on := 11, ground := Ground.data }, { on := 11, ground := Ground.chain }, { on := 0, ground := Ground.phase }, { on := 1, ground := Ground.phase }, { on := 2, ground := Ground.phase }, { on := 3, ground := Ground.phase }, { on := 4, ground := Ground.phase }, { on := 5, ground := Ground.phase }, { on := 6, ground := Ground.phase }, { on := 7, ground := Ground.phase }, { on := 8, ground := Ground.phase }, { on := 9, ground := Ground.phase }, { on := 10, ground := Ground.phase }, { on := 11, ground := Ground.phase }], guard := none }) rfl (fun K hK => ?_) AllReadyH.nil
      have HH := hidden hH4
      clear hH4
      refine wp_storeE 26 _ _ rfl T 0 ([.int .u64 r.x0, .int .u64 r.x1, .int .u64 r.x2, .int .u64 r.x3]) (by rfl) (by rfl) TH.out i4R (c4_one r) rfl (fun wn5 hw => ?_)
      have SN := hidden (HH.out.trans (gb_setCells T [.int .u64 r.x0, .int .u64 r.x1, .int .u64 r.x2, .int .u64 r.x3] 0 _))
      have FE := hidden ((⟨_, BB.out, TH.out, hw⟩ : ∃ wy, Below W.heap.size W wy ∧ wy.there T 0 4 ∧ _ = wy.setCells T 0 [.int .u64 r.x0, .int .u64 r.x1, .int .u64 r.x2, .int .u64 r.x3]))
      rw [← hw] at SN
      clear HH hw
      refine hK.out _ _ SN.out (fun hH5 => ?_)
      clear hK K SN
      have HH := hidden hH5
      have FQ := hidden (HQ.out _ FE.out)
      refine wpAnyH_done (by kernel_rfl) ?_ _
      refine NoPanic.normal ?_
      exact FQ.out
    · have HH := hidden hH1
      clear hH1
      go_simp
      refine (CM.out _ HH.out).mono ?_
      rintro e wn2 ⟨rfl, hb⟩
      replace RN := hidden (range_keepM RN.out hb)
      replace TH := hidden (there_keepM TH.out hb)
      replace BB := hidden (bl_trans BB.out hb)
      have SN := hidden (HH.out.trans (gbI hb _))
      clear HH CM hb
      go_wp2_with fail
      refine hK.out _ _ SN.out (fun hH2 => ?_)
      clear hK K SN
      refine wpAnyH_ready (rs := [0]) (by kernel_rfl) (by simp) ?_
      refine AllReadyH.cons (o := { dst := some 122, op := Op.load 26 (Operand.tmp 22), type := 26, pos := "outright.go:158", after := #[], guard := none }) rfl (fun K hK => ?_) AllReadyH.nil
      have HH := hidden hH2
      clear hH2
      refine wp_load_mid 26 _ rfl T 0 rfl [.int .u64 l.x0, .int .u64 l.x1, .int .u64 l.x2, .int .u64 l.x3] _ RN.out Tryd.underlying26 rfl i4R ?_
      simp only [Act.put, List.setIfInBounds_toArray, List.set_cons_zero, List.set_cons_succ]
      have SN := HH
      clear HH
      refine hK.out _ _ SN.out (fun hH3 => ?_)
      clear hK K SN
      refine wpAnyH_ready (rs := [11]) (by kernel_rfl) (by simp) ?_
      refine AllReadyH.cons (o := { dst := some 133, op := Op.call { callee := Callee.value (Operand.func 9), args := #[Operand.tmp 122, Operand.tmp 132], argTypes := #[26, 26] }, type := 26, pos := "outright.go:158", after := #[{ on := 0, ground := Ground.data }, { on := 10, ground := Ground.data }, { on := 10, ground := Ground.chain }], guard := none }) rfl (fun K hK => ?_) AllReadyH.nil
      have HH := hidden hH3
      clear hH3
      go_simp
      refine (CA.out _ HH.out).mono ?_
      rintro e wn4 ⟨rfl, hb⟩
      replace RN := hidden (range_keepM RN.out hb)
      replace TH := hidden (there_keepM TH.out hb)
      replace BB := hidden (bl_trans BB.out hb)
      have SN := hidden (HH.out.trans (gbI hb _))
      clear HH CA hb
      go_wp2_with fail
      refine hK.out _ _ SN.out (fun hH4 => ?_)
      clear hK K SN
      refine wpAnyH_ready (rs := [12]) (by kernel_rfl) (by simp) ?_
      refine AllReadyH.cons (o := { dst := none, op := Op.store 26 (Operand.tmp 22) (Operand.tmp 133), type := 0, pos := "outright.go:158", after := #[{ on := 11, ground := Ground.data }, { on := 11, ground := Ground.chain }, { on := 0, ground := Ground.phase }, { on := 1, ground := Ground.phase }, { on := 2, ground := Ground.phase }, { on := 3, ground := Ground.phase }, { on := 4, ground := Ground.phase }, { on := 5, ground := Ground.phase }, { on := 6, ground := Ground.phase }, { on := 7, ground := Ground.phase }, { on := 8, ground := Ground.phase }, { on := 9, ground := Ground.phase }, { on := 10, ground := Ground.phase }, { on := 11, ground := Ground.phase }], guard := none }) rfl (fun K hK => ?_) AllReadyH.nil
      have HH := hidden hH4
      clear hH4
      refine wp_storeE 26 _ _ rfl T 0 ([.int .u64 r.x0, .int .u64 r.x1, .int .u64 r.x2, .int .u64 r.x3]) (by rfl) (by rfl) TH.out i4R (c4_one r) rfl (fun wn5 hw => ?_)
      have SN := hidden (HH.out.trans (gb_setCells T [.int .u64 r.x0, .int .u64 r.x1, .int .u64 r.x2, .int .u64 r.x3] 0 _))
      have FE := hidden ((⟨_, BB.out, TH.out, hw⟩ : ∃ wy, Below W.heap.size W wy ∧ wy.there T 0 4 ∧ _ = wy.setCells T 0 [.int .u64 r.x0, .int .u64 r.x1, .int .u64 r.x2, .int .u64 r.x3]))
      rw [← hw] at SN
      clear HH hw
      refine hK.out _ _ SN.out (fun hH5 => ?_)
      clear hK K SN
      have HH := hidden hH5
      have FQ := hidden (HQ.out _ FE.out)
      refine wpAnyH_done (by kernel_rfl) ?_ _
      refine NoPanic.normal ?_
      exact FQ.out
def lw32o : Array Oper := #[{ dst := some 134, op := Op.fieldAddr 35 (Operand.tmp 15) 2, type := 0, pos := "outright.go:160", after := #[], guard := none },
  { dst := some 135, op := Op.load 29 (Operand.tmp 134), type := 29, pos := "outright.go:160", after := #[{ on := 0, ground := Ground.data }], guard := none },
  { dst := some 136, op := Op.indexAddr 29 (Operand.tmp 135) (Operand.const (Value.int IntKind.i64 0)), type := 0, pos := "outright.go:160", after := #[{ on := 1, ground := Ground.data }], guard := none },
  { dst := some 137, op := Op.fieldAddr 33 (Operand.tmp 136) 0, type := 0, pos := "outright.go:160", after := #[{ on := 2, ground := Ground.data }], guard := none },
  { dst := some 138, op := Op.load 26 (Operand.tmp 137), type := 26, pos := "outright.go:160", after := #[{ on := 3, ground := Ground.data }], guard := none },
  { dst := some 139, op := Op.load 26 (Operand.tmp 21), type := 26, pos := "outright.go:160", after := #[], guard := none },
  { dst := some 140, op := Op.call { callee := Callee.value (Operand.func 12), args := #[Operand.tmp 138, Operand.tmp 139], argTypes := #[26, 26] }, type := 4, pos := "outright.go:160", after := #[{ on := 4, ground := Ground.data }, { on := 5, ground := Ground.data }], guard := none },
  { dst := some 141, op := Op.move (Operand.tmp 140), type := 4, pos := "outright.go:160", after := #[{ on := 6, ground := Ground.data }, { on := 6, ground := Ground.chain }], guard := none },
  { dst := some 142, op := Op.fieldAddr 35 (Operand.tmp 15) 3, type := 0, pos := "outright.go:160", after := #[{ on := 7, ground := Ground.guard }], guard := some (7, true) },
  { dst := some 143, op := Op.load 29 (Operand.tmp 142), type := 29, pos := "outright.go:160", after := #[{ on := 8, ground := Ground.data }, { on := 7, ground := Ground.guard }], guard := some (7, true) },
  { dst := some 144, op := Op.indexAddr 29 (Operand.tmp 143) (Operand.const (Value.int IntKind.i64 0)), type := 0, pos := "outright.go:160", after := #[{ on := 9, ground := Ground.data }, { on := 7, ground := Ground.guard }], guard := some (7, true) },
  { dst := some 145, op := Op.fieldAddr 33 (Operand.tmp 144) 0, type := 0, pos := "outright.go:160", after := #[{ on := 10, ground := Ground.data }, { on := 7, ground := Ground.guard }], guard := some (7, true) },
  { dst := some 146, op := Op.load 26 (Operand.tmp 145), type := 26, pos := "outright.go:160", after := #[{ on := 11, ground := Ground.data }, { on := 7, ground := Ground.guard }], guard := some (7, true) },
  { dst := some 147, op := Op.load 26 (Operand.tmp 22), type := 26, pos := "outright.go:160", after := #[{ on := 7, ground := Ground.guard }], guard := some (7, true) },
  { dst := some 148, op := Op.call { callee := Callee.value (Operand.func 12), args := #[Operand.tmp 146, Operand.tmp 147], argTypes := #[26, 26] }, type := 4, pos := "outright.go:160", after := #[{ on := 12, ground := Ground.data }, { on := 13, ground := Ground.data }, { on := 7, ground := Ground.chain }, { on := 7, ground := Ground.guard }], guard := some (7, true) },
  { dst := some 149, op := Op.pick (Operand.tmp 141) (Operand.tmp 148) (Operand.const (Value.bool false)), type := 4, pos := "outright.go:160", after := #[{ on := 7, ground := Ground.data }, { on := 14, ground := Ground.data }], guard := none },
  { dst := some 6, op := Op.assign (Operand.tmp 149), type := 4, pos := "outright.go:160", after := #[{ on := 15, ground := Ground.data }, { on := 14, ground := Ground.chain }, { on := 0, ground := Ground.phase }, { on := 1, ground := Ground.phase }, { on := 2, ground := Ground.phase }, { on := 3, ground := Ground.phase }, { on := 4, ground := Ground.phase }, { on := 5, ground := Ground.phase }, { on := 6, ground := Ground.phase }, { on := 7, ground := Ground.phase }, { on := 8, ground := Ground.phase }, { on := 9, ground := Ground.phase }, { on := 10, ground := Ground.phase }, { on := 11, ground := Ground.phase }, { on := 12, ground := Ground.phase }, { on := 13, ground := Ground.phase }, { on := 14, ground := Ground.phase }, { on := 15, ground := Ground.phase }], guard := none }]
set_option maxRecDepth 100000 in
set_option maxHeartbeats 16000000 in
theorem lw32 (Q : Exit → Act → World → Prop) (ds : List Deferred) (T15 T21 T22 g gc h hc : Nat) (p q l r : E4) (u0 u1 u2 u3 u4 u5 u6 u7 u8 u9 u10 u11 u12 u13 u14 u16 u17 u18 u19 u20 u23 u24 u25 u26 u27 u28 u29 u30 u31 u32 u33 u34 u35 u36 u37 u38 u39 u40 u41 u42 u43 u44 u45 u46 u47 u48 u49 u50 u51 u52 u53 u54 u55 u56 u57 u58 u59 u60 u61 u62 u63 u64 u65 u66 u67 u68 u69 u70 u71 u72 u73 u74 u75 u76 u77 u78 u79 u80 u81 u82 u83 u84 u85 u86 u87 u88 u89 u90 u91 u92 u93 u94 u95 u96 u97 u98 u99 u100 u101 u102 u103 u104 u105 u106 u107 u108 u109 u110 u111 u112 u113 u114 u115 u116 u117 u118 u119 u120 u121 u122 u123 u124 u125 u126 u127 u128 u129 u130 u131 u132 u133 u134 u135 u136 u137 u138 u139 u140 u141 u142 u143 u144 u145 u146 u147 u148 u149 : Value) (W : World)
    (cG : W.cell? ⟨T15, 8, none⟩ = some (.slice (some ⟨g, 0, none⟩) 1 gc)) (cH : W.cell? ⟨T15, 9, none⟩ = some (.slice (some ⟨h, 0, none⟩) 1 hc)) (p0 : W.cell? ⟨g, 0, none⟩ = some (.int .u64 p.x0)) (p1 : W.cell? ⟨g, 1, none⟩ = some (.int .u64 p.x1)) (p2 : W.cell? ⟨g, 2, none⟩ = some (.int .u64 p.x2)) (p3 : W.cell? ⟨g, 3, none⟩ = some (.int .u64 p.x3)) (q0 : W.cell? ⟨h, 0, none⟩ = some (.int .u64 q.x0)) (q1 : W.cell? ⟨h, 1, none⟩ = some (.int .u64 q.x1)) (q2 : W.cell? ⟨h, 2, none⟩ = some (.int .u64 q.x2)) (q3 : W.cell? ⟨h, 3, none⟩ = some (.int .u64 q.x3)) (l0 : W.cell? ⟨T21, 0, none⟩ = some (.int .u64 l.x0)) (l1 : W.cell? ⟨T21, 1, none⟩ = some (.int .u64 l.x1)) (l2 : W.cell? ⟨T21, 2, none⟩ = some (.int .u64 l.x2)) (l3 : W.cell? ⟨T21, 3, none⟩ = some (.int .u64 l.x3)) (r0 : W.cell? ⟨T22, 0, none⟩ = some (.int .u64 r.x0)) (r1 : W.cell? ⟨T22, 1, none⟩ = some (.int .u64 r.x1)) (r2 : W.cell? ⟨T22, 2, none⟩ = some (.int .u64 r.x2)) (r3 : W.cell? ⟨T22, 3, none⟩ = some (.int .u64 r.x3))
    (C1 : Hid (∀ y, Below W.heap.size W y → Calls Tryd.prog 12 #[.agg #[.int .u64 p.x0, .int .u64 p.x1, .int .u64 p.x2, .int .u64 p.x3], .agg #[.int .u64 l.x0, .int .u64 l.x1, .int .u64 l.x2, .int .u64 l.x3]] y fun e w' => e = .returned (.bool true) ∧ Below y.heap.size y w'))
    (C2 : Hid (∀ y, Below W.heap.size W y → Calls Tryd.prog 12 #[.agg #[.int .u64 q.x0, .int .u64 q.x1, .int .u64 q.x2, .int .u64 q.x3], .agg #[.int .u64 r.x0, .int .u64 r.x1, .int .u64 r.x2, .int .u64 r.x3]] y fun e w' => e = .returned (.bool true) ∧ Below y.heap.size y w'))
    (HQ : Hid (∀ (wz : World), Below W.heap.size W wz → Q .normal ⟨#[u0, u1, u2, u3, u4, u5, .bool true, u7, u8, u9, u10, u11, u12, u13, u14, .pointer (some ⟨T15, 0, none⟩), u16, u17, u18, u19, u20, .pointer (some ⟨T21, 0, none⟩), .pointer (some ⟨T22, 0, none⟩), u23, u24, u25, u26, u27, u28, u29, u30, u31, u32, u33, u34, u35, u36, u37, u38, u39, u40, u41, u42, u43, u44, u45, u46, u47, u48, u49, u50, u51, u52, u53, u54, u55, u56, u57, u58, u59, u60, u61, u62, u63, u64, u65, u66, u67, u68, u69, u70, u71, u72, u73, u74, u75, u76, u77, u78, u79, u80, u81, u82, u83, u84, u85, u86, u87, u88, u89, u90, u91, u92, u93, u94, u95, u96, u97, u98, u99, u100, u101, u102, u103, u104, u105, u106, u107, u108, u109, u110, u111, u112, u113, u114, u115, u116, u117, u118, u119, u120, u121, u122, u123, u124, u125, u126, u127, u128, u129, u130, u131, u132, u133, .pointer (some ⟨T15, 8, none⟩), .slice (some ⟨g, 0, none⟩) 1 gc, .pointer (some ⟨g, 0, none⟩), .pointer (some ⟨g, 0, none⟩), .agg #[.int .u64 p.x0, .int .u64 p.x1, .int .u64 p.x2, .int .u64 p.x3], .agg #[.int .u64 l.x0, .int .u64 l.x1, .int .u64 l.x2, .int .u64 l.x3], .bool true, .bool true, .pointer (some ⟨T15, 9, none⟩), .slice (some ⟨h, 0, none⟩) 1 hc, .pointer (some ⟨h, 0, none⟩), .pointer (some ⟨h, 0, none⟩), .agg #[.int .u64 q.x0, .int .u64 q.x1, .int .u64 q.x2, .int .u64 q.x3], .agg #[.int .u64 r.x0, .int .u64 r.x1, .int .u64 r.x2, .int .u64 r.x3], .bool true, .bool true], ds⟩ wz)) : (Code.region 32 lw32o true).wp Tryd.prog Q ⟨#[u0, u1, u2, u3, u4, u5, u6, u7, u8, u9, u10, u11, u12, u13, u14, .pointer (some ⟨T15, 0, none⟩), u16, u17, u18, u19, u20, .pointer (some ⟨T21, 0, none⟩), .pointer (some ⟨T22, 0, none⟩), u23, u24, u25, u26, u27, u28, u29, u30, u31, u32, u33, u34, u35, u36, u37, u38, u39, u40, u41, u42, u43, u44, u45, u46, u47, u48, u49, u50, u51, u52, u53, u54, u55, u56, u57, u58, u59, u60, u61, u62, u63, u64, u65, u66, u67, u68, u69, u70, u71, u72, u73, u74, u75, u76, u77, u78, u79, u80, u81, u82, u83, u84, u85, u86, u87, u88, u89, u90, u91, u92, u93, u94, u95, u96, u97, u98, u99, u100, u101, u102, u103, u104, u105, u106, u107, u108, u109, u110, u111, u112, u113, u114, u115, u116, u117, u118, u119, u120, u121, u122, u123, u124, u125, u126, u127, u128, u129, u130, u131, u132, u133, u134, u135, u136, u137, u138, u139, u140, u141, u142, u143, u144, u145, u146, u147, u148, u149], ds⟩ W := by
  unfold lw32o
  refine wp_region_noPanic ?_
  refine wp_region_held_drew (S := fun x => Below W.heap.size W x) (by kernel_rfl) (bl_drewR W) (fun hH0 => ?_)
  refine wpAnyH_take (i := 0) (oi := { dst := some 134, op := Op.fieldAddr 35 (Operand.tmp 15) 2, type := 0, pos := "outright.go:160", after := #[], guard := none }) (v := .pointer (some ⟨T15, 8, none⟩)) rfl (by kernel_rfl) (by kernel_rfl) (by kernel_rfl) (fun _ _ _ h => h) (Or.inl ⟨by rfl, fun w0 hSw => ?_⟩) hH0 ?_
  · (clear hSw; go_simp)
  simp only [Act.put, List.setIfInBounds_toArray, List.set_cons_zero, List.set_cons_succ]
  refine wpAnyH_take (i := 5) (oi := { dst := some 139, op := Op.load 26 (Operand.tmp 21), type := 26, pos := "outright.go:160", after := #[], guard := none }) (v := .agg #[.int .u64 l.x0, .int .u64 l.x1, .int .u64 l.x2, .int .u64 l.x3]) rfl (by kernel_rfl) (by kernel_rfl) (by kernel_rfl) (fun _ _ _ h => h) (Or.inl ⟨by rfl, fun w0 hSw => ?_⟩) hH0 ?_
  · (have hS : Below W.heap.size W w0 := hSw; have a0 := cell_keep l0 hS; have a1 := cell_keep l1 hS; have a2 := cell_keep l2 hS; have a3 := cell_keep l3 hS; clear hS hSw; go_simp)
  simp only [Act.put, List.setIfInBounds_toArray, List.set_cons_zero, List.set_cons_succ]
  refine wpAnyH_take (i := 1) (oi := { dst := some 135, op := Op.load 29 (Operand.tmp 134), type := 29, pos := "outright.go:160", after := #[{ on := 0, ground := Ground.data }], guard := none }) (v := .slice (some ⟨g, 0, none⟩) 1 gc) rfl (by kernel_rfl) (by kernel_rfl) (by kernel_rfl) (fun _ _ _ h => h) (Or.inl ⟨by rfl, fun w0 hSw => ?_⟩) hH0 ?_
  · (have hS : Below W.heap.size W w0 := hSw; have a0 := cell_keep cG hS; clear hS hSw; go_simp)
  simp only [Act.put, List.setIfInBounds_toArray, List.set_cons_zero, List.set_cons_succ]
  refine wpAnyH_take (i := 2) (oi := { dst := some 136, op := Op.indexAddr 29 (Operand.tmp 135) (Operand.const (Value.int IntKind.i64 0)), type := 0, pos := "outright.go:160", after := #[{ on := 1, ground := Ground.data }], guard := none }) (v := .pointer (some ⟨g, 0, none⟩)) rfl (by kernel_rfl) (by kernel_rfl) (by kernel_rfl) (fun _ _ _ h => h) (Or.inl ⟨by rfl, fun w0 hSw => ?_⟩) hH0 ?_
  · (clear hSw; go_simp)
  simp only [Act.put, List.setIfInBounds_toArray, List.set_cons_zero, List.set_cons_succ]
  refine wpAnyH_take (i := 3) (oi := { dst := some 137, op := Op.fieldAddr 33 (Operand.tmp 136) 0, type := 0, pos := "outright.go:160", after := #[{ on := 2, ground := Ground.data }], guard := none }) (v := .pointer (some ⟨g, 0, none⟩)) rfl (by kernel_rfl) (by kernel_rfl) (by kernel_rfl) (fun _ _ _ h => h) (Or.inl ⟨by rfl, fun w0 hSw => ?_⟩) hH0 ?_
  · (clear hSw; go_simp)
  simp only [Act.put, List.setIfInBounds_toArray, List.set_cons_zero, List.set_cons_succ]
  refine wpAnyH_take (i := 4) (oi := { dst := some 138, op := Op.load 26 (Operand.tmp 137), type := 26, pos := "outright.go:160", after := #[{ on := 3, ground := Ground.data }], guard := none }) (v := .agg #[.int .u64 p.x0, .int .u64 p.x1, .int .u64 p.x2, .int .u64 p.x3]) rfl (by kernel_rfl) (by kernel_rfl) (by kernel_rfl) (fun _ _ _ h => h) (Or.inl ⟨by rfl, fun w0 hSw => ?_⟩) hH0 ?_
  · (have hS : Below W.heap.size W w0 := hSw; have a0 := cell_keep p0 hS; have a1 := cell_keep p1 hS; have a2 := cell_keep p2 hS; have a3 := cell_keep p3 hS; clear hS hSw; go_simp)
  simp only [Act.put, List.setIfInBounds_toArray, List.set_cons_zero, List.set_cons_succ]
  refine wpAnyH_ready (rs := [6]) (by kernel_rfl) (by simp) ?_
  refine AllReadyH.cons (o := { dst := some 140, op := Op.call { callee := Callee.value (Operand.func 12), args := #[Operand.tmp 138, Operand.tmp 139], argTypes := #[26, 26] }, type := 4, pos := "outright.go:160", after := #[{ on := 4, ground := Ground.data }, { on := 5, ground := Ground.data }], guard := none }) rfl (fun K hK => ?_) AllReadyH.nil
  have HH := hidden hH0
  clear hH0
  go_simp
  refine (C1.out _ HH.out).mono ?_
  rintro e wn1 ⟨rfl, hb⟩
  have SN := hidden (bl_trans HH.out hb)
  clear HH C1 hb
  go_wp2_with fail
  refine hK.out _ _ SN.out (fun hH1 => ?_)
  clear hK K SN
  refine wpAnyH_take (i := 7) (oi := { dst := some 141, op := Op.move (Operand.tmp 140), type := 4, pos := "outright.go:160", after := #[{ on := 6, ground := Ground.data }, { on := 6, ground := Ground.chain }], guard := none }) (v := .bool true) rfl (by kernel_rfl) (by kernel_rfl) (by kernel_rfl) (fun _ _ _ h => h) (Or.inl ⟨by rfl, fun w0 hSw => ?_⟩) hH1 ?_
  · (clear hSw; go_simp)
  simp only [Act.put, List.setIfInBounds_toArray, List.set_cons_zero, List.set_cons_succ]
  refine wpAnyH_take (i := 8) (oi := { dst := some 142, op := Op.fieldAddr 35 (Operand.tmp 15) 3, type := 0, pos := "outright.go:160", after := #[{ on := 7, ground := Ground.guard }], guard := some (7, true) }) (v := .pointer (some ⟨T15, 9, none⟩)) rfl (by kernel_rfl) (by kernel_rfl) (by kernel_rfl) (fun _ _ _ h => h) (Or.inl ⟨by rfl, fun w0 hSw => ?_⟩) hH1 ?_
  · (clear hSw; go_simp)
  simp only [Act.put, List.setIfInBounds_toArray, List.set_cons_zero, List.set_cons_succ]
  refine wpAnyH_take (i := 13) (oi := { dst := some 147, op := Op.load 26 (Operand.tmp 22), type := 26, pos := "outright.go:160", after := #[{ on := 7, ground := Ground.guard }], guard := some (7, true) }) (v := .agg #[.int .u64 r.x0, .int .u64 r.x1, .int .u64 r.x2, .int .u64 r.x3]) rfl (by kernel_rfl) (by kernel_rfl) (by kernel_rfl) (fun _ _ _ h => h) (Or.inl ⟨by rfl, fun w0 hSw => ?_⟩) hH1 ?_
  · (have hS : Below W.heap.size W w0 := hSw; have a0 := cell_keep r0 hS; have a1 := cell_keep r1 hS; have a2 := cell_keep r2 hS; have a3 := cell_keep r3 hS; clear hS hSw; go_simp)
  simp only [Act.put, List.setIfInBounds_toArray, List.set_cons_zero, List.set_cons_succ]
  refine wpAnyH_take (i := 9) (oi := { dst := some 143, op := Op.load 29 (Operand.tmp 142), type := 29, pos := "outright.go:160", after := #[{ on := 8, ground := Ground.data }, { on := 7, ground := Ground.guard }], guard := some (7, true) }) (v := .slice (some ⟨h, 0, none⟩) 1 hc) rfl (by kernel_rfl) (by kernel_rfl) (by kernel_rfl) (fun _ _ _ h => h) (Or.inl ⟨by rfl, fun w0 hSw => ?_⟩) hH1 ?_
  · (have hS : Below W.heap.size W w0 := hSw; have a0 := cell_keep cH hS; clear hS hSw; go_simp)
  simp only [Act.put, List.setIfInBounds_toArray, List.set_cons_zero, List.set_cons_succ]
  refine wpAnyH_take (i := 10) (oi := { dst := some 144, op := Op.indexAddr 29 (Operand.tmp 143) (Operand.const (Value.int IntKind.i64 0)), type := 0, pos := "outright.go:160", after := #[{ on := 9, ground := Ground.data }, { on := 7, ground := Ground.guard }], guard := some (7, true) }) (v := .pointer (some ⟨h, 0, none⟩)) rfl (by kernel_rfl) (by kernel_rfl) (by kernel_rfl) (fun _ _ _ h => h) (Or.inl ⟨by rfl, fun w0 hSw => ?_⟩) hH1 ?_
  · (clear hSw; go_simp)
  simp only [Act.put, List.setIfInBounds_toArray, List.set_cons_zero, List.set_cons_succ]
  refine wpAnyH_take (i := 11) (oi := { dst := some 145, op := Op.fieldAddr 33 (Operand.tmp 144) 0, type := 0, pos := "outright.go:160", after := #[{ on := 10, ground := Ground.data }, { on := 7, ground := Ground.guard }], guard := some (7, true) }) (v := .pointer (some ⟨h, 0, none⟩)) rfl (by kernel_rfl) (by kernel_rfl) (by kernel_rfl) (fun _ _ _ h => h) (Or.inl ⟨by rfl, fun w0 hSw => ?_⟩) hH1 ?_
  · (clear hSw; go_simp)
  simp only [Act.put, List.setIfInBounds_toArray, List.set_cons_zero, List.set_cons_succ]
  refine wpAnyH_take (i := 12) (oi := { dst := some 146, op := Op.load 26 (Operand.tmp 145), type := 26, pos := "outright.go:160", after := #[{ on := 11, ground := Ground.data }, { on := 7, ground := Ground.guard }], guard := some (7, true) }) (v := .agg #[.int .u64 q.x0, .int .u64 q.x1, .int .u64 q.x2, .int .u64 q.x3]) rfl (by kernel_rfl) (by kernel_rfl) (by kernel_rfl) (fun _ _ _ h => h) (Or.inl ⟨by rfl, fun w0 hSw => ?_⟩) hH1 ?_
  · (have hS : Below W.heap.size W w0 := hSw; have a0 := cell_keep q0 hS; have a1 := cell_keep q1 hS; have a2 := cell_keep q2 hS; have a3 := cell_keep q3 hS; clear hS hSw; go_simp)
  simp only [Act.put, List.setIfInBounds_toArray, List.set_cons_zero, List.set_cons_succ]
  refine wpAnyH_ready (rs := [14]) (by kernel_rfl) (by simp) ?_
  refine AllReadyH.cons (o := { dst := some 148, op := Op.call { callee := Callee.value (Operand.func 12), args := #[Operand.tmp 146, Operand.tmp 147], argTypes := #[26, 26] }, type := 4, pos := "outright.go:160", after := #[{ on := 12, ground := Ground.data }, { on := 13, ground := Ground.data }, { on := 7, ground := Ground.chain }, { on := 7, ground := Ground.guard }], guard := some (7, true) }) rfl (fun K hK => ?_) AllReadyH.nil
  have HH := hidden hH1
  clear hH1
  go_simp
  refine (C2.out _ HH.out).mono ?_
  rintro e wn2 ⟨rfl, hb⟩
  have SN := hidden (bl_trans HH.out hb)
  clear HH C2 hb
  go_wp2_with fail
  refine hK.out _ _ SN.out (fun hH2 => ?_)
  clear hK K SN
  refine wpAnyH_take (i := 15) (oi := { dst := some 149, op := Op.pick (Operand.tmp 141) (Operand.tmp 148) (Operand.const (Value.bool false)), type := 4, pos := "outright.go:160", after := #[{ on := 7, ground := Ground.data }, { on := 14, ground := Ground.data }], guard := none }) (v := .bool true) rfl (by kernel_rfl) (by kernel_rfl) (by kernel_rfl) (fun _ _ _ h => h) (Or.inl ⟨by rfl, fun w0 hSw => ?_⟩) hH2 ?_
  · (clear hSw; go_simp)
  simp only [Act.put, List.setIfInBounds_toArray, List.set_cons_zero, List.set_cons_succ]
  refine wpAnyH_take (i := 16) (oi := { dst := some 6, op := Op.assign (Operand.tmp 149), type := 4, pos := "outright.go:160", after := #[{ on := 15, ground := Ground.data }, { on := 14, ground := Ground.chain }, { on := 0, ground := Ground.phase }, { on := 1, ground := Ground.phase }, { on := 2, ground := Ground.phase }, { on := 3, ground := Ground.phase }, { on := 4, ground := Ground.phase }, { on := 5, ground := Ground.phase }, { on := 6, ground := Ground.phase }, { on := 7, ground := Ground.phase }, { on := 8, ground := Ground.phase }, { on := 9, ground := Ground.phase }, { on := 10, ground := Ground.phase }, { on := 11, ground := Ground.phase }, { on := 12, ground := Ground.phase }, { on := 13, ground := Ground.phase }, { on := 14, ground := Ground.phase }, { on := 15, ground := Ground.phase }], guard := none }) (v := .bool true) rfl (by kernel_rfl) (by kernel_rfl) (by kernel_rfl) (fun _ _ _ h => h) (Or.inl ⟨by rfl, fun w0 hSw => ?_⟩) hH2 ?_
  · (clear hSw; go_simp)
  simp only [Act.put, List.setIfInBounds_toArray, List.set_cons_zero, List.set_cons_succ]
  have HH := hidden hH2
  have FQ := hidden (HQ.out _ HH.out)
  refine wpAnyH_done (by kernel_rfl) ?_ _
  refine NoPanic.normal ?_
  exact FQ.out
end Rp
end Go.Proofs.YtaejedhdpilhjaaDoor
namespace Go.Proofs.YtaejedhdpilhjaaDoor
namespace Rp
open Go.RowKit
set_option linter.unusedVariables false
set_option linter.unusedSimpArgs false
theorem iAT : (Tryd.prog.info? 31).map (·.size) = some 10 := by kernel_rfl
theorem oneA (P1 P2 : Option Addr) (n1 c1 n2 c2 : Nat) : ([.slice P1 n1 c1, .slice P2 n2 c2, .int .u64 0, .int .u64 0, .int .u64 0, .int .u64 0, .int .u64 0, .int .u64 0, .int .u64 0, .int .u64 0] : List Value).toArray.all (·.oneCell') = true := by simp [Value.oneCell']
theorem wp_makeL {k : Nat} (hk : k ≤ 10) {o : Oper} {a : Act} {w : World} {K : Act → World → Prop} {Q : Exit → Act → World → Prop} {x y : Operand} (ho : o.op = .makeSlice 29 x y) (hx : a.eval x = .int .i64 (k : Int)) (hy : a.eval y = .int .i64 (k : Int))
    (h : ∀ (n1 : Nat) (w1 : World), Rl w1 n1 0 k (fun _ => zero4) → w.heap.size ≤ n1 → n1 < w1.heap.size → Below w.heap.size w w1 → K (a.put o.dst (.slice (some ⟨n1, 0, none⟩) k k)) w1) : o.wp Tryd.prog a w K Q := by
  obtain ⟨i0, hi, hz0, hz1, hz2⟩ := info_parts linfoJ
  have hmk := run_make (P := Tryd.prog) w 29 33 i0 (.agg #[.int .u64 0, .int .u64 0, .int .u64 0, .int .u64 0]) (by kernel_rfl) hi hz0 .i64 .i64 (k : Int) (k : Int) (by omega) (Int.le_refl _) (by rw [hz2]; omega) (by omega)
  simp only [Int.toNat_natCast, hz1] at hmk
  have hk' := h w.heap.size _ (rws_rl (Rws.made w k 33)) (Nat.le_refl _) (by simp) (bl_alloc w (.cells (madeCells #[.int .u64 0, .int .u64 0, .int .u64 0, .int .u64 0] (k * 4)) 33))
  unfold Oper.wp execOp
  simp only [ho, hx, hy]
  go_simp
  exact hk'
theorem wp_allocA {o : Oper} {a : Act} {w : World} {K : Act → World → Prop} {Q : Exit → Act → World → Prop} (ho : o.op = .alloc 31)
    (h : ∀ (tb : Nat) (w1 : World), w.heap.size ≤ tb → Below w.heap.size w w1 → w1.rangeAt tb 0 [.slice none 0 0, .slice none 0 0, .int .u64 0, .int .u64 0, .int .u64 0, .int .u64 0, .int .u64 0, .int .u64 0, .int .u64 0, .int .u64 0] → w1.there tb 0 10 → K (a.put o.dst (.pointer (some ⟨tb, 0, none⟩))) w1) : o.wp Tryd.prog a w K Q := by
  have hz : (zeroValue 31).run Tryd.prog w = .ok (.agg [.slice none 0 0, .slice none 0 0, .int .u64 0, .int .u64 0, .int .u64 0, .int .u64 0, .int .u64 0, .int .u64 0, .int .u64 0, .int .u64 0].toArray) w := by kernel_rfl
  have hk := h w.heap.size (w.alloc (.cells [.slice none 0 0, .slice none 0 0, .int .u64 0, .int .u64 0, .int .u64 0, .int .u64 0, .int .u64 0, .int .u64 0, .int .u64 0, .int .u64 0].toArray 31)) (Nat.le_refl _) (bl_alloc _ _) (range_newM w [.slice none 0 0, .slice none 0 0, .int .u64 0, .int .u64 0, .int .u64 0, .int .u64 0, .int .u64 0, .int .u64 0, .int .u64 0, .int .u64 0] 31) (there_newM w [.slice none 0 0, .slice none 0 0, .int .u64 0, .int .u64 0, .int .u64 0, .int .u64 0, .int .u64 0, .int .u64 0, .int .u64 0, .int .u64 0] 31)
  clear h
  generalize ([.slice none 0 0, .slice none 0 0, .int .u64 0, .int .u64 0, .int .u64 0, .int .u64 0, .int .u64 0, .int .u64 0, .int .u64 0, .int .u64 0] : List Value) = z at hz hk
  unfold Oper.wp execOp
  simp [ho, Instr.alloc, hz]
  exact hk
def lw13o : Array Oper := #[{ dst := some 55, op := Op.move (Operand.tmp 7), type := 3, pos := "outright.go:140", after := #[], guard := none },
  { dst := some 56, op := Op.makeSlice 29 (Operand.tmp 55) (Operand.tmp 55), type := 29, pos := "outright.go:140", after := #[{ on := 0, ground := Ground.data }, { on := 0, ground := Ground.data }], guard := none },
  { dst := some 57, op := Op.move (Operand.tmp 7), type := 3, pos := "outright.go:140", after := #[], guard := none },
  { dst := some 58, op := Op.makeSlice 29 (Operand.tmp 57) (Operand.tmp 57), type := 29, pos := "outright.go:140", after := #[{ on := 2, ground := Ground.data }, { on := 2, ground := Ground.data }], guard := none },
  { dst := some 59, op := Op.build 31 #[(0, Operand.tmp 56), (1, Operand.tmp 58)], type := 31, pos := "outright.go:140", after := #[{ on := 1, ground := Ground.data }, { on := 3, ground := Ground.data }], guard := none },
  { dst := some 14, op := Op.alloc 31, type := 0, pos := "outright.go:140", after := #[], guard := none },
  { dst := none, op := Op.store 31 (Operand.tmp 14) (Operand.tmp 59), type := 0, pos := "outright.go:140", after := #[{ on := 5, ground := Ground.data }, { on := 4, ground := Ground.data }, { on := 0, ground := Ground.phase }, { on := 1, ground := Ground.phase }, { on := 2, ground := Ground.phase }, { on := 3, ground := Ground.phase }, { on := 4, ground := Ground.phase }, { on := 5, ground := Ground.phase }], guard := none }]
set_option maxRecDepth 100000 in
set_option maxHeartbeats 16000000 in
theorem lw13 (Q : Exit → Act → World → Prop) (k : Nat) (u0 u1 u2 u3 u4 u5 u6 u8 u9 u10 u11 u12 u13 u14 u15 u16 u17 u18 u19 u20 u21 u22 u23 u24 u25 u26 u27 u28 u29 u30 u31 u32 u33 u34 u35 u36 u37 u38 u39 u40 u41 u42 u43 u44 u45 u46 u47 u48 u49 u50 u51 u52 u53 u54 u55 u56 u57 u58 u59 u60 u61 u62 u63 u64 u65 u66 u67 u68 u69 u70 u71 u72 u73 u74 u75 u76 u77 u78 u79 u80 u81 u82 u83 u84 u85 u86 u87 u88 u89 u90 u91 u92 u93 u94 u95 u96 u97 u98 u99 u100 u101 u102 u103 u104 u105 u106 u107 u108 u109 u110 u111 u112 u113 u114 u115 u116 u117 u118 u119 u120 u121 u122 u123 u124 u125 u126 u127 u128 u129 u130 u131 u132 u133 u134 u135 u136 u137 u138 u139 u140 u141 u142 u143 u144 u145 u146 u147 u148 u149 : Value) (W : World)
    (hk : k ≤ 10)
    (HQ : Hid (∀ (n1 n2 tb : Nat) (wz : World), W.heap.size ≤ tb → (∃ wy, Below W.heap.size W wy ∧ (Rl wy n1 0 k (fun _ => zero4) ∧ W.heap.size ≤ n1 ∧ n1 < wy.heap.size) ∧ (Rl wy n2 0 k (fun _ => zero4) ∧ W.heap.size ≤ n2 ∧ n2 < wy.heap.size) ∧ wy.there tb 0 10 ∧ wy.rangeAt tb 0 [.slice none 0 0, .slice none 0 0, .int .u64 0, .int .u64 0, .int .u64 0, .int .u64 0, .int .u64 0, .int .u64 0, .int .u64 0, .int .u64 0] ∧ wz = wy.setCells tb 0 [.slice (some ⟨n1, 0, none⟩) k k, .slice (some ⟨n2, 0, none⟩) k k, .int .u64 0, .int .u64 0, .int .u64 0, .int .u64 0, .int .u64 0, .int .u64 0, .int .u64 0, .int .u64 0]) → Q .normal ⟨#[u0, u1, u2, u3, u4, u5, u6, .int .i64 (k : Int), u8, u9, u10, u11, u12, u13, .pointer (some ⟨tb, 0, none⟩), u15, u16, u17, u18, u19, u20, u21, u22, u23, u24, u25, u26, u27, u28, u29, u30, u31, u32, u33, u34, u35, u36, u37, u38, u39, u40, u41, u42, u43, u44, u45, u46, u47, u48, u49, u50, u51, u52, u53, u54, .int .i64 (k : Int), .slice (some ⟨n1, 0, none⟩) k k, .int .i64 (k : Int), .slice (some ⟨n2, 0, none⟩) k k, .agg [.slice (some ⟨n1, 0, none⟩) k k, .slice (some ⟨n2, 0, none⟩) k k, .int .u64 0, .int .u64 0, .int .u64 0, .int .u64 0, .int .u64 0, .int .u64 0, .int .u64 0, .int .u64 0].toArray, u60, u61, u62, u63, u64, u65, u66, u67, u68, u69, u70, u71, u72, u73, u74, u75, u76, u77, u78, u79, u80, u81, u82, u83, u84, u85, u86, u87, u88, u89, u90, u91, u92, u93, u94, u95, u96, u97, u98, u99, u100, u101, u102, u103, u104, u105, u106, u107, u108, u109, u110, u111, u112, u113, u114, u115, u116, u117, u118, u119, u120, u121, u122, u123, u124, u125, u126, u127, u128, u129, u130, u131, u132, u133, u134, u135, u136, u137, u138, u139, u140, u141, u142, u143, u144, u145, u146, u147, u148, u149], []⟩ wz)) : (Code.region 13 lw13o true).wp Tryd.prog Q ⟨#[u0, u1, u2, u3, u4, u5, u6, .int .i64 (k : Int), u8, u9, u10, u11, u12, u13, u14, u15, u16, u17, u18, u19, u20, u21, u22, u23, u24, u25, u26, u27, u28, u29, u30, u31, u32, u33, u34, u35, u36, u37, u38, u39, u40, u41, u42, u43, u44, u45, u46, u47, u48, u49, u50, u51, u52, u53, u54, u55, u56, u57, u58, u59, u60, u61, u62, u63, u64, u65, u66, u67, u68, u69, u70, u71, u72, u73, u74, u75, u76, u77, u78, u79, u80, u81, u82, u83, u84, u85, u86, u87, u88, u89, u90, u91, u92, u93, u94, u95, u96, u97, u98, u99, u100, u101, u102, u103, u104, u105, u106, u107, u108, u109, u110, u111, u112, u113, u114, u115, u116, u117, u118, u119, u120, u121, u122, u123, u124, u125, u126, u127, u128, u129, u130, u131, u132, u133, u134, u135, u136, u137, u138, u139, u140, u141, u142, u143, u144, u145, u146, u147, u148, u149], []⟩ W := by
  unfold lw13o
  refine wp_region_noPanic ?_
  refine wp_region_held_drew (S := fun x => Below W.heap.size W x) (by kernel_rfl) (bl_drewR W) (fun hH0 => ?_)
  refine wpAnyH_take (i := 0) (oi := { dst := some 55, op := Op.move (Operand.tmp 7), type := 3, pos := "outright.go:140", after := #[], guard := none }) (v := .int .i64 (k : Int)) rfl (by kernel_rfl) (by kernel_rfl) (by kernel_rfl) (fun _ _ _ h => h) (Or.inl ⟨by rfl, fun w0 hSw => ?_⟩) hH0 ?_
  · (clear hSw; go_simp)
  simp only [Act.put, List.setIfInBounds_toArray, List.set_cons_zero, List.set_cons_succ]
  refine wpAnyH_take (i := 2) (oi := { dst := some 57, op := Op.move (Operand.tmp 7), type := 3, pos := "outright.go:140", after := #[], guard := none }) (v := .int .i64 (k : Int)) rfl (by kernel_rfl) (by kernel_rfl) (by kernel_rfl) (fun _ _ _ h => h) (Or.inl ⟨by rfl, fun w0 hSw => ?_⟩) hH0 ?_
  · (clear hSw; go_simp)
  simp only [Act.put, List.setIfInBounds_toArray, List.set_cons_zero, List.set_cons_succ]
  refine wpAnyH_ready (rs := [1, 3, 5]) (by kernel_rfl) (by simp) ?_
  refine AllReadyH.cons (o := { dst := some 56, op := Op.makeSlice 29 (Operand.tmp 55) (Operand.tmp 55), type := 29, pos := "outright.go:140", after := #[{ on := 0, ground := Ground.data }, { on := 0, ground := Ground.data }], guard := none }) rfl (fun K hK => ?_) (AllReadyH.cons (o := { dst := some 58, op := Op.makeSlice 29 (Operand.tmp 57) (Operand.tmp 57), type := 29, pos := "outright.go:140", after := #[{ on := 2, ground := Ground.data }, { on := 2, ground := Ground.data }], guard := none }) rfl (fun K hK => ?_) (AllReadyH.cons (o := { dst := some 14, op := Op.alloc 31, type := 0, pos := "outright.go:140", after := #[], guard := none }) rfl (fun K hK => ?_) AllReadyH.nil))
  · have HH := hidden hH0
    clear hH0
    refine wp_makeL hk (x := .tmp 55) (y := .tmp 55) rfl rfl rfl (fun n1 wn1 hr hn hl hb => ?_)
    have G1 := hidden (And.intro hr (And.intro (Nat.le_trans HH.out.size hn) hl))
    have SN := hidden (bl_trans HH.out hb)
    clear HH hr hn hl hb
    simp only [Act.put, List.setIfInBounds_toArray, List.set_cons_zero, List.set_cons_succ]
    refine hK.out _ _ SN.out (fun hH1 => ?_)
    clear hK K SN
    refine wpAnyH_ready (rs := [3, 5]) (by kernel_rfl) (by simp) ?_
    refine AllReadyH.cons (o := { dst := some 58, op := Op.makeSlice 29 (Operand.tmp 57) (Operand.tmp 57), type := 29, pos := "outright.go:140", after := #[{ on := 2, ground := Ground.data }, { on := 2, ground := Ground.data }], guard := none }) rfl (fun K hK => ?_) (AllReadyH.cons (o := { dst := some 14, op := Op.alloc 31, type := 0, pos := "outright.go:140", after := #[], guard := none }) rfl (fun K hK => ?_) AllReadyH.nil)
    · have HH := hidden hH1
      clear hH1
      refine wp_makeL hk (x := .tmp 57) (y := .tmp 57) rfl rfl rfl (fun n2 wn2 hr hn hl hb => ?_)
      have G2 := hidden (And.intro hr (And.intro (Nat.le_trans HH.out.size hn) hl))
      replace G1 := hidden (And.intro (G1.out.1.keep hb) (And.intro G1.out.2.1 (Nat.lt_of_lt_of_le G1.out.2.2 hb.size)))
      have SN := hidden (bl_trans HH.out hb)
      clear HH hr hn hl hb
      simp only [Act.put, List.setIfInBounds_toArray, List.set_cons_zero, List.set_cons_succ]
      refine hK.out _ _ SN.out (fun hH2 => ?_)
      clear hK K SN
      refine wpAnyH_take (i := 4) (oi := { dst := some 59, op := Op.build 31 #[(0, Operand.tmp 56), (1, Operand.tmp 58)], type := 31, pos := "outright.go:140", after := #[{ on := 1, ground := Ground.data }, { on := 3, ground := Ground.data }], guard := none }) (v := .agg [.slice (some ⟨n1, 0, none⟩) k k, .slice (some ⟨n2, 0, none⟩) k k, .int .u64 0, .int .u64 0, .int .u64 0, .int .u64 0, .int .u64 0, .int .u64 0, .int .u64 0, .int .u64 0].toArray) rfl (by kernel_rfl) (by kernel_rfl) (by kernel_rfl) (fun _ _ _ h => h) (Or.inl ⟨by rfl, fun w0 hSw => ?_⟩) hH2 ?_
      · (clear hSw; go_simp)
      simp only [Act.put, List.setIfInBounds_toArray, List.set_cons_zero, List.set_cons_succ]
      refine wpAnyH_ready (rs := [5]) (by kernel_rfl) (by simp) ?_
      refine AllReadyH.cons (o := { dst := some 14, op := Op.alloc 31, type := 0, pos := "outright.go:140", after := #[], guard := none }) rfl (fun K hK => ?_) AllReadyH.nil
      have HH := hidden hH2
      clear hH2
      refine wp_allocA rfl (fun tb wn3 ht hb hr hh => ?_)
      have NH := hidden (hh)
      have NR := hidden (hr)
      have TL := hidden (Nat.le_trans HH.out.size ht)
      replace G1 := hidden (And.intro (G1.out.1.keep hb) (And.intro G1.out.2.1 (Nat.lt_of_lt_of_le G1.out.2.2 hb.size)))
      replace G2 := hidden (And.intro (G2.out.1.keep hb) (And.intro G2.out.2.1 (Nat.lt_of_lt_of_le G2.out.2.2 hb.size)))
      have SN := hidden (bl_trans HH.out hb)
      clear HH ht hb hr hh
      simp only [Act.put, List.setIfInBounds_toArray, List.set_cons_zero, List.set_cons_succ]
      refine hK.out _ _ SN.out (fun hH3 => ?_)
      clear hK K SN
      refine wpAnyH_ready (rs := [6]) (by kernel_rfl) (by simp) ?_
      refine AllReadyH.cons (o := { dst := none, op := Op.store 31 (Operand.tmp 14) (Operand.tmp 59), type := 0, pos := "outright.go:140", after := #[{ on := 5, ground := Ground.data }, { on := 4, ground := Ground.data }, { on := 0, ground := Ground.phase }, { on := 1, ground := Ground.phase }, { on := 2, ground := Ground.phase }, { on := 3, ground := Ground.phase }, { on := 4, ground := Ground.phase }, { on := 5, ground := Ground.phase }], guard := none }) rfl (fun K hK => ?_) AllReadyH.nil
      have HH := hidden hH3
      clear hH3
      refine wp_storeE 31 _ _ rfl tb 0 ([.slice (some ⟨n1, 0, none⟩) k k, .slice (some ⟨n2, 0, none⟩) k k, .int .u64 0, .int .u64 0, .int .u64 0, .int .u64 0, .int .u64 0, .int .u64 0, .int .u64 0, .int .u64 0]) (by rfl) (by rfl) NH.out iAT (oneA _ _ _ _ _ _) rfl (fun wn4 hw => ?_)
      have SN := hidden (below_box HH.out (gb_setCells tb [.slice (some ⟨n1, 0, none⟩) k k, .slice (some ⟨n2, 0, none⟩) k k, .int .u64 0, .int .u64 0, .int .u64 0, .int .u64 0, .int .u64 0, .int .u64 0, .int .u64 0, .int .u64 0] 0 _) TL.out)
      have FE := hidden ((⟨_, HH.out, G1.out, G2.out, NH.out, NR.out, hw⟩ : ∃ wy, Below W.heap.size W wy ∧ (Rl wy n1 0 k (fun _ => zero4) ∧ W.heap.size ≤ n1 ∧ n1 < wy.heap.size) ∧ (Rl wy n2 0 k (fun _ => zero4) ∧ W.heap.size ≤ n2 ∧ n2 < wy.heap.size) ∧ wy.there tb 0 10 ∧ wy.rangeAt tb 0 [.slice none 0 0, .slice none 0 0, .int .u64 0, .int .u64 0, .int .u64 0, .int .u64 0, .int .u64 0, .int .u64 0, .int .u64 0, .int .u64 0] ∧ _ = wy.setCells tb 0 [.slice (some ⟨n1, 0, none⟩) k k, .slice (some ⟨n2, 0, none⟩) k k, .int .u64 0, .int .u64 0, .int .u64 0, .int .u64 0, .int .u64 0, .int .u64 0, .int .u64 0, .int .u64 0]))
      rw [← hw] at SN
      clear HH hw
      refine hK.out _ _ SN.out (fun hH4 => ?_)
      clear hK K SN
      have HH := hidden hH4
      have FQ := hidden (HQ.out n1 n2 tb _ TL.out FE.out)
      refine wpAnyH_done (by kernel_rfl) ?_ _
      refine NoPanic.normal ?_
      exact FQ.out
    · have HH := hidden hH1
      clear hH1
      refine wp_allocA rfl (fun tb wn2 ht hb hr hh => ?_)
      have NH := hidden (hh)
      have NR := hidden (hr)
      have TL := hidden (Nat.le_trans HH.out.size ht)
      replace G1 := hidden (And.intro (G1.out.1.keep hb) (And.intro G1.out.2.1 (Nat.lt_of_lt_of_le G1.out.2.2 hb.size)))
      have SN := hidden (bl_trans HH.out hb)
      clear HH ht hb hr hh
      simp only [Act.put, List.setIfInBounds_toArray, List.set_cons_zero, List.set_cons_succ]
      refine hK.out _ _ SN.out (fun hH2 => ?_)
      clear hK K SN
      refine wpAnyH_ready (rs := [3]) (by kernel_rfl) (by simp) ?_
      refine AllReadyH.cons (o := { dst := some 58, op := Op.makeSlice 29 (Operand.tmp 57) (Operand.tmp 57), type := 29, pos := "outright.go:140", after := #[{ on := 2, ground := Ground.data }, { on := 2, ground := Ground.data }], guard := none }) rfl (fun K hK => ?_) AllReadyH.nil
      have HH := hidden hH2
      clear hH2
      refine wp_makeL hk (x := .tmp 57) (y := .tmp 57) rfl rfl rfl (fun n2 wn3 hr hn hl hb => ?_)
      have G2 := hidden (And.intro hr (And.intro (Nat.le_trans HH.out.size hn) hl))
      replace G1 := hidden (And.intro (G1.out.1.keep hb) (And.intro G1.out.2.1 (Nat.lt_of_lt_of_le G1.out.2.2 hb.size)))
      replace NH := hidden (there_keepM NH.out hb)
      replace NR := hidden (range_keepM NR.out hb)
      have SN := hidden (bl_trans HH.out hb)
      clear HH hr hn hl hb
      simp only [Act.put, List.setIfInBounds_toArray, List.set_cons_zero, List.set_cons_succ]
      refine hK.out _ _ SN.out (fun hH3 => ?_)
      clear hK K SN
      refine wpAnyH_take (i := 4) (oi := { dst := some 59, op := Op.build 31 #[(0, Operand.tmp 56), (1, Operand.tmp 58)], type := 31, pos := "outright.go:140", after := #[{ on := 1, ground := Ground.data }, { on := 3, ground := Ground.data }], guard := none }) (v := .agg [.slice (some ⟨n1, 0, none⟩) k k, .slice (some ⟨n2, 0, none⟩) k k, .int .u64 0, .int .u64 0, .int .u64 0, .int .u64 0, .int .u64 0, .int .u64 0, .int .u64 0, .int .u64 0].toArray) rfl (by kernel_rfl) (by kernel_rfl) (by kernel_rfl) (fun _ _ _ h => h) (Or.inl ⟨by rfl, fun w0 hSw => ?_⟩) hH3 ?_
      · (clear hSw; go_simp)
      simp only [Act.put, List.setIfInBounds_toArray, List.set_cons_zero, List.set_cons_succ]
      refine wpAnyH_ready (rs := [6]) (by kernel_rfl) (by simp) ?_
      refine AllReadyH.cons (o := { dst := none, op := Op.store 31 (Operand.tmp 14) (Operand.tmp 59), type := 0, pos := "outright.go:140", after := #[{ on := 5, ground := Ground.data }, { on := 4, ground := Ground.data }, { on := 0, ground := Ground.phase }, { on := 1, ground := Ground.phase }, { on := 2, ground := Ground.phase }, { on := 3, ground := Ground.phase }, { on := 4, ground := Ground.phase }, { on := 5, ground := Ground.phase }], guard := none }) rfl (fun K hK => ?_) AllReadyH.nil
      have HH := hidden hH3
      clear hH3
      refine wp_storeE 31 _ _ rfl tb 0 ([.slice (some ⟨n1, 0, none⟩) k k, .slice (some ⟨n2, 0, none⟩) k k, .int .u64 0, .int .u64 0, .int .u64 0, .int .u64 0, .int .u64 0, .int .u64 0, .int .u64 0, .int .u64 0]) (by rfl) (by rfl) NH.out iAT (oneA _ _ _ _ _ _) rfl (fun wn4 hw => ?_)
      have SN := hidden (below_box HH.out (gb_setCells tb [.slice (some ⟨n1, 0, none⟩) k k, .slice (some ⟨n2, 0, none⟩) k k, .int .u64 0, .int .u64 0, .int .u64 0, .int .u64 0, .int .u64 0, .int .u64 0, .int .u64 0, .int .u64 0] 0 _) TL.out)
      have FE := hidden ((⟨_, HH.out, G1.out, G2.out, NH.out, NR.out, hw⟩ : ∃ wy, Below W.heap.size W wy ∧ (Rl wy n1 0 k (fun _ => zero4) ∧ W.heap.size ≤ n1 ∧ n1 < wy.heap.size) ∧ (Rl wy n2 0 k (fun _ => zero4) ∧ W.heap.size ≤ n2 ∧ n2 < wy.heap.size) ∧ wy.there tb 0 10 ∧ wy.rangeAt tb 0 [.slice none 0 0, .slice none 0 0, .int .u64 0, .int .u64 0, .int .u64 0, .int .u64 0, .int .u64 0, .int .u64 0, .int .u64 0, .int .u64 0] ∧ _ = wy.setCells tb 0 [.slice (some ⟨n1, 0, none⟩) k k, .slice (some ⟨n2, 0, none⟩) k k, .int .u64 0, .int .u64 0, .int .u64 0, .int .u64 0, .int .u64 0, .int .u64 0, .int .u64 0, .int .u64 0]))
      rw [← hw] at SN
      clear HH hw
      refine hK.out _ _ SN.out (fun hH4 => ?_)
      clear hK K SN
      have HH := hidden hH4
      have FQ := hidden (HQ.out n1 n2 tb _ TL.out FE.out)
      refine wpAnyH_done (by kernel_rfl) ?_ _
      refine NoPanic.normal ?_
      exact FQ.out
  · have HH := hidden hH0
    clear hH0
    refine wp_makeL hk (x := .tmp 57) (y := .tmp 57) rfl rfl rfl (fun n2 wn1 hr hn hl hb => ?_)
    have G2 := hidden (And.intro hr (And.intro (Nat.le_trans HH.out.size hn) hl))
    have SN := hidden (bl_trans HH.out hb)
    clear HH hr hn hl hb
    simp only [Act.put, List.setIfInBounds_toArray, List.set_cons_zero, List.set_cons_succ]
    refine hK.out _ _ SN.out (fun hH1 => ?_)
    clear hK K SN
    refine wpAnyH_ready (rs := [1, 5]) (by kernel_rfl) (by simp) ?_
    refine AllReadyH.cons (o := { dst := some 56, op := Op.makeSlice 29 (Operand.tmp 55) (Operand.tmp 55), type := 29, pos := "outright.go:140", after := #[{ on := 0, ground := Ground.data }, { on := 0, ground := Ground.data }], guard := none }) rfl (fun K hK => ?_) (AllReadyH.cons (o := { dst := some 14, op := Op.alloc 31, type := 0, pos := "outright.go:140", after := #[], guard := none }) rfl (fun K hK => ?_) AllReadyH.nil)
    · have HH := hidden hH1
      clear hH1
      refine wp_makeL hk (x := .tmp 55) (y := .tmp 55) rfl rfl rfl (fun n1 wn2 hr hn hl hb => ?_)
      have G1 := hidden (And.intro hr (And.intro (Nat.le_trans HH.out.size hn) hl))
      replace G2 := hidden (And.intro (G2.out.1.keep hb) (And.intro G2.out.2.1 (Nat.lt_of_lt_of_le G2.out.2.2 hb.size)))
      have SN := hidden (bl_trans HH.out hb)
      clear HH hr hn hl hb
      simp only [Act.put, List.setIfInBounds_toArray, List.set_cons_zero, List.set_cons_succ]
      refine hK.out _ _ SN.out (fun hH2 => ?_)
      clear hK K SN
      refine wpAnyH_take (i := 4) (oi := { dst := some 59, op := Op.build 31 #[(0, Operand.tmp 56), (1, Operand.tmp 58)], type := 31, pos := "outright.go:140", after := #[{ on := 1, ground := Ground.data }, { on := 3, ground := Ground.data }], guard := none }) (v := .agg [.slice (some ⟨n1, 0, none⟩) k k, .slice (some ⟨n2, 0, none⟩) k k, .int .u64 0, .int .u64 0, .int .u64 0, .int .u64 0, .int .u64 0, .int .u64 0, .int .u64 0, .int .u64 0].toArray) rfl (by kernel_rfl) (by kernel_rfl) (by kernel_rfl) (fun _ _ _ h => h) (Or.inl ⟨by rfl, fun w0 hSw => ?_⟩) hH2 ?_
      · (clear hSw; go_simp)
      simp only [Act.put, List.setIfInBounds_toArray, List.set_cons_zero, List.set_cons_succ]
      refine wpAnyH_ready (rs := [5]) (by kernel_rfl) (by simp) ?_
      refine AllReadyH.cons (o := { dst := some 14, op := Op.alloc 31, type := 0, pos := "outright.go:140", after := #[], guard := none }) rfl (fun K hK => ?_) AllReadyH.nil
      have HH := hidden hH2
      clear hH2
      refine wp_allocA rfl (fun tb wn3 ht hb hr hh => ?_)
      have NH := hidden (hh)
      have NR := hidden (hr)
      have TL := hidden (Nat.le_trans HH.out.size ht)
      replace G1 := hidden (And.intro (G1.out.1.keep hb) (And.intro G1.out.2.1 (Nat.lt_of_lt_of_le G1.out.2.2 hb.size)))
      replace G2 := hidden (And.intro (G2.out.1.keep hb) (And.intro G2.out.2.1 (Nat.lt_of_lt_of_le G2.out.2.2 hb.size)))
      have SN := hidden (bl_trans HH.out hb)
      clear HH ht hb hr hh
      simp only [Act.put, List.setIfInBounds_toArray, List.set_cons_zero, List.set_cons_succ]
      refine hK.out _ _ SN.out (fun hH3 => ?_)
      clear hK K SN
      refine wpAnyH_ready (rs := [6]) (by kernel_rfl) (by simp) ?_
      refine AllReadyH.cons (o := { dst := none, op := Op.store 31 (Operand.tmp 14) (Operand.tmp 59), type := 0, pos := "outright.go:140", after := #[{ on := 5, ground := Ground.data }, { on := 4, ground := Ground.data }, { on := 0, ground := Ground.phase }, { on := 1, ground := Ground.phase }, { on := 2, ground := Ground.phase }, { on := 3, ground := Ground.phase }, { on := 4, ground := Ground.phase }, { on := 5, ground := Ground.phase }], guard := none }) rfl (fun K hK => ?_) AllReadyH.nil
      have HH := hidden hH3
      clear hH3
      refine wp_storeE 31 _ _ rfl tb 0 ([.slice (some ⟨n1, 0, none⟩) k k, .slice (some ⟨n2, 0, none⟩) k k, .int .u64 0, .int .u64 0, .int .u64 0, .int .u64 0, .int .u64 0, .int .u64 0, .int .u64 0, .int .u64 0]) (by rfl) (by rfl) NH.out iAT (oneA _ _ _ _ _ _) rfl (fun wn4 hw => ?_)
      have SN := hidden (below_box HH.out (gb_setCells tb [.slice (some ⟨n1, 0, none⟩) k k, .slice (some ⟨n2, 0, none⟩) k k, .int .u64 0, .int .u64 0, .int .u64 0, .int .u64 0, .int .u64 0, .int .u64 0, .int .u64 0, .int .u64 0] 0 _) TL.out)
      have FE := hidden ((⟨_, HH.out, G1.out, G2.out, NH.out, NR.out, hw⟩ : ∃ wy, Below W.heap.size W wy ∧ (Rl wy n1 0 k (fun _ => zero4) ∧ W.heap.size ≤ n1 ∧ n1 < wy.heap.size) ∧ (Rl wy n2 0 k (fun _ => zero4) ∧ W.heap.size ≤ n2 ∧ n2 < wy.heap.size) ∧ wy.there tb 0 10 ∧ wy.rangeAt tb 0 [.slice none 0 0, .slice none 0 0, .int .u64 0, .int .u64 0, .int .u64 0, .int .u64 0, .int .u64 0, .int .u64 0, .int .u64 0, .int .u64 0] ∧ _ = wy.setCells tb 0 [.slice (some ⟨n1, 0, none⟩) k k, .slice (some ⟨n2, 0, none⟩) k k, .int .u64 0, .int .u64 0, .int .u64 0, .int .u64 0, .int .u64 0, .int .u64 0, .int .u64 0, .int .u64 0]))
      rw [← hw] at SN
      clear HH hw
      refine hK.out _ _ SN.out (fun hH4 => ?_)
      clear hK K SN
      have HH := hidden hH4
      have FQ := hidden (HQ.out n1 n2 tb _ TL.out FE.out)
      refine wpAnyH_done (by kernel_rfl) ?_ _
      refine NoPanic.normal ?_
      exact FQ.out
    · have HH := hidden hH1
      clear hH1
      refine wp_allocA rfl (fun tb wn2 ht hb hr hh => ?_)
      have NH := hidden (hh)
      have NR := hidden (hr)
      have TL := hidden (Nat.le_trans HH.out.size ht)
      replace G2 := hidden (And.intro (G2.out.1.keep hb) (And.intro G2.out.2.1 (Nat.lt_of_lt_of_le G2.out.2.2 hb.size)))
      have SN := hidden (bl_trans HH.out hb)
      clear HH ht hb hr hh
      simp only [Act.put, List.setIfInBounds_toArray, List.set_cons_zero, List.set_cons_succ]
      refine hK.out _ _ SN.out (fun hH2 => ?_)
      clear hK K SN
      refine wpAnyH_ready (rs := [1]) (by kernel_rfl) (by simp) ?_
      refine AllReadyH.cons (o := { dst := some 56, op := Op.makeSlice 29 (Operand.tmp 55) (Operand.tmp 55), type := 29, pos := "outright.go:140", after := #[{ on := 0, ground := Ground.data }, { on := 0, ground := Ground.data }], guard := none }) rfl (fun K hK => ?_) AllReadyH.nil
      have HH := hidden hH2
      clear hH2
      refine wp_makeL hk (x := .tmp 55) (y := .tmp 55) rfl rfl rfl (fun n1 wn3 hr hn hl hb => ?_)
      have G1 := hidden (And.intro hr (And.intro (Nat.le_trans HH.out.size hn) hl))
      replace G2 := hidden (And.intro (G2.out.1.keep hb) (And.intro G2.out.2.1 (Nat.lt_of_lt_of_le G2.out.2.2 hb.size)))
      replace NH := hidden (there_keepM NH.out hb)
      replace NR := hidden (range_keepM NR.out hb)
      have SN := hidden (bl_trans HH.out hb)
      clear HH hr hn hl hb
      simp only [Act.put, List.setIfInBounds_toArray, List.set_cons_zero, List.set_cons_succ]
      refine hK.out _ _ SN.out (fun hH3 => ?_)
      clear hK K SN
      refine wpAnyH_take (i := 4) (oi := { dst := some 59, op := Op.build 31 #[(0, Operand.tmp 56), (1, Operand.tmp 58)], type := 31, pos := "outright.go:140", after := #[{ on := 1, ground := Ground.data }, { on := 3, ground := Ground.data }], guard := none }) (v := .agg [.slice (some ⟨n1, 0, none⟩) k k, .slice (some ⟨n2, 0, none⟩) k k, .int .u64 0, .int .u64 0, .int .u64 0, .int .u64 0, .int .u64 0, .int .u64 0, .int .u64 0, .int .u64 0].toArray) rfl (by kernel_rfl) (by kernel_rfl) (by kernel_rfl) (fun _ _ _ h => h) (Or.inl ⟨by rfl, fun w0 hSw => ?_⟩) hH3 ?_
      · (clear hSw; go_simp)
      simp only [Act.put, List.setIfInBounds_toArray, List.set_cons_zero, List.set_cons_succ]
      refine wpAnyH_ready (rs := [6]) (by kernel_rfl) (by simp) ?_
      refine AllReadyH.cons (o := { dst := none, op := Op.store 31 (Operand.tmp 14) (Operand.tmp 59), type := 0, pos := "outright.go:140", after := #[{ on := 5, ground := Ground.data }, { on := 4, ground := Ground.data }, { on := 0, ground := Ground.phase }, { on := 1, ground := Ground.phase }, { on := 2, ground := Ground.phase }, { on := 3, ground := Ground.phase }, { on := 4, ground := Ground.phase }, { on := 5, ground := Ground.phase }], guard := none }) rfl (fun K hK => ?_) AllReadyH.nil
      have HH := hidden hH3
      clear hH3
      refine wp_storeE 31 _ _ rfl tb 0 ([.slice (some ⟨n1, 0, none⟩) k k, .slice (some ⟨n2, 0, none⟩) k k, .int .u64 0, .int .u64 0, .int .u64 0, .int .u64 0, .int .u64 0, .int .u64 0, .int .u64 0, .int .u64 0]) (by rfl) (by rfl) NH.out iAT (oneA _ _ _ _ _ _) rfl (fun wn4 hw => ?_)
      have SN := hidden (below_box HH.out (gb_setCells tb [.slice (some ⟨n1, 0, none⟩) k k, .slice (some ⟨n2, 0, none⟩) k k, .int .u64 0, .int .u64 0, .int .u64 0, .int .u64 0, .int .u64 0, .int .u64 0, .int .u64 0, .int .u64 0] 0 _) TL.out)
      have FE := hidden ((⟨_, HH.out, G1.out, G2.out, NH.out, NR.out, hw⟩ : ∃ wy, Below W.heap.size W wy ∧ (Rl wy n1 0 k (fun _ => zero4) ∧ W.heap.size ≤ n1 ∧ n1 < wy.heap.size) ∧ (Rl wy n2 0 k (fun _ => zero4) ∧ W.heap.size ≤ n2 ∧ n2 < wy.heap.size) ∧ wy.there tb 0 10 ∧ wy.rangeAt tb 0 [.slice none 0 0, .slice none 0 0, .int .u64 0, .int .u64 0, .int .u64 0, .int .u64 0, .int .u64 0, .int .u64 0, .int .u64 0, .int .u64 0] ∧ _ = wy.setCells tb 0 [.slice (some ⟨n1, 0, none⟩) k k, .slice (some ⟨n2, 0, none⟩) k k, .int .u64 0, .int .u64 0, .int .u64 0, .int .u64 0, .int .u64 0, .int .u64 0, .int .u64 0, .int .u64 0]))
      rw [← hw] at SN
      clear HH hw
      refine hK.out _ _ SN.out (fun hH4 => ?_)
      clear hK K SN
      have HH := hidden hH4
      have FQ := hidden (HQ.out n1 n2 tb _ TL.out FE.out)
      refine wpAnyH_done (by kernel_rfl) ?_ _
      refine NoPanic.normal ?_
      exact FQ.out
  · have HH := hidden hH0
    clear hH0
    refine wp_allocA rfl (fun tb wn1 ht hb hr hh => ?_)
    have NH := hidden (hh)
    have NR := hidden (hr)
    have TL := hidden (Nat.le_trans HH.out.size ht)
    have SN := hidden (bl_trans HH.out hb)
    clear HH ht hb hr hh
    simp only [Act.put, List.setIfInBounds_toArray, List.set_cons_zero, List.set_cons_succ]
    refine hK.out _ _ SN.out (fun hH1 => ?_)
    clear hK K SN
    refine wpAnyH_ready (rs := [1, 3]) (by kernel_rfl) (by simp) ?_
    refine AllReadyH.cons (o := { dst := some 56, op := Op.makeSlice 29 (Operand.tmp 55) (Operand.tmp 55), type := 29, pos := "outright.go:140", after := #[{ on := 0, ground := Ground.data }, { on := 0, ground := Ground.data }], guard := none }) rfl (fun K hK => ?_) (AllReadyH.cons (o := { dst := some 58, op := Op.makeSlice 29 (Operand.tmp 57) (Operand.tmp 57), type := 29, pos := "outright.go:140", after := #[{ on := 2, ground := Ground.data }, { on := 2, ground := Ground.data }], guard := none }) rfl (fun K hK => ?_) AllReadyH.nil)
    · have HH := hidden hH1
      clear hH1
      refine wp_makeL hk (x := .tmp 55) (y := .tmp 55) rfl rfl rfl (fun n1 wn2 hr hn hl hb => ?_)
      have G1 := hidden (And.intro hr (And.intro (Nat.le_trans HH.out.size hn) hl))
      replace NH := hidden (there_keepM NH.out hb)
      replace NR := hidden (range_keepM NR.out hb)
      have SN := hidden (bl_trans HH.out hb)
      clear HH hr hn hl hb
      simp only [Act.put, List.setIfInBounds_toArray, List.set_cons_zero, List.set_cons_succ]
      refine hK.out _ _ SN.out (fun hH2 => ?_)
      clear hK K SN
      refine wpAnyH_ready (rs := [3]) (by kernel_rfl) (by simp) ?_
      refine AllReadyH.cons (o := { dst := some 58, op := Op.makeSlice 29 (Operand.tmp 57) (Operand.tmp 57), type := 29, pos := "outright.go:140", after := #[{ on := 2, ground := Ground.data }, { on := 2, ground := Ground.data }], guard := none }) rfl (fun K hK => ?_) AllReadyH.nil
      have HH := hidden hH2
      clear hH2
      refine wp_makeL hk (x := .tmp 57) (y := .tmp 57) rfl rfl rfl (fun n2 wn3 hr hn hl hb => ?_)
      have G2 := hidden (And.intro hr (And.intro (Nat.le_trans HH.out.size hn) hl))
      replace G1 := hidden (And.intro (G1.out.1.keep hb) (And.intro G1.out.2.1 (Nat.lt_of_lt_of_le G1.out.2.2 hb.size)))
      replace NH := hidden (there_keepM NH.out hb)
      replace NR := hidden (range_keepM NR.out hb)
      have SN := hidden (bl_trans HH.out hb)
      clear HH hr hn hl hb
      simp only [Act.put, List.setIfInBounds_toArray, List.set_cons_zero, List.set_cons_succ]
      refine hK.out _ _ SN.out (fun hH3 => ?_)
      clear hK K SN
      refine wpAnyH_take (i := 4) (oi := { dst := some 59, op := Op.build 31 #[(0, Operand.tmp 56), (1, Operand.tmp 58)], type := 31, pos := "outright.go:140", after := #[{ on := 1, ground := Ground.data }, { on := 3, ground := Ground.data }], guard := none }) (v := .agg [.slice (some ⟨n1, 0, none⟩) k k, .slice (some ⟨n2, 0, none⟩) k k, .int .u64 0, .int .u64 0, .int .u64 0, .int .u64 0, .int .u64 0, .int .u64 0, .int .u64 0, .int .u64 0].toArray) rfl (by kernel_rfl) (by kernel_rfl) (by kernel_rfl) (fun _ _ _ h => h) (Or.inl ⟨by rfl, fun w0 hSw => ?_⟩) hH3 ?_
      · (clear hSw; go_simp)
      simp only [Act.put, List.setIfInBounds_toArray, List.set_cons_zero, List.set_cons_succ]
      refine wpAnyH_ready (rs := [6]) (by kernel_rfl) (by simp) ?_
      refine AllReadyH.cons (o := { dst := none, op := Op.store 31 (Operand.tmp 14) (Operand.tmp 59), type := 0, pos := "outright.go:140", after := #[{ on := 5, ground := Ground.data }, { on := 4, ground := Ground.data }, { on := 0, ground := Ground.phase }, { on := 1, ground := Ground.phase }, { on := 2, ground := Ground.phase }, { on := 3, ground := Ground.phase }, { on := 4, ground := Ground.phase }, { on := 5, ground := Ground.phase }], guard := none }) rfl (fun K hK => ?_) AllReadyH.nil
      have HH := hidden hH3
      clear hH3
      refine wp_storeE 31 _ _ rfl tb 0 ([.slice (some ⟨n1, 0, none⟩) k k, .slice (some ⟨n2, 0, none⟩) k k, .int .u64 0, .int .u64 0, .int .u64 0, .int .u64 0, .int .u64 0, .int .u64 0, .int .u64 0, .int .u64 0]) (by rfl) (by rfl) NH.out iAT (oneA _ _ _ _ _ _) rfl (fun wn4 hw => ?_)
      have SN := hidden (below_box HH.out (gb_setCells tb [.slice (some ⟨n1, 0, none⟩) k k, .slice (some ⟨n2, 0, none⟩) k k, .int .u64 0, .int .u64 0, .int .u64 0, .int .u64 0, .int .u64 0, .int .u64 0, .int .u64 0, .int .u64 0] 0 _) TL.out)
      have FE := hidden ((⟨_, HH.out, G1.out, G2.out, NH.out, NR.out, hw⟩ : ∃ wy, Below W.heap.size W wy ∧ (Rl wy n1 0 k (fun _ => zero4) ∧ W.heap.size ≤ n1 ∧ n1 < wy.heap.size) ∧ (Rl wy n2 0 k (fun _ => zero4) ∧ W.heap.size ≤ n2 ∧ n2 < wy.heap.size) ∧ wy.there tb 0 10 ∧ wy.rangeAt tb 0 [.slice none 0 0, .slice none 0 0, .int .u64 0, .int .u64 0, .int .u64 0, .int .u64 0, .int .u64 0, .int .u64 0, .int .u64 0, .int .u64 0] ∧ _ = wy.setCells tb 0 [.slice (some ⟨n1, 0, none⟩) k k, .slice (some ⟨n2, 0, none⟩) k k, .int .u64 0, .int .u64 0, .int .u64 0, .int .u64 0, .int .u64 0, .int .u64 0, .int .u64 0, .int .u64 0]))
      rw [← hw] at SN
      clear HH hw
      refine hK.out _ _ SN.out (fun hH4 => ?_)
      clear hK K SN
      have HH := hidden hH4
      have FQ := hidden (HQ.out n1 n2 tb _ TL.out FE.out)
      refine wpAnyH_done (by kernel_rfl) ?_ _
      refine NoPanic.normal ?_
      exact FQ.out
    · have HH := hidden hH1
      clear hH1
      refine wp_makeL hk (x := .tmp 57) (y := .tmp 57) rfl rfl rfl (fun n2 wn2 hr hn hl hb => ?_)
      have G2 := hidden (And.intro hr (And.intro (Nat.le_trans HH.out.size hn) hl))
      replace NH := hidden (there_keepM NH.out hb)
      replace NR := hidden (range_keepM NR.out hb)
      have SN := hidden (bl_trans HH.out hb)
      clear HH hr hn hl hb
      simp only [Act.put, List.setIfInBounds_toArray, List.set_cons_zero, List.set_cons_succ]
      refine hK.out _ _ SN.out (fun hH2 => ?_)
      clear hK K SN
      refine wpAnyH_ready (rs := [1]) (by kernel_rfl) (by simp) ?_
      refine AllReadyH.cons (o := { dst := some 56, op := Op.makeSlice 29 (Operand.tmp 55) (Operand.tmp 55), type := 29, pos := "outright.go:140", after := #[{ on := 0, ground := Ground.data }, { on := 0, ground := Ground.data }], guard := none }) rfl (fun K hK => ?_) AllReadyH.nil
      have HH := hidden hH2
      clear hH2
      refine wp_makeL hk (x := .tmp 55) (y := .tmp 55) rfl rfl rfl (fun n1 wn3 hr hn hl hb => ?_)
      have G1 := hidden (And.intro hr (And.intro (Nat.le_trans HH.out.size hn) hl))
      replace G2 := hidden (And.intro (G2.out.1.keep hb) (And.intro G2.out.2.1 (Nat.lt_of_lt_of_le G2.out.2.2 hb.size)))
      replace NH := hidden (there_keepM NH.out hb)
      replace NR := hidden (range_keepM NR.out hb)
      have SN := hidden (bl_trans HH.out hb)
      clear HH hr hn hl hb
      simp only [Act.put, List.setIfInBounds_toArray, List.set_cons_zero, List.set_cons_succ]
      refine hK.out _ _ SN.out (fun hH3 => ?_)
      clear hK K SN
      refine wpAnyH_take (i := 4) (oi := { dst := some 59, op := Op.build 31 #[(0, Operand.tmp 56), (1, Operand.tmp 58)], type := 31, pos := "outright.go:140", after := #[{ on := 1, ground := Ground.data }, { on := 3, ground := Ground.data }], guard := none }) (v := .agg [.slice (some ⟨n1, 0, none⟩) k k, .slice (some ⟨n2, 0, none⟩) k k, .int .u64 0, .int .u64 0, .int .u64 0, .int .u64 0, .int .u64 0, .int .u64 0, .int .u64 0, .int .u64 0].toArray) rfl (by kernel_rfl) (by kernel_rfl) (by kernel_rfl) (fun _ _ _ h => h) (Or.inl ⟨by rfl, fun w0 hSw => ?_⟩) hH3 ?_
      · (clear hSw; go_simp)
      simp only [Act.put, List.setIfInBounds_toArray, List.set_cons_zero, List.set_cons_succ]
      refine wpAnyH_ready (rs := [6]) (by kernel_rfl) (by simp) ?_
      refine AllReadyH.cons (o := { dst := none, op := Op.store 31 (Operand.tmp 14) (Operand.tmp 59), type := 0, pos := "outright.go:140", after := #[{ on := 5, ground := Ground.data }, { on := 4, ground := Ground.data }, { on := 0, ground := Ground.phase }, { on := 1, ground := Ground.phase }, { on := 2, ground := Ground.phase }, { on := 3, ground := Ground.phase }, { on := 4, ground := Ground.phase }, { on := 5, ground := Ground.phase }], guard := none }) rfl (fun K hK => ?_) AllReadyH.nil
      have HH := hidden hH3
      clear hH3
      refine wp_storeE 31 _ _ rfl tb 0 ([.slice (some ⟨n1, 0, none⟩) k k, .slice (some ⟨n2, 0, none⟩) k k, .int .u64 0, .int .u64 0, .int .u64 0, .int .u64 0, .int .u64 0, .int .u64 0, .int .u64 0, .int .u64 0]) (by rfl) (by rfl) NH.out iAT (oneA _ _ _ _ _ _) rfl (fun wn4 hw => ?_)
      have SN := hidden (below_box HH.out (gb_setCells tb [.slice (some ⟨n1, 0, none⟩) k k, .slice (some ⟨n2, 0, none⟩) k k, .int .u64 0, .int .u64 0, .int .u64 0, .int .u64 0, .int .u64 0, .int .u64 0, .int .u64 0, .int .u64 0] 0 _) TL.out)
      have FE := hidden ((⟨_, HH.out, G1.out, G2.out, NH.out, NR.out, hw⟩ : ∃ wy, Below W.heap.size W wy ∧ (Rl wy n1 0 k (fun _ => zero4) ∧ W.heap.size ≤ n1 ∧ n1 < wy.heap.size) ∧ (Rl wy n2 0 k (fun _ => zero4) ∧ W.heap.size ≤ n2 ∧ n2 < wy.heap.size) ∧ wy.there tb 0 10 ∧ wy.rangeAt tb 0 [.slice none 0 0, .slice none 0 0, .int .u64 0, .int .u64 0, .int .u64 0, .int .u64 0, .int .u64 0, .int .u64 0, .int .u64 0, .int .u64 0] ∧ _ = wy.setCells tb 0 [.slice (some ⟨n1, 0, none⟩) k k, .slice (some ⟨n2, 0, none⟩) k k, .int .u64 0, .int .u64 0, .int .u64 0, .int .u64 0, .int .u64 0, .int .u64 0, .int .u64 0, .int .u64 0]))
      rw [← hw] at SN
      clear HH hw
      refine hK.out _ _ SN.out (fun hH4 => ?_)
      clear hK K SN
      have HH := hidden hH4
      have FQ := hidden (HQ.out n1 n2 tb _ TL.out FE.out)
      refine wpAnyH_done (by kernel_rfl) ?_ _
      refine NoPanic.normal ?_
      exact FQ.out
def lw16o : Array Oper := #[{ dst := some 60, op := Op.move (Operand.tmp 12), type := 23, pos := "outright.go:143", after := #[], guard := none },
  { dst := some 61, op := Op.call { callee := Callee.value (Operand.func 7), args := #[Operand.tmp 60], argTypes := #[23] }, type := 29, pos := "outright.go:143", after := #[{ on := 0, ground := Ground.data }], guard := none },
  { dst := some 62, op := Op.move (Operand.tmp 13), type := 23, pos := "outright.go:143", after := #[], guard := none },
  { dst := some 63, op := Op.call { callee := Callee.value (Operand.func 7), args := #[Operand.tmp 62], argTypes := #[23] }, type := 29, pos := "outright.go:143", after := #[{ on := 2, ground := Ground.data }, { on := 1, ground := Ground.chain }], guard := none },
  { dst := some 64, op := Op.build 35 #[(2, Operand.tmp 61), (3, Operand.tmp 63)], type := 35, pos := "outright.go:143", after := #[{ on := 1, ground := Ground.data }, { on := 3, ground := Ground.data }], guard := none },
  { dst := some 65, op := Op.load 31 (Operand.tmp 14), type := 31, pos := "outright.go:143", after := #[], guard := none },
  { dst := some 66, op := Op.move (Operand.tmp 8), type := 23, pos := "outright.go:143", after := #[], guard := none },
  { dst := some 67, op := Op.call { callee := Callee.value (Operand.func 6), args := #[Operand.tmp 64, Operand.tmp 65, Operand.tmp 66], argTypes := #[35, 31, 23] }, type := 37, pos := "outright.go:143", after := #[{ on := 4, ground := Ground.data }, { on := 5, ground := Ground.data }, { on := 6, ground := Ground.data }, { on := 3, ground := Ground.chain }], guard := none },
  { dst := some 17, op := Op.assign (Operand.tmp 67), type := 37, pos := "outright.go:143", after := #[{ on := 7, ground := Ground.data }, { on := 7, ground := Ground.chain }, { on := 0, ground := Ground.phase }, { on := 1, ground := Ground.phase }, { on := 2, ground := Ground.phase }, { on := 3, ground := Ground.phase }, { on := 4, ground := Ground.phase }, { on := 5, ground := Ground.phase }, { on := 6, ground := Ground.phase }, { on := 7, ground := Ground.phase }], guard := none }]
set_option maxRecDepth 100000 in
set_option maxHeartbeats 16000000 in
theorem lw16 (Q : Exit → Act → World → Prop) (ud : TypeDesc) (n k ab ac bb bc T14 uc : Nat) (up : Option Addr) (C : List Value) (R1 R2 : World → Nat → Nat → Prop) (R7 : World → World → Nat → Prop) (u0 u1 u2 u3 u4 u5 u6 u7 u9 u10 u11 u15 u16 u17 u18 u19 u20 u21 u22 u23 u24 u25 u26 u27 u28 u29 u30 u31 u32 u33 u34 u35 u36 u37 u38 u39 u40 u41 u42 u43 u44 u45 u46 u47 u48 u49 u50 u51 u52 u53 u54 u55 u56 u57 u58 u59 u60 u61 u62 u63 u64 u65 u66 u67 u68 u69 u70 u71 u72 u73 u74 u75 u76 u77 u78 u79 u80 u81 u82 u83 u84 u85 u86 u87 u88 u89 u90 u91 u92 u93 u94 u95 u96 u97 u98 u99 u100 u101 u102 u103 u104 u105 u106 u107 u108 u109 u110 u111 u112 u113 u114 u115 u116 u117 u118 u119 u120 u121 u122 u123 u124 u125 u126 u127 u128 u129 u130 u131 u132 u133 u134 u135 u136 u137 u138 u139 u140 u141 u142 u143 u144 u145 u146 u147 u148 u149 : Value) (W : World)
    (rc0 : W.rangeAt T14 0 C) (IT : Hid ((Tryd.prog.info? 31).map (·.size) = some C.length)) (UT : Hid (Tryd.prog.underlying 31 = some ud)) (ur : ud.isRow = true)
    (K1 : Hid (∀ (v v' : World) (a b : Nat), R1 v a b → Below v.heap.size v v' → R1 v' a b))
    (C1 : Hid (∀ y, Below W.heap.size W y → Calls Tryd.prog 7 #[.slice (some ⟨ab, 0, none⟩) n ac] y fun e w' => ∃ g1 c1 : Nat, e = .returned (.slice (some ⟨g1, 0, none⟩) n c1) ∧ R1 w' g1 c1 ∧ Below y.heap.size y w'))
    (C3 : Hid (∀ y, Below W.heap.size W y → Calls Tryd.prog 7 #[.slice (some ⟨bb, 0, none⟩) n bc] y fun e w' => ∃ g1 c1 : Nat, e = .returned (.slice (some ⟨g1, 0, none⟩) n c1) ∧ R2 w' g1 c1 ∧ Below y.heap.size y w'))
    (C7 : Hid (∀ (y : World) (g1 c1 g2 c2 : Nat), Below W.heap.size W y → R1 y g1 c1 → R2 y g2 c2 → Calls Tryd.prog 6 #[.agg #[.int .u64 0, .int .u64 0, .int .u64 0, .int .u64 0, .int .u64 0, .int .u64 0, .int .u64 0, .int .u64 0, .slice (some ⟨g1, 0, none⟩) n c1, .slice (some ⟨g2, 0, none⟩) n c2], .agg C.toArray, .slice up k uc] y fun e w' => ∃ Bk : Nat, e = .returned (.func (.func 21) #[] #[.pointer (some ⟨Bk, 0, none⟩)]) ∧ R7 y w' Bk ∧ Below y.heap.size y w'))
    (HQ : Hid (∀ (Bk g1 c1 g2 c2 : Nat) (wz : World), (∃ wy, R7 wy wz Bk ∧ Below W.heap.size W wy ∧ Below wy.heap.size wy wz) → Q .normal ⟨#[u0, u1, u2, u3, u4, u5, u6, u7, .slice up k uc, u9, u10, u11, .slice (some ⟨ab, 0, none⟩) n ac, .slice (some ⟨bb, 0, none⟩) n bc, .pointer (some ⟨T14, 0, none⟩), u15, u16, .func (.func 21) #[] #[.pointer (some ⟨Bk, 0, none⟩)], u18, u19, u20, u21, u22, u23, u24, u25, u26, u27, u28, u29, u30, u31, u32, u33, u34, u35, u36, u37, u38, u39, u40, u41, u42, u43, u44, u45, u46, u47, u48, u49, u50, u51, u52, u53, u54, u55, u56, u57, u58, u59, .slice (some ⟨ab, 0, none⟩) n ac, .slice (some ⟨g1, 0, none⟩) n c1, .slice (some ⟨bb, 0, none⟩) n bc, .slice (some ⟨g2, 0, none⟩) n c2, .agg #[.int .u64 0, .int .u64 0, .int .u64 0, .int .u64 0, .int .u64 0, .int .u64 0, .int .u64 0, .int .u64 0, .slice (some ⟨g1, 0, none⟩) n c1, .slice (some ⟨g2, 0, none⟩) n c2], .agg C.toArray, .slice up k uc, .func (.func 21) #[] #[.pointer (some ⟨Bk, 0, none⟩)], u68, u69, u70, u71, u72, u73, u74, u75, u76, u77, u78, u79, u80, u81, u82, u83, u84, u85, u86, u87, u88, u89, u90, u91, u92, u93, u94, u95, u96, u97, u98, u99, u100, u101, u102, u103, u104, u105, u106, u107, u108, u109, u110, u111, u112, u113, u114, u115, u116, u117, u118, u119, u120, u121, u122, u123, u124, u125, u126, u127, u128, u129, u130, u131, u132, u133, u134, u135, u136, u137, u138, u139, u140, u141, u142, u143, u144, u145, u146, u147, u148, u149], []⟩ wz)) : (Code.region 16 lw16o true).wp Tryd.prog Q ⟨#[u0, u1, u2, u3, u4, u5, u6, u7, .slice up k uc, u9, u10, u11, .slice (some ⟨ab, 0, none⟩) n ac, .slice (some ⟨bb, 0, none⟩) n bc, .pointer (some ⟨T14, 0, none⟩), u15, u16, u17, u18, u19, u20, u21, u22, u23, u24, u25, u26, u27, u28, u29, u30, u31, u32, u33, u34, u35, u36, u37, u38, u39, u40, u41, u42, u43, u44, u45, u46, u47, u48, u49, u50, u51, u52, u53, u54, u55, u56, u57, u58, u59, u60, u61, u62, u63, u64, u65, u66, u67, u68, u69, u70, u71, u72, u73, u74, u75, u76, u77, u78, u79, u80, u81, u82, u83, u84, u85, u86, u87, u88, u89, u90, u91, u92, u93, u94, u95, u96, u97, u98, u99, u100, u101, u102, u103, u104, u105, u106, u107, u108, u109, u110, u111, u112, u113, u114, u115, u116, u117, u118, u119, u120, u121, u122, u123, u124, u125, u126, u127, u128, u129, u130, u131, u132, u133, u134, u135, u136, u137, u138, u139, u140, u141, u142, u143, u144, u145, u146, u147, u148, u149], []⟩ W := by
  have RC := hidden rc0
  clear rc0
  unfold lw16o
  refine wp_region_noPanic ?_
  refine wp_region_held_drew (S := fun x => Below W.heap.size W x) (by kernel_rfl) (bl_drewR W) (fun hH0 => ?_)
  refine wpAnyH_take (i := 0) (oi := { dst := some 60, op := Op.move (Operand.tmp 12), type := 23, pos := "outright.go:143", after := #[], guard := none }) (v := .slice (some ⟨ab, 0, none⟩) n ac) rfl (by kernel_rfl) (by kernel_rfl) (by kernel_rfl) (fun _ _ _ h => h) (Or.inl ⟨by rfl, fun w0 hSw => ?_⟩) hH0 ?_
  · (clear hSw; go_simp)
  simp only [Act.put, List.setIfInBounds_toArray, List.set_cons_zero, List.set_cons_succ]
  refine wpAnyH_take (i := 2) (oi := { dst := some 62, op := Op.move (Operand.tmp 13), type := 23, pos := "outright.go:143", after := #[], guard := none }) (v := .slice (some ⟨bb, 0, none⟩) n bc) rfl (by kernel_rfl) (by kernel_rfl) (by kernel_rfl) (fun _ _ _ h => h) (Or.inl ⟨by rfl, fun w0 hSw => ?_⟩) hH0 ?_
  · (clear hSw; go_simp)
  simp only [Act.put, List.setIfInBounds_toArray, List.set_cons_zero, List.set_cons_succ]
  refine wpAnyH_take (i := 5) (oi := { dst := some 65, op := Op.load 31 (Operand.tmp 14), type := 31, pos := "outright.go:143", after := #[], guard := none }) (v := .agg (C).toArray) rfl (by kernel_rfl) (by kernel_rfl) (by kernel_rfl) (fun _ _ _ h => h) (yieldsIf_load_mid (by rfl) 31 _ rfl (T14) (0) rfl (C) _ (fun w0 hSw => range_keepM RC.out hSw) UT.out ur IT.out) hH0 ?_
  simp only [Act.put, List.setIfInBounds_toArray, List.set_cons_zero, List.set_cons_succ]
  refine wpAnyH_take (i := 6) (oi := { dst := some 66, op := Op.move (Operand.tmp 8), type := 23, pos := "outright.go:143", after := #[], guard := none }) (v := .slice up k uc) rfl (by kernel_rfl) (by kernel_rfl) (by kernel_rfl) (fun _ _ _ h => h) (Or.inl ⟨by rfl, fun w0 hSw => ?_⟩) hH0 ?_
  · (clear hSw; go_simp)
  simp only [Act.put, List.setIfInBounds_toArray, List.set_cons_zero, List.set_cons_succ]
  refine wpAnyH_ready (rs := [1]) (by kernel_rfl) (by simp) ?_
  refine AllReadyH.cons (o := { dst := some 61, op := Op.call { callee := Callee.value (Operand.func 7), args := #[Operand.tmp 60], argTypes := #[23] }, type := 29, pos := "outright.go:143", after := #[{ on := 0, ground := Ground.data }], guard := none }) rfl (fun K hK => ?_) AllReadyH.nil
  have HH := hidden hH0
  clear hH0
  go_simp
  refine (C1.out _ HH.out).mono ?_
  rintro e wn1 ⟨g1, c1, rfl, h1, hb⟩
  have G1 := hidden (h1)
  have SN := hidden (bl_trans HH.out hb)
  clear HH C1 h1 hb
  go_wp2_with fail
  refine hK.out _ _ SN.out (fun hH1 => ?_)
  clear hK K SN
  refine wpAnyH_ready (rs := [3]) (by kernel_rfl) (by simp) ?_
  refine AllReadyH.cons (o := { dst := some 63, op := Op.call { callee := Callee.value (Operand.func 7), args := #[Operand.tmp 62], argTypes := #[23] }, type := 29, pos := "outright.go:143", after := #[{ on := 2, ground := Ground.data }, { on := 1, ground := Ground.chain }], guard := none }) rfl (fun K hK => ?_) AllReadyH.nil
  have HH := hidden hH1
  clear hH1
  go_simp
  refine (C3.out _ HH.out).mono ?_
  rintro e wn2 ⟨g2, c2, rfl, h1, hb⟩
  replace G1 := hidden (K1.out _ _ _ _ G1.out hb)
  have G2 := hidden (h1)
  have SN := hidden (bl_trans HH.out hb)
  clear HH C3 h1 hb
  go_wp2_with fail
  refine hK.out _ _ SN.out (fun hH2 => ?_)
  clear hK K SN
  refine wpAnyH_take (i := 4) (oi := { dst := some 64, op := Op.build 35 #[(2, Operand.tmp 61), (3, Operand.tmp 63)], type := 35, pos := "outright.go:143", after := #[{ on := 1, ground := Ground.data }, { on := 3, ground := Ground.data }], guard := none }) (v := .agg #[.int .u64 0, .int .u64 0, .int .u64 0, .int .u64 0, .int .u64 0, .int .u64 0, .int .u64 0, .int .u64 0, .slice (some ⟨g1, 0, none⟩) n c1, .slice (some ⟨g2, 0, none⟩) n c2]) rfl (by kernel_rfl) (by kernel_rfl) (by kernel_rfl) (fun _ _ _ h => h) (Or.inl ⟨by rfl, fun w0 hSw => ?_⟩) hH2 ?_
  · (clear hSw; go_simp)
  simp only [Act.put, List.setIfInBounds_toArray, List.set_cons_zero, List.set_cons_succ]
  refine wpAnyH_ready (rs := [7]) (by kernel_rfl) (by simp) ?_
  refine AllReadyH.cons (o := { dst := some 67, op := Op.call { callee := Callee.value (Operand.func 6), args := #[Operand.tmp 64, Operand.tmp 65, Operand.tmp 66], argTypes := #[35, 31, 23] }, type := 37, pos := "outright.go:143", after := #[{ on := 4, ground := Ground.data }, { on := 5, ground := Ground.data }, { on := 6, ground := Ground.data }, { on := 3, ground := Ground.chain }], guard := none }) rfl (fun K hK => ?_) AllReadyH.nil
  have HH := hidden hH2
  clear hH2
  go_simp
  refine (C7.out _ g1 c1 g2 c2 HH.out G1.out G2.out).mono ?_
  rintro e wn3 ⟨Bk, rfl, h1, hb⟩
  have FE := hidden ((⟨_, h1, HH.out, hb⟩ : ∃ wy, R7 wy _ Bk ∧ Below W.heap.size W wy ∧ Below wy.heap.size wy _))
  have SN := hidden (bl_trans HH.out hb)
  clear HH C7 h1 hb
  go_wp2_with fail
  refine hK.out _ _ SN.out (fun hH3 => ?_)
  clear hK K SN
  refine wpAnyH_take (i := 8) (oi := { dst := some 17, op := Op.assign (Operand.tmp 67), type := 37, pos := "outright.go:143", after := #[{ on := 7, ground := Ground.data }, { on := 7, ground := Ground.chain }, { on := 0, ground := Ground.phase }, { on := 1, ground := Ground.phase }, { on := 2, ground := Ground.phase }, { on := 3, ground := Ground.phase }, { on := 4, ground := Ground.phase }, { on := 5, ground := Ground.phase }, { on := 6, ground := Ground.phase }, { on := 7, ground := Ground.phase }], guard := none }) (v := .func (.func 21) #[] #[.pointer (some ⟨Bk, 0, none⟩)]) rfl (by kernel_rfl) (by kernel_rfl) (by kernel_rfl) (fun _ _ _ h => h) (Or.inl ⟨by rfl, fun w0 hSw => ?_⟩) hH3 ?_
  · (clear hSw; go_simp)
  simp only [Act.put, List.setIfInBounds_toArray, List.set_cons_zero, List.set_cons_succ]
  have HH := hidden hH3
  have FQ := hidden (HQ.out Bk g1 c1 g2 c2 _ FE.out)
  refine wpAnyH_done (by kernel_rfl) ?_ _
  refine NoPanic.normal ?_
  exact FQ.out
end Rp
end Go.Proofs.YtaejedhdpilhjaaDoor
