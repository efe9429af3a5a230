import Derived.Test.YtcecpfcekejblaaBkj
import Derived.Deep.MidRow
namespace Go.Proofs.Ytcecpfcekejblaa
open Go.RowKit
set_option linter.unusedVariables false
theorem ut64 : Try.prog.underlying 23 = some (.array 64 5) := by kernel_rfl
theorem it64 (par : List UInt8) (h : par.length = 64) : (Try.prog.info? 23).map (·.size) = some (cb par).length := by
  rw [cb_len, h]
  kernel_rfl
def lb12o : Array Oper := #[{ dst := some 62, op := Op.load 23 (Operand.tmp 4), type := 23, pos := "law.go:133", after := #[], guard := none },
  { dst := some 63, op := Op.move (Operand.tmp 1), type := 3, pos := "law.go:133", after := #[], guard := none },
  { dst := some 64, op := Op.move (Operand.tmp 9), type := 24, pos := "law.go:133", after := #[], guard := none },
  { dst := some 65, op := Op.move (Operand.tmp 2), type := 24, pos := "law.go:133", after := #[], guard := none },
  { dst := some 66, op := Op.call { callee := Callee.builtin Builtin.len, args := #[Operand.tmp 65], argTypes := #[24] }, type := 3, pos := "law.go:133", after := #[{ on := 3, ground := Ground.data }], guard := none },
  { dst := some 67, op := Op.slice 24 (Operand.tmp 64) none (some (Operand.tmp 66)) none, type := 24, pos := "law.go:133", after := #[{ on := 2, ground := Ground.data }, { on := 4, ground := Ground.data }], guard := none },
  { dst := some 68, op := Op.move (Operand.tmp 12), type := 25, pos := "law.go:133", after := #[], guard := none },
  { dst := some 69, op := Op.call { callee := Callee.value (Operand.func 5), args := #[Operand.tmp 62, Operand.tmp 63, Operand.tmp 67, Operand.tmp 68], argTypes := #[23, 3, 24, 25] }, type := 28, pos := "law.go:133", after := #[{ on := 0, ground := Ground.data }, { on := 1, ground := Ground.data }, { on := 5, ground := Ground.data }, { on := 6, ground := Ground.data }], guard := none },
  { dst := some 61, op := Op.move (Operand.tmp 69), type := 28, pos := "law.go:133", after := #[{ on := 7, ground := Ground.data }], guard := none },
  { dst := some 70, op := Op.extract (Operand.tmp 61) 0, type := 24, pos := "law.go:133", after := #[{ on := 8, ground := Ground.data }], guard := none },
  { dst := some 71, op := Op.extract (Operand.tmp 61) 1, type := 27, pos := "law.go:133", after := #[{ on := 8, ground := Ground.data }, { on := 11, ground := Ground.gcOnly Departure.lateStores }], guard := none },
  { dst := some 14, op := Op.assign (Operand.tmp 70), type := 24, pos := "law.go:133", after := #[{ on := 9, ground := Ground.data }, { on := 7, ground := Ground.chain }, { on := 0, ground := Ground.phase }, { on := 1, ground := Ground.phase }, { on := 2, ground := Ground.phase }, { on := 3, ground := Ground.phase }, { on := 4, ground := Ground.phase }, { on := 5, ground := Ground.phase }, { on := 6, ground := Ground.phase }, { on := 7, ground := Ground.phase }, { on := 8, ground := Ground.phase }, { on := 9, ground := Ground.phase }, { on := 10, ground := Ground.textOnly Departure.lateStores }], guard := none },
  { dst := some 15, op := Op.assign (Operand.tmp 71), type := 27, pos := "law.go:133", after := #[{ on := 10, ground := Ground.data }, { on := 11, ground := Ground.chain }, { on := 0, ground := Ground.phase }, { on := 1, ground := Ground.phase }, { on := 2, ground := Ground.phase }, { on := 3, ground := Ground.phase }, { on := 4, ground := Ground.phase }, { on := 5, ground := Ground.phase }, { on := 6, ground := Ground.phase }, { on := 7, ground := Ground.phase }, { on := 8, ground := Ground.phase }, { on := 9, ground := Ground.phase }, { on := 10, ground := Ground.phase }, { on := 11, ground := Ground.phase }], guard := none }]
set_option maxRecDepth 100000 in
set_option maxHeartbeats 16000000 in
theorem lb12 (Q : Exit → Act → World → Prop) (h : Int) (bx ml cm f cf H n : Nat) (pm : Option Addr) (par : List UInt8) (AN : Int → List UInt8 → Prop) (u0 u3 u5 u6 u7 u8 u10 u11 u13 u14 u15 u16 u17 u18 u19 u20 u21 u22 u23 u24 u25 u26 u27 u28 u29 u30 u31 u32 u33 u34 u35 u36 u37 u38 u39 u40 u41 u42 u43 u44 u45 u46 u47 u48 u49 u50 u51 u52 u53 u54 u55 u56 u57 u58 u59 u60 u61 u62 u63 u64 u65 u66 u67 u68 u69 u70 u71 u72 u73 u74 u75 u76 u77 u78 u79 u80 u81 u82 u83 u84 u85 u86 u87 u88 u89 u90 u91 u92 u93 u94 u95 u96 u97 u98 u99 u100 u101 u102 u103 u104 u105 u106 u107 u108 u109 u110 u111 u112 u113 u114 u115 u116 u117 u118 u119 u120 u121 u122 u123 u124 u125 u126 u127 u128 u129 u130 u131 u132 u133 u134 u135 u136 u137 u138 u139 u140 : Value) (W : World)
    (d0 : (ml : Int) ≤ (cf : Int)) (d1 : (0 : Int) ≤ (ml : Int)) (K0 : Hid (W.rangeAt bx 0 (cb par))) (UT : Hid (Try.prog.underlying 23 = some (.array 64 5))) (IT : Hid ((Try.prog.info? 23).map (·.size) = some (cb par).length))
    (C7 : Hid (∀ y, Below W.heap.size W y → Calls Try.prog 5 #[.agg (cb par).toArray, .int .i64 h, .slice (some ⟨f, 0, none⟩) ml cf, .slice (some ⟨H, 0, none⟩) n n] y fun e w' => ∃ v E F, e = .returned (.tuple #[v, .int .i64 E]) ∧ AN E F ∧ w'.ownsRow y.heap.size 5 1 v F.length (cb F) ∧ Below y.heap.size y w'))
    (HQ : Hid (∀ (v : Value) (E : Int) (F : List UInt8) (wz : World), AN E F → wz.ownsRow W.heap.size 5 1 v F.length (cb F) → Below W.heap.size W wz → Q .normal ⟨#[u0, .int .i64 h, .slice pm ml cm, u3, .pointer (some ⟨bx, 0, none⟩), u5, u6, u7, u8, .slice (some ⟨f, 0, none⟩) (ml + 3) cf, u10, u11, .slice (some ⟨H, 0, none⟩) n n, u13, v, .int .i64 E, u16, u17, u18, u19, u20, u21, u22, u23, u24, u25, u26, u27, u28, u29, u30, u31, u32, u33, u34, u35, u36, u37, u38, u39, u40, u41, u42, u43, u44, u45, u46, u47, u48, u49, u50, u51, u52, u53, u54, u55, u56, u57, u58, u59, u60, .tuple #[v, .int .i64 E], .agg (cb par).toArray, .int .i64 h, .slice (some ⟨f, 0, none⟩) (ml + 3) cf, .slice pm ml cm, .int .i64 (ml : Int), .slice (some ⟨f, 0, none⟩) ml cf, .slice (some ⟨H, 0, none⟩) n n, .tuple #[v, .int .i64 E], v, .int .i64 E, u72, u73, u74, u75, u76, u77, u78, u79, u80, u81, u82, u83, u84, u85, u86, u87, u88, u89, u90, u91, u92, u93, u94, u95, u96, u97, u98, u99, u100, u101, u102, u103, u104, u105, u106, u107, u108, u109, u110, u111, u112, u113, u114, u115, u116, u117, u118, u119, u120, u121, u122, u123, u124, u125, u126, u127, u128, u129, u130, u131, u132, u133, u134, u135, u136, u137, u138, u139, u140], []⟩ wz)) : (Code.region 12 lb12o true).wp Try.prog Q ⟨#[u0, .int .i64 h, .slice pm ml cm, u3, .pointer (some ⟨bx, 0, none⟩), u5, u6, u7, u8, .slice (some ⟨f, 0, none⟩) (ml + 3) cf, u10, u11, .slice (some ⟨H, 0, none⟩) n n, u13, u14, u15, u16, u17, u18, u19, u20, u21, u22, u23, u24, u25, u26, u27, u28, u29, u30, u31, u32, u33, u34, u35, u36, u37, u38, u39, u40, u41, u42, u43, u44, u45, u46, u47, u48, u49, u50, u51, u52, u53, u54, u55, u56, u57, u58, u59, u60, u61, u62, u63, u64, u65, u66, u67, u68, u69, u70, u71, u72, u73, u74, u75, u76, u77, u78, u79, u80, u81, u82, u83, u84, u85, u86, u87, u88, u89, u90, u91, u92, u93, u94, u95, u96, u97, u98, u99, u100, u101, u102, u103, u104, u105, u106, u107, u108, u109, u110, u111, u112, u113, u114, u115, u116, u117, u118, u119, u120, u121, u122, u123, u124, u125, u126, u127, u128, u129, u130, u131, u132, u133, u134, u135, u136, u137, u138, u139, u140], []⟩ W := by
  unfold lb12o
  refine wp_region_noPanic ?_
  refine wp_region_held_drew (S := fun x => Below W.heap.size W x) (by kernel_rfl) (drew_blW W) (fun hH0 => ?_)
  refine wpAnyH_take (i := 0) (oi := { dst := some 62, op := Op.load 23 (Operand.tmp 4), type := 23, pos := "law.go:133", after := #[], guard := none }) (v := .agg (cb par).toArray) rfl (by kernel_rfl) (by kernel_rfl) (by kernel_rfl) (fun _ _ _ h => h) (yieldsIf_load_mid (by rfl) 23 _ rfl (bx) (0) rfl (cb par) _ (fun w0 hSw => fun j u hu => cell_keep (K0.out j u hu) hSw) UT.out rfl IT.out) hH0 ?_
  simp only [Act.put, List.setIfInBounds_toArray, List.set_cons_zero, List.set_cons_succ]
  refine wpAnyH_take (i := 1) (oi := { dst := some 63, op := Op.move (Operand.tmp 1), type := 3, pos := "law.go:133", after := #[], guard := none }) (v := .int .i64 h) rfl (by kernel_rfl) (by kernel_rfl) (by kernel_rfl) (fun _ _ _ h => h) (Or.inl ⟨by rfl, fun w0 hSw => ?_⟩) hH0 ?_
  · (clear hSw; go_simp)
  simp only [Act.put, List.setIfInBounds_toArray, List.set_cons_zero, List.set_cons_succ]
  refine wpAnyH_take (i := 2) (oi := { dst := some 64, op := Op.move (Operand.tmp 9), type := 24, pos := "law.go:133", after := #[], guard := none }) (v := .slice (some ⟨f, 0, none⟩) (ml + 3) cf) rfl (by kernel_rfl) (by kernel_rfl) (by kernel_rfl) (fun _ _ _ h => h) (Or.inl ⟨by rfl, fun w0 hSw => ?_⟩) hH0 ?_
  · (clear hSw; go_simp)
  simp only [Act.put, List.setIfInBounds_toArray, List.set_cons_zero, List.set_cons_succ]
  refine wpAnyH_take (i := 3) (oi := { dst := some 65, op := Op.move (Operand.tmp 2), type := 24, pos := "law.go:133", after := #[], guard := none }) (v := .slice pm ml cm) rfl (by kernel_rfl) (by kernel_rfl) (by kernel_rfl) (fun _ _ _ h => h) (Or.inl ⟨by rfl, fun w0 hSw => ?_⟩) hH0 ?_
  · (clear hSw; go_simp)
  simp only [Act.put, List.setIfInBounds_toArray, List.set_cons_zero, List.set_cons_succ]
  refine wpAnyH_take (i := 6) (oi := { dst := some 68, op := Op.move (Operand.tmp 12), type := 25, pos := "law.go:133", after := #[], guard := none }) (v := .slice (some ⟨H, 0, none⟩) n n) rfl (by kernel_rfl) (by kernel_rfl) (by kernel_rfl) (fun _ _ _ h => h) (Or.inl ⟨by rfl, fun w0 hSw => ?_⟩) hH0 ?_
  · (clear hSw; go_simp)
  simp only [Act.put, List.setIfInBounds_toArray, List.set_cons_zero, List.set_cons_succ]
  refine wpAnyH_take (i := 4) (oi := { dst := some 66, op := Op.call { callee := Callee.builtin Builtin.len, args := #[Operand.tmp 65], argTypes := #[24] }, type := 3, pos := "law.go:133", after := #[{ on := 3, ground := Ground.data }], guard := none }) (v := .int .i64 (ml : Int)) rfl (by kernel_rfl) (by kernel_rfl) (by kernel_rfl) (fun _ _ _ h => h) (Or.inl ⟨by rfl, fun w0 hSw => ?_⟩) hH0 ?_
  · (clear hSw; go_simp)
  simp only [Act.put, List.setIfInBounds_toArray, List.set_cons_zero, List.set_cons_succ]
  refine wpAnyH_take (i := 5) (oi := { dst := some 67, op := Op.slice 24 (Operand.tmp 64) none (some (Operand.tmp 66)) none, type := 24, pos := "law.go:133", after := #[{ on := 2, ground := Ground.data }, { on := 4, ground := Ground.data }], guard := none }) (v := .slice (some ⟨f, 0, none⟩) ml cf) rfl (by kernel_rfl) (by kernel_rfl) (by kernel_rfl) (fun _ _ _ h => h) (Or.inl ⟨by rfl, fun w0 hSw => ?_⟩) hH0 ?_
  · (clear hSw; go_simp)
  simp only [Act.put, List.setIfInBounds_toArray, List.set_cons_zero, List.set_cons_succ]
  refine wpAnyH_ready (rs := [7]) (by kernel_rfl) (by simp) ?_
  refine AllReadyH.cons (o := { dst := some 69, op := Op.call { callee := Callee.value (Operand.func 5), args := #[Operand.tmp 62, Operand.tmp 63, Operand.tmp 67, Operand.tmp 68], argTypes := #[23, 3, 24, 25] }, type := 28, pos := "law.go:133", after := #[{ on := 0, ground := Ground.data }, { on := 1, ground := Ground.data }, { on := 5, ground := Ground.data }, { on := 6, ground := Ground.data }], guard := none }) rfl (fun K hK => ?_) AllReadyH.nil
  have HH := hidden hH0
  clear hH0
  go_simp
  refine (C7.out _ HH.out).mono ?_
  rintro e wn1 ⟨v, E, F, rfl, ha, ho, hb⟩
  have RA := hidden (And.intro ha (own_less ho HH.out.size))
  have SN := hidden (bl_trans HH.out hb)
  clear HH C7 ha ho hb
  go_wp2_with fail
  refine hK.out _ _ SN.out (fun hH1 => ?_)
  clear hK K SN
  refine wpAnyH_take (i := 8) (oi := { dst := some 61, op := Op.move (Operand.tmp 69), type := 28, pos := "law.go:133", after := #[{ on := 7, ground := Ground.data }], guard := none }) (v := .tuple #[v, .int .i64 E]) rfl (by kernel_rfl) (by kernel_rfl) (by kernel_rfl) (fun _ _ _ h => h) (Or.inl ⟨by rfl, fun w0 hSw => ?_⟩) hH1 ?_
  · (clear hSw; go_simp)
  simp only [Act.put, List.setIfInBounds_toArray, List.set_cons_zero, List.set_cons_succ]
  refine wpAnyH_take (i := 9) (oi := { dst := some 70, op := Op.extract (Operand.tmp 61) 0, type := 24, pos := "law.go:133", after := #[{ on := 8, ground := Ground.data }], guard := none }) (v := v) rfl (by kernel_rfl) (by kernel_rfl) (by kernel_rfl) (fun _ _ _ h => h) (Or.inl ⟨by rfl, fun w0 hSw => ?_⟩) hH1 ?_
  · (clear hSw; go_simp)
  simp only [Act.put, List.setIfInBounds_toArray, List.set_cons_zero, List.set_cons_succ]
  refine wpAnyH_take (i := 10) (oi := { dst := some 71, op := Op.extract (Operand.tmp 61) 1, type := 27, pos := "law.go:133", after := #[{ on := 8, ground := Ground.data }, { on := 11, ground := Ground.gcOnly Departure.lateStores }], guard := none }) (v := .int .i64 E) rfl (by kernel_rfl) (by kernel_rfl) (by kernel_rfl) (fun _ _ _ h => h) (Or.inl ⟨by rfl, fun w0 hSw => ?_⟩) hH1 ?_
  · (clear hSw; go_simp)
  simp only [Act.put, List.setIfInBounds_toArray, List.set_cons_zero, List.set_cons_succ]
  refine wpAnyH_take (i := 11) (oi := { dst := some 14, op := Op.assign (Operand.tmp 70), type := 24, pos := "law.go:133", after := #[{ on := 9, ground := Ground.data }, { on := 7, ground := Ground.chain }, { on := 0, ground := Ground.phase }, { on := 1, ground := Ground.phase }, { on := 2, ground := Ground.phase }, { on := 3, ground := Ground.phase }, { on := 4, ground := Ground.phase }, { on := 5, ground := Ground.phase }, { on := 6, ground := Ground.phase }, { on := 7, ground := Ground.phase }, { on := 8, ground := Ground.phase }, { on := 9, ground := Ground.phase }, { on := 10, ground := Ground.textOnly Departure.lateStores }], guard := none }) (v := v) rfl (by kernel_rfl) (by kernel_rfl) (by kernel_rfl) (fun _ _ _ h => h) (Or.inl ⟨by rfl, fun w0 hSw => ?_⟩) hH1 ?_
  · (clear hSw; go_simp)
  simp only [Act.put, List.setIfInBounds_toArray, List.set_cons_zero, List.set_cons_succ]
  refine wpAnyH_take (i := 12) (oi := { dst := some 15, op := Op.assign (Operand.tmp 71), type := 27, pos := "law.go:133", after := #[{ on := 10, ground := Ground.data }, { on := 11, ground := Ground.chain }, { on := 0, ground := Ground.phase }, { on := 1, ground := Ground.phase }, { on := 2, ground := Ground.phase }, { on := 3, ground := Ground.phase }, { on := 4, ground := Ground.phase }, { on := 5, ground := Ground.phase }, { on := 6, ground := Ground.phase }, { on := 7, ground := Ground.phase }, { on := 8, ground := Ground.phase }, { on := 9, ground := Ground.phase }, { on := 10, ground := Ground.phase }, { on := 11, ground := Ground.phase }], guard := none }) (v := .int .i64 E) rfl (by kernel_rfl) (by kernel_rfl) (by kernel_rfl) (fun _ _ _ h => h) (Or.inl ⟨by rfl, fun w0 hSw => ?_⟩) hH1 ?_
  · (clear hSw; go_simp)
  simp only [Act.put, List.setIfInBounds_toArray, List.set_cons_zero, List.set_cons_succ]
  have HH := hidden hH1
  have FQ := hidden (HQ.out v E F _ RA.out.1 RA.out.2 HH.out)
  refine wpAnyH_done (by kernel_rfl) ?_ _
  refine NoPanic.normal ?_
  exact FQ.out
def lb15o : Array Oper := #[{ dst := some 86, op := Op.load 23 (Operand.tmp 4), type := 23, pos := "law.go:136", after := #[], guard := none },
  { dst := some 87, op := Op.move (Operand.tmp 1), type := 3, pos := "law.go:136", after := #[], guard := none },
  { dst := some 88, op := Op.move (Operand.tmp 9), type := 24, pos := "law.go:136", after := #[], guard := none },
  { dst := some 89, op := Op.move (Operand.tmp 2), type := 24, pos := "law.go:136", after := #[], guard := none },
  { dst := some 90, op := Op.call { callee := Callee.builtin Builtin.len, args := #[Operand.tmp 89], argTypes := #[24] }, type := 3, pos := "law.go:136", after := #[{ on := 3, ground := Ground.data }], guard := none },
  { dst := some 91, op := Op.slice 24 (Operand.tmp 88) none (some (Operand.tmp 90)) none, type := 24, pos := "law.go:136", after := #[{ on := 2, ground := Ground.data }, { on := 4, ground := Ground.data }], guard := none },
  { dst := some 92, op := Op.move (Operand.tmp 12), type := 25, pos := "law.go:136", after := #[], guard := none },
  { dst := some 93, op := Op.call { callee := Callee.value (Operand.func 5), args := #[Operand.tmp 86, Operand.tmp 87, Operand.tmp 91, Operand.tmp 92], argTypes := #[23, 3, 24, 25] }, type := 28, pos := "law.go:136", after := #[{ on := 0, ground := Ground.data }, { on := 1, ground := Ground.data }, { on := 5, ground := Ground.data }, { on := 6, ground := Ground.data }], guard := none },
  { dst := some 85, op := Op.move (Operand.tmp 93), type := 28, pos := "law.go:136", after := #[{ on := 7, ground := Ground.data }], guard := none },
  { dst := some 94, op := Op.extract (Operand.tmp 85) 0, type := 24, pos := "law.go:136", after := #[{ on := 8, ground := Ground.data }], guard := none },
  { dst := some 95, op := Op.extract (Operand.tmp 85) 1, type := 27, pos := "law.go:136", after := #[{ on := 8, ground := Ground.data }, { on := 11, ground := Ground.gcOnly Departure.lateStores }], guard := none },
  { dst := some 20, op := Op.assign (Operand.tmp 94), type := 24, pos := "law.go:136", after := #[{ on := 9, ground := Ground.data }, { on := 7, ground := Ground.chain }, { on := 0, ground := Ground.phase }, { on := 1, ground := Ground.phase }, { on := 2, ground := Ground.phase }, { on := 3, ground := Ground.phase }, { on := 4, ground := Ground.phase }, { on := 5, ground := Ground.phase }, { on := 6, ground := Ground.phase }, { on := 7, ground := Ground.phase }, { on := 8, ground := Ground.phase }, { on := 9, ground := Ground.phase }, { on := 10, ground := Ground.textOnly Departure.lateStores }], guard := none },
  { dst := some 21, op := Op.assign (Operand.tmp 95), type := 27, pos := "law.go:136", after := #[{ on := 10, ground := Ground.data }, { on := 11, ground := Ground.chain }, { on := 0, ground := Ground.phase }, { on := 1, ground := Ground.phase }, { on := 2, ground := Ground.phase }, { on := 3, ground := Ground.phase }, { on := 4, ground := Ground.phase }, { on := 5, ground := Ground.phase }, { on := 6, ground := Ground.phase }, { on := 7, ground := Ground.phase }, { on := 8, ground := Ground.phase }, { on := 9, ground := Ground.phase }, { on := 10, ground := Ground.phase }, { on := 11, ground := Ground.phase }], guard := none }]
set_option maxRecDepth 100000 in
set_option maxHeartbeats 16000000 in
theorem lb15 (Q : Exit → Act → World → Prop) (h : Int) (bx ml cm f cf H n : Nat) (pm : Option Addr) (par : List UInt8) (AN : Int → List UInt8 → Prop) (u0 u3 u5 u6 u7 u8 u10 u11 u13 u14 u15 u16 u17 u18 u19 u20 u21 u22 u23 u24 u25 u26 u27 u28 u29 u30 u31 u32 u33 u34 u35 u36 u37 u38 u39 u40 u41 u42 u43 u44 u45 u46 u47 u48 u49 u50 u51 u52 u53 u54 u55 u56 u57 u58 u59 u60 u61 u62 u63 u64 u65 u66 u67 u68 u69 u70 u71 u72 u73 u74 u75 u76 u77 u78 u79 u80 u81 u82 u83 u84 u85 u86 u87 u88 u89 u90 u91 u92 u93 u94 u95 u96 u97 u98 u99 u100 u101 u102 u103 u104 u105 u106 u107 u108 u109 u110 u111 u112 u113 u114 u115 u116 u117 u118 u119 u120 u121 u122 u123 u124 u125 u126 u127 u128 u129 u130 u131 u132 u133 u134 u135 u136 u137 u138 u139 u140 : Value) (W : World)
    (d0 : (ml : Int) ≤ (cf : Int)) (d1 : (0 : Int) ≤ (ml : Int)) (K0 : Hid (W.rangeAt bx 0 (cb par))) (UT : Hid (Try.prog.underlying 23 = some (.array 64 5))) (IT : Hid ((Try.prog.info? 23).map (·.size) = some (cb par).length))
    (C7 : Hid (∀ y, Below W.heap.size W y → Calls Try.prog 5 #[.agg (cb par).toArray, .int .i64 h, .slice (some ⟨f, 0, none⟩) ml cf, .slice (some ⟨H, 0, none⟩) n n] y fun e w' => ∃ v E F, e = .returned (.tuple #[v, .int .i64 E]) ∧ AN E F ∧ w'.ownsRow y.heap.size 5 1 v F.length (cb F) ∧ Below y.heap.size y w'))
    (HQ : Hid (∀ (v : Value) (E : Int) (F : List UInt8) (wz : World), AN E F → wz.ownsRow W.heap.size 5 1 v F.length (cb F) → Below W.heap.size W wz → Q .normal ⟨#[u0, .int .i64 h, .slice pm ml cm, u3, .pointer (some ⟨bx, 0, none⟩), u5, u6, u7, u8, .slice (some ⟨f, 0, none⟩) (ml + 3) cf, u10, u11, .slice (some ⟨H, 0, none⟩) n n, u13, u14, u15, u16, u17, u18, u19, v, .int .i64 E, u22, u23, u24, u25, u26, u27, u28, u29, u30, u31, u32, u33, u34, u35, u36, u37, u38, u39, u40, u41, u42, u43, u44, u45, u46, u47, u48, u49, u50, u51, u52, u53, u54, u55, u56, u57, u58, u59, u60, u61, u62, u63, u64, u65, u66, u67, u68, u69, u70, u71, u72, u73, u74, u75, u76, u77, u78, u79, u80, u81, u82, u83, u84, .tuple #[v, .int .i64 E], .agg (cb par).toArray, .int .i64 h, .slice (some ⟨f, 0, none⟩) (ml + 3) cf, .slice pm ml cm, .int .i64 (ml : Int), .slice (some ⟨f, 0, none⟩) ml cf, .slice (some ⟨H, 0, none⟩) n n, .tuple #[v, .int .i64 E], v, .int .i64 E, u96, u97, u98, u99, u100, u101, u102, u103, u104, u105, u106, u107, u108, u109, u110, u111, u112, u113, u114, u115, u116, u117, u118, u119, u120, u121, u122, u123, u124, u125, u126, u127, u128, u129, u130, u131, u132, u133, u134, u135, u136, u137, u138, u139, u140], []⟩ wz)) : (Code.region 15 lb15o true).wp Try.prog Q ⟨#[u0, .int .i64 h, .slice pm ml cm, u3, .pointer (some ⟨bx, 0, none⟩), u5, u6, u7, u8, .slice (some ⟨f, 0, none⟩) (ml + 3) cf, u10, u11, .slice (some ⟨H, 0, none⟩) n n, u13, u14, u15, u16, u17, u18, u19, u20, u21, u22, u23, u24, u25, u26, u27, u28, u29, u30, u31, u32, u33, u34, u35, u36, u37, u38, u39, u40, u41, u42, u43, u44, u45, u46, u47, u48, u49, u50, u51, u52, u53, u54, u55, u56, u57, u58, u59, u60, u61, u62, u63, u64, u65, u66, u67, u68, u69, u70, u71, u72, u73, u74, u75, u76, u77, u78, u79, u80, u81, u82, u83, u84, u85, u86, u87, u88, u89, u90, u91, u92, u93, u94, u95, u96, u97, u98, u99, u100, u101, u102, u103, u104, u105, u106, u107, u108, u109, u110, u111, u112, u113, u114, u115, u116, u117, u118, u119, u120, u121, u122, u123, u124, u125, u126, u127, u128, u129, u130, u131, u132, u133, u134, u135, u136, u137, u138, u139, u140], []⟩ W := by
  unfold lb15o
  refine wp_region_noPanic ?_
  refine wp_region_held_drew (S := fun x => Below W.heap.size W x) (by kernel_rfl) (drew_blW W) (fun hH0 => ?_)
  refine wpAnyH_take (i := 0) (oi := { dst := some 86, op := Op.load 23 (Operand.tmp 4), type := 23, pos := "law.go:136", after := #[], guard := none }) (v := .agg (cb par).toArray) rfl (by kernel_rfl) (by kernel_rfl) (by kernel_rfl) (fun _ _ _ h => h) (yieldsIf_load_mid (by rfl) 23 _ rfl (bx) (0) rfl (cb par) _ (fun w0 hSw => fun j u hu => cell_keep (K0.out j u hu) hSw) UT.out rfl IT.out) hH0 ?_
  simp only [Act.put, List.setIfInBounds_toArray, List.set_cons_zero, List.set_cons_succ]
  refine wpAnyH_take (i := 1) (oi := { dst := some 87, op := Op.move (Operand.tmp 1), type := 3, pos := "law.go:136", after := #[], guard := none }) (v := .int .i64 h) rfl (by kernel_rfl) (by kernel_rfl) (by kernel_rfl) (fun _ _ _ h => h) (Or.inl ⟨by rfl, fun w0 hSw => ?_⟩) hH0 ?_
  · (clear hSw; go_simp)
  simp only [Act.put, List.setIfInBounds_toArray, List.set_cons_zero, List.set_cons_succ]
  refine wpAnyH_take (i := 2) (oi := { dst := some 88, op := Op.move (Operand.tmp 9), type := 24, pos := "law.go:136", after := #[], guard := none }) (v := .slice (some ⟨f, 0, none⟩) (ml + 3) cf) rfl (by kernel_rfl) (by kernel_rfl) (by kernel_rfl) (fun _ _ _ h => h) (Or.inl ⟨by rfl, fun w0 hSw => ?_⟩) hH0 ?_
  · (clear hSw; go_simp)
  simp only [Act.put, List.setIfInBounds_toArray, List.set_cons_zero, List.set_cons_succ]
  refine wpAnyH_take (i := 3) (oi := { dst := some 89, op := Op.move (Operand.tmp 2), type := 24, pos := "law.go:136", after := #[], guard := none }) (v := .slice pm ml cm) rfl (by kernel_rfl) (by kernel_rfl) (by kernel_rfl) (fun _ _ _ h => h) (Or.inl ⟨by rfl, fun w0 hSw => ?_⟩) hH0 ?_
  · (clear hSw; go_simp)
  simp only [Act.put, List.setIfInBounds_toArray, List.set_cons_zero, List.set_cons_succ]
  refine wpAnyH_take (i := 6) (oi := { dst := some 92, op := Op.move (Operand.tmp 12), type := 25, pos := "law.go:136", after := #[], guard := none }) (v := .slice (some ⟨H, 0, none⟩) n n) rfl (by kernel_rfl) (by kernel_rfl) (by kernel_rfl) (fun _ _ _ h => h) (Or.inl ⟨by rfl, fun w0 hSw => ?_⟩) hH0 ?_
  · (clear hSw; go_simp)
  simp only [Act.put, List.setIfInBounds_toArray, List.set_cons_zero, List.set_cons_succ]
  refine wpAnyH_take (i := 4) (oi := { dst := some 90, op := Op.call { callee := Callee.builtin Builtin.len, args := #[Operand.tmp 89], argTypes := #[24] }, type := 3, pos := "law.go:136", after := #[{ on := 3, ground := Ground.data }], guard := none }) (v := .int .i64 (ml : Int)) rfl (by kernel_rfl) (by kernel_rfl) (by kernel_rfl) (fun _ _ _ h => h) (Or.inl ⟨by rfl, fun w0 hSw => ?_⟩) hH0 ?_
  · (clear hSw; go_simp)
  simp only [Act.put, List.setIfInBounds_toArray, List.set_cons_zero, List.set_cons_succ]
  refine wpAnyH_take (i := 5) (oi := { dst := some 91, op := Op.slice 24 (Operand.tmp 88) none (some (Operand.tmp 90)) none, type := 24, pos := "law.go:136", after := #[{ on := 2, ground := Ground.data }, { on := 4, ground := Ground.data }], guard := none }) (v := .slice (some ⟨f, 0, none⟩) ml cf) rfl (by kernel_rfl) (by kernel_rfl) (by kernel_rfl) (fun _ _ _ h => h) (Or.inl ⟨by rfl, fun w0 hSw => ?_⟩) hH0 ?_
  · (clear hSw; go_simp)
  simp only [Act.put, List.setIfInBounds_toArray, List.set_cons_zero, List.set_cons_succ]
  refine wpAnyH_ready (rs := [7]) (by kernel_rfl) (by simp) ?_
  refine AllReadyH.cons (o := { dst := some 93, op := Op.call { callee := Callee.value (Operand.func 5), args := #[Operand.tmp 86, Operand.tmp 87, Operand.tmp 91, Operand.tmp 92], argTypes := #[23, 3, 24, 25] }, type := 28, pos := "law.go:136", after := #[{ on := 0, ground := Ground.data }, { on := 1, ground := Ground.data }, { on := 5, ground := Ground.data }, { on := 6, ground := Ground.data }], guard := none }) rfl (fun K hK => ?_) AllReadyH.nil
  have HH := hidden hH0
  clear hH0
  go_simp
  refine (C7.out _ HH.out).mono ?_
  rintro e wn1 ⟨v, E, F, rfl, ha, ho, hb⟩
  have RA := hidden (And.intro ha (own_less ho HH.out.size))
  have SN := hidden (bl_trans HH.out hb)
  clear HH C7 ha ho hb
  go_wp2_with fail
  refine hK.out _ _ SN.out (fun hH1 => ?_)
  clear hK K SN
  refine wpAnyH_take (i := 8) (oi := { dst := some 85, op := Op.move (Operand.tmp 93), type := 28, pos := "law.go:136", after := #[{ on := 7, ground := Ground.data }], guard := none }) (v := .tuple #[v, .int .i64 E]) rfl (by kernel_rfl) (by kernel_rfl) (by kernel_rfl) (fun _ _ _ h => h) (Or.inl ⟨by rfl, fun w0 hSw => ?_⟩) hH1 ?_
  · (clear hSw; go_simp)
  simp only [Act.put, List.setIfInBounds_toArray, List.set_cons_zero, List.set_cons_succ]
  refine wpAnyH_take (i := 9) (oi := { dst := some 94, op := Op.extract (Operand.tmp 85) 0, type := 24, pos := "law.go:136", after := #[{ on := 8, ground := Ground.data }], guard := none }) (v := v) rfl (by kernel_rfl) (by kernel_rfl) (by kernel_rfl) (fun _ _ _ h => h) (Or.inl ⟨by rfl, fun w0 hSw => ?_⟩) hH1 ?_
  · (clear hSw; go_simp)
  simp only [Act.put, List.setIfInBounds_toArray, List.set_cons_zero, List.set_cons_succ]
  refine wpAnyH_take (i := 10) (oi := { dst := some 95, op := Op.extract (Operand.tmp 85) 1, type := 27, pos := "law.go:136", after := #[{ on := 8, ground := Ground.data }, { on := 11, ground := Ground.gcOnly Departure.lateStores }], guard := none }) (v := .int .i64 E) rfl (by kernel_rfl) (by kernel_rfl) (by kernel_rfl) (fun _ _ _ h => h) (Or.inl ⟨by rfl, fun w0 hSw => ?_⟩) hH1 ?_
  · (clear hSw; go_simp)
  simp only [Act.put, List.setIfInBounds_toArray, List.set_cons_zero, List.set_cons_succ]
  refine wpAnyH_take (i := 11) (oi := { dst := some 20, op := Op.assign (Operand.tmp 94), type := 24, pos := "law.go:136", after := #[{ on := 9, ground := Ground.data }, { on := 7, ground := Ground.chain }, { on := 0, ground := Ground.phase }, { on := 1, ground := Ground.phase }, { on := 2, ground := Ground.phase }, { on := 3, ground := Ground.phase }, { on := 4, ground := Ground.phase }, { on := 5, ground := Ground.phase }, { on := 6, ground := Ground.phase }, { on := 7, ground := Ground.phase }, { on := 8, ground := Ground.phase }, { on := 9, ground := Ground.phase }, { on := 10, ground := Ground.textOnly Departure.lateStores }], guard := none }) (v := v) rfl (by kernel_rfl) (by kernel_rfl) (by kernel_rfl) (fun _ _ _ h => h) (Or.inl ⟨by rfl, fun w0 hSw => ?_⟩) hH1 ?_
  · (clear hSw; go_simp)
  simp only [Act.put, List.setIfInBounds_toArray, List.set_cons_zero, List.set_cons_succ]
  refine wpAnyH_take (i := 12) (oi := { dst := some 21, op := Op.assign (Operand.tmp 95), type := 27, pos := "law.go:136", after := #[{ on := 10, ground := Ground.data }, { on := 11, ground := Ground.chain }, { on := 0, ground := Ground.phase }, { on := 1, ground := Ground.phase }, { on := 2, ground := Ground.phase }, { on := 3, ground := Ground.phase }, { on := 4, ground := Ground.phase }, { on := 5, ground := Ground.phase }, { on := 6, ground := Ground.phase }, { on := 7, ground := Ground.phase }, { on := 8, ground := Ground.phase }, { on := 9, ground := Ground.phase }, { on := 10, ground := Ground.phase }, { on := 11, ground := Ground.phase }], guard := none }) (v := .int .i64 E) rfl (by kernel_rfl) (by kernel_rfl) (by kernel_rfl) (fun _ _ _ h => h) (Or.inl ⟨by rfl, fun w0 hSw => ?_⟩) hH1 ?_
  · (clear hSw; go_simp)
  simp only [Act.put, List.setIfInBounds_toArray, List.set_cons_zero, List.set_cons_succ]
  have HH := hidden hH1
  have FQ := hidden (HQ.out v E F _ RA.out.1 RA.out.2 HH.out)
  refine wpAnyH_done (by kernel_rfl) ?_ _
  refine NoPanic.normal ?_
  exact FQ.out
end Go.Proofs.Ytcecpfcekejblaa
