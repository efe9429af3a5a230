import Derived.Test.YtpblcnefihhhoaaDoorVxC
import Derived.Test.YtpblcnefihhhoaaDoorSrv
import Derived.Test.YtpblcnefihhhoaaDoorSrb
namespace Go.Proofs.YtpblcnefihhhoaaDoor
open Go.RowKit
set_option linter.unusedVariables false
set_option maxRecDepth 100000 in
set_option maxHeartbeats 8000000 in
theorem Delta_in (B C n : Nat) (hn : B * C = n) (hB0 : 1 ≤ B) (hB : B ≤ 64) (hC0 : 1 ≤ C) (hC : C ≤ 16) (hal : al B C = true) (y z : E4) (hy : y.ok) (hz : z.ok) (w : World) (hT : Tb w) :
    Calls Tryd.prog 10 #[.agg #[.int .i64 B, .int .i64 C], y.v, z.v] w fun e w' => e = .returned (.tuple #[(lst (dw B C n y.n z.n)).v, .int .i64 0]) ∧ Below w.heap.size w w' := by
  have AL := hidden (fun w => Allowed_any B C w)
  rw [hal] at AL
  have DE := hidden (fun x T => delta_any B C n hn hB0 hB hC0 hC y z hy hz x T)
  obtain ⟨r, hr⟩ : ∃ r, lst (dw B C n y.n z.n) = r := ⟨_, rfl⟩
  rw [hr] at DE
  rw [hr]
  have HR := hidden hr
  have M0 := (Mw.start w).new [.int .i64 B, .int .i64 C] 23
  have M1 := M0.new [.int .u64 y.x0, .int .u64 y.x1, .int .u64 y.x2, .int .u64 y.x3] 27
  rw [World.size_alloc] at M1
  have M2 := M1.new [.int .u64 z.x0, .int .u64 z.x1, .int .u64 z.x2, .int .u64 z.x3] 27
  simp only [World.size_alloc] at M2
  have M3 := M2.new [.int .u64 0, .int .u64 0, .int .u64 0, .int .u64 0] 27
  simp only [World.size_alloc] at M3
  have MM := hidden M3
  have HT := hidden hT
  clear M0 M1 M2 M3 hal hT hy hz hr hn hB0 hB hC0 hC
  simp only [E4.v] at DE ⊢
  go_enter Tryd.func10, Tryd.ntmps10
  go_upto_region 1 with fail
  generalize (((w.alloc (.cells #[.int .i64 B, .int .i64 C] 23)).alloc (.cells #[.int .u64 y.x0, .int .u64 y.x1, .int .u64 y.x2, .int .u64 y.x3] 27)).alloc (.cells #[.int .u64 z.x0, .int .u64 z.x1, .int .u64 z.x2, .int .u64 z.x3] 27)).alloc (.cells #[.int .u64 0, .int .u64 0, .int .u64 0, .int .u64 0] 27) = w4 at *
  have x0 := (MM.out.r (w.heap.size, [.int .i64 B, .int .i64 C]) (by simp)).1 0 _ rfl
  have x1 := (MM.out.r (w.heap.size, [.int .i64 B, .int .i64 C]) (by simp)).1 1 _ rfl
  simp only [Nat.zero_add] at x0 x1
  go_upto_region 3 with (first | (go_at_call 11; refine (AL.out _).mono ?_; rintro e w5 ⟨rfl, hb⟩; have M5 := hidden (MM.out.keep hb); clear hb MM x0 x1))
  have rP := (M5.out.r (w.heap.size, [.int .i64 B, .int .i64 C]) (by simp)).1
  have rY := (M5.out.r (w.heap.size + 1, [.int .u64 y.x0, .int .u64 y.x1, .int .u64 y.x2, .int .u64 y.x3]) (by simp)).1
  have rZ := (M5.out.r (w.heap.size + 1 + 1, [.int .u64 z.x0, .int .u64 z.x1, .int .u64 z.x2, .int .u64 z.x3]) (by simp)).1
  have p0 := rP 0 _ rfl; have p1 := rP 1 _ rfl
  have y0 := rY 0 _ rfl; have y1 := rY 1 _ rfl; have y2 := rY 2 _ rfl; have y3 := rY 3 _ rfl
  have z0 := rZ 0 _ rfl; have z1 := rZ 1 _ rfl; have z2 := rZ 2 _ rfl; have z3 := rZ 3 _ rfl
  simp only [Nat.zero_add] at p0 p1 y0 y1 y2 y3 z0 z1 z2 z3
  clear rP rY rZ
  go_wp2_with (first | (go_at_call 22; refine (DE.out _ (HT.out.keep M5.out.bel)).mono ?_; rintro e w6 ⟨rfl, hb⟩; have M6 := hidden (M5.out.keep hb); clear hb M5 p0 p1 y0 y1 y2 y3 z0 z1 z2 z3; have TH := hidden (M6.out.ther [.int .u64 r.x0, .int .u64 r.x1, .int .u64 r.x2, .int .u64 r.x3] (c := w.heap.size + 1 + 1 + 1) (o := [.int .u64 0, .int .u64 0, .int .u64 0, .int .u64 0]) (by simp) rfl)) | (refine wpList_storeL rfl 27 _ _ rfl rfl (w.heap.size + 1 + 1 + 1) 0 [.int .u64 r.x0, .int .u64 r.x1, .int .u64 r.x2, .int .u64 r.x3] (by rfl) (by rfl) TH.out i4_s (one4 r) ?_; have MF := hidden (M6.out.set (M := []) [.int .u64 r.x0, .int .u64 r.x1, .int .u64 r.x2, .int .u64 r.x3] (c := w.heap.size + 1 + 1 + 1) (o := [.int .u64 0, .int .u64 0, .int .u64 0, .int .u64 0]) (by simp) rfl (by simp)); clear M6; generalize World.setCells _ (w.heap.size + 1 + 1 + 1) 0 [.int .u64 r.x0, .int .u64 r.x1, .int .u64 r.x2, .int .u64 r.x3] = wf at *))
  have LD := hidden (MF.out.var (c := w.heap.size + 1 + 1 + 1) (ds := [.int .u64 r.x0, .int .u64 r.x1, .int .u64 r.x2, .int .u64 r.x3]) (by simp) Tryd.underlying27 rfl i4_s)
  refine bodyPost_ret (v := .tuple #[.agg [.int .u64 r.x0, .int .u64 r.x1, .int .u64 r.x2, .int .u64 r.x3].toArray, .int .i64 0]) (results_tupM Tryd.results10 _ _ _ _ _ _ (by rfl) (by rfl) LD.out) rfl ⟨rfl, MF.out.bel⟩
set_option maxRecDepth 100000 in
set_option maxHeartbeats 8000000 in
theorem Delta_out (B C : Int) (hal : al B C = false) (y z : E4) (hy : y.ok) (hz : z.ok) (w : World) (hT : Tb w) :
    Calls Tryd.prog 10 #[.agg #[.int .i64 B, .int .i64 C], y.v, z.v] w fun e w' => e = .returned (.tuple #[zero4.v, .int .i64 130]) ∧ Below w.heap.size w w' := by
  have AL := hidden (fun w => Allowed_any B C w)
  rw [hal] at AL
  skip
  obtain ⟨r, hr⟩ : ∃ r, zero4 = r := ⟨_, rfl⟩
  skip
  rw [hr]
  skip
  have M0 := (Mw.start w).new [.int .i64 B, .int .i64 C] 23
  have M1 := M0.new [.int .u64 y.x0, .int .u64 y.x1, .int .u64 y.x2, .int .u64 y.x3] 27
  rw [World.size_alloc] at M1
  have M2 := M1.new [.int .u64 z.x0, .int .u64 z.x1, .int .u64 z.x2, .int .u64 z.x3] 27
  simp only [World.size_alloc] at M2
  have M3 := M2.new [.int .u64 0, .int .u64 0, .int .u64 0, .int .u64 0] 27
  simp only [World.size_alloc] at M3
  have MM := hidden M3
  have HT := hidden hT
  clear M0 M1 M2 M3 hal hT hy hz
  unfold E4.v
  go_enter Tryd.func10, Tryd.ntmps10
  go_upto_region 1 with fail
  generalize (((w.alloc (.cells #[.int .i64 B, .int .i64 C] 23)).alloc (.cells #[.int .u64 y.x0, .int .u64 y.x1, .int .u64 y.x2, .int .u64 y.x3] 27)).alloc (.cells #[.int .u64 z.x0, .int .u64 z.x1, .int .u64 z.x2, .int .u64 z.x3] 27)).alloc (.cells #[.int .u64 0, .int .u64 0, .int .u64 0, .int .u64 0] 27) = w4 at *
  have x0 := (MM.out.r (w.heap.size, [.int .i64 B, .int .i64 C]) (by simp)).1 0 _ rfl
  have x1 := (MM.out.r (w.heap.size, [.int .i64 B, .int .i64 C]) (by simp)).1 1 _ rfl
  simp only [Nat.zero_add] at x0 x1
  go_upto_region 2 with (first | (go_at_call 11; refine (AL.out _).mono ?_; rintro e w5 ⟨rfl, hb⟩; have M5 := hidden (MM.out.keep hb); clear hb MM x0 x1))
  subst hr
  have TH := hidden (M5.out.ther [.int .u64 0, .int .u64 0, .int .u64 0, .int .u64 0] (c := w.heap.size + 1 + 1 + 1) (o := [.int .u64 0, .int .u64 0, .int .u64 0, .int .u64 0]) (by simp) rfl)
  have MF := hidden (M5.out.set (M := []) [.int .u64 0, .int .u64 0, .int .u64 0, .int .u64 0] (c := w.heap.size + 1 + 1 + 1) (o := [.int .u64 0, .int .u64 0, .int .u64 0, .int .u64 0]) (by simp) rfl (by simp))
  go_wp2_with (first | (refine wpList_storeL rfl 27 _ _ rfl rfl (w.heap.size + 1 + 1 + 1) 0 [.int .u64 0, .int .u64 0, .int .u64 0, .int .u64 0] (by rfl) (by rfl) TH.out i4_s (one4 zero4) ?_; generalize World.setCells _ (w.heap.size + 1 + 1 + 1) 0 [.int .u64 0, .int .u64 0, .int .u64 0, .int .u64 0] = wf at *))
  have LD := hidden (MF.out.var (c := w.heap.size + 1 + 1 + 1) (ds := [.int .u64 0, .int .u64 0, .int .u64 0, .int .u64 0]) (by simp) Tryd.underlying27 rfl i4_s)
  refine bodyPost_ret (v := .tuple #[.agg [.int .u64 0, .int .u64 0, .int .u64 0, .int .u64 0].toArray, .int .i64 130]) (results_tupM Tryd.results10 _ _ _ _ _ _ (by rfl) (by rfl) LD.out) rfl ⟨rfl, MF.out.bel⟩
def rd5o : Array Oper := #[{ dst := some 20, op := Op.load 34 (Operand.tmp 7), type := 34, pos := "ranges.go:160", after := #[], guard := none },
  { dst := some 21, op := Op.load 34 (Operand.tmp 4), type := 34, pos := "ranges.go:160", after := #[], guard := none },
  { dst := some 22, op := Op.move (Operand.tmp 8), type := 3, pos := "ranges.go:160", after := #[], guard := none },
  { dst := some 23, op := Op.call { callee := Callee.value (Operand.func 24), args := #[Operand.tmp 21, Operand.tmp 22], argTypes := #[34, 3] }, type := 34, pos := "ranges.go:160", after := #[{ on := 1, ground := Ground.data }, { on := 2, ground := Ground.data }], guard := none },
  { dst := some 24, op := Op.call { callee := Callee.value (Operand.func 23), args := #[Operand.tmp 20, Operand.tmp 23], argTypes := #[34, 34] }, type := 34, pos := "ranges.go:160", after := #[{ on := 0, ground := Ground.data }, { on := 3, ground := Ground.data }, { on := 3, ground := Ground.chain }], guard := none },
  { dst := none, op := Op.store 34 (Operand.tmp 7) (Operand.tmp 24), type := 0, pos := "ranges.go:160", after := #[{ on := 4, ground := Ground.data }, { on := 4, ground := Ground.chain }, { on := 0, ground := Ground.phase }, { on := 1, ground := Ground.phase }, { on := 2, ground := Ground.phase }, { on := 3, ground := Ground.phase }, { on := 4, ground := Ground.phase }], guard := none }]
set_option maxRecDepth 100000 in
set_option maxHeartbeats 16000000 in
theorem rd5 (Q : Exit → Act → World → Prop) (T4 T7 i : Nat) (y p v q : E4) (u0 u1 u2 u3 u5 u6 u9 u10 u11 u12 u13 u14 u15 u16 u17 u18 u19 u20 u21 u22 u23 u24 u25 u26 u27 u28 u29 u30 u31 u32 u33 u34 u35 u36 u37 u38 u39 u40 u41 u42 u43 u44 u45 u46 u47 u48 u49 u50 u51 u52 u53 u54 u55 u56 u57 u58 : Value) (W : World)
    (ht : W.there T7 0 4) (hf : Blc W T7 p)
    (ne_cy : T4 ≠ T7) (cy0 : W.cell? ⟨T4, 0, none⟩ = some (.int .u64 y.x0)) (cy1 : W.cell? ⟨T4, 1, none⟩ = some (.int .u64 y.x1)) (cy2 : W.cell? ⟨T4, 2, none⟩ = some (.int .u64 y.x2)) (cy3 : W.cell? ⟨T4, 3, none⟩ = some (.int .u64 y.x3))
    (C3 : Hid (∀ x, Calls Tryd.prog 24 #[.agg #[.int .u64 y.x0, .int .u64 y.x1, .int .u64 y.x2, .int .u64 y.x3], .int .i64 (i : Int)] x fun e w' => e = .returned (.agg #[.int .u64 v.x0, .int .u64 v.x1, .int .u64 v.x2, .int .u64 v.x3]) ∧ Below x.heap.size x w')) (C4 : Hid (∀ x, Calls Tryd.prog 23 #[.agg #[.int .u64 p.x0, .int .u64 p.x1, .int .u64 p.x2, .int .u64 p.x3], .agg #[.int .u64 v.x0, .int .u64 v.x1, .int .u64 v.x2, .int .u64 v.x3]] x fun e w' => e = .returned (.agg #[.int .u64 q.x0, .int .u64 q.x1, .int .u64 q.x2, .int .u64 q.x3]) ∧ Below x.heap.size x w'))
    (HQ : Hid (∀ wz, W.grownBy wz (some T7) → wz.rangeAt T7 0 [.int .u64 q.x0, .int .u64 q.x1, .int .u64 q.x2, .int .u64 q.x3] → wz.there T7 0 4 → Q .normal ⟨#[u0, u1, u2, u3, .pointer (some ⟨T4, 0, none⟩), u5, u6, .pointer (some ⟨T7, 0, none⟩), .int .i64 (i : Int), u9, u10, u11, u12, u13, u14, u15, u16, u17, u18, u19, .agg #[.int .u64 p.x0, .int .u64 p.x1, .int .u64 p.x2, .int .u64 p.x3], .agg #[.int .u64 y.x0, .int .u64 y.x1, .int .u64 y.x2, .int .u64 y.x3], .int .i64 (i : Int), .agg #[.int .u64 v.x0, .int .u64 v.x1, .int .u64 v.x2, .int .u64 v.x3], .agg #[.int .u64 q.x0, .int .u64 q.x1, .int .u64 q.x2, .int .u64 q.x3], u25, u26, u27, u28, u29, u30, u31, u32, u33, u34, u35, u36, u37, u38, u39, u40, u41, u42, u43, u44, u45, u46, u47, u48, u49, u50, u51, u52, u53, u54, u55, u56, u57, u58], []⟩ wz)) : (Code.region 5 rd5o true).wp Tryd.prog Q ⟨#[u0, u1, u2, u3, .pointer (some ⟨T4, 0, none⟩), u5, u6, .pointer (some ⟨T7, 0, none⟩), .int .i64 (i : Int), u9, u10, u11, u12, u13, u14, u15, u16, u17, u18, u19, u20, u21, u22, u23, u24, u25, u26, u27, u28, u29, u30, u31, u32, u33, u34, u35, u36, u37, u38, u39, u40, u41, u42, u43, u44, u45, u46, u47, u48, u49, u50, u51, u52, u53, u54, u55, u56, u57, u58], []⟩ W := by
  have TH := hidden (there_keepM ht (bl_drew W))
  have FT := hidden (hf.keep (bl_drew W))
  clear ht hf
  unfold rd5o
  refine wp_region_noPanic ?_
  refine wp_region_held_drew (S := fun x => W.grownBy x (some T7)) (by kernel_rfl) (gbI (bl_drew W) _) (fun hH0 => ?_)
  refine wpAnyH_take (i := 1) (oi := { dst := some 21, op := Op.load 34 (Operand.tmp 4), type := 34, pos := "ranges.go:160", after := #[], guard := none }) (v := .agg #[.int .u64 y.x0, .int .u64 y.x1, .int .u64 y.x2, .int .u64 y.x3]) rfl (by kernel_rfl) (by kernel_rfl) (by kernel_rfl) (fun _ _ _ h => h) (Or.inl ⟨by rfl, fun w0 hSw => ?_⟩) hH0 ?_
  · (have hS : W.grownBy w0 (some T7) := hSw; have a0 := hS.cell cy0 (fun e => ne_cy (Option.some.inj e)); have a1 := hS.cell cy1 (fun e => ne_cy (Option.some.inj e)); have a2 := hS.cell cy2 (fun e => ne_cy (Option.some.inj e)); have a3 := hS.cell cy3 (fun e => ne_cy (Option.some.inj e)); clear hS hSw; go_simp)
  simp only [Act.put, List.setIfInBounds_toArray, List.set_cons_zero, List.set_cons_succ]
  refine wpAnyH_take (i := 2) (oi := { dst := some 22, op := Op.move (Operand.tmp 8), type := 3, pos := "ranges.go:160", after := #[], guard := none }) (v := .int .i64 (i : Int)) rfl (by kernel_rfl) (by kernel_rfl) (by kernel_rfl) (fun _ _ _ h => h) (Or.inl ⟨by rfl, fun w0 hSw => ?_⟩) hH0 ?_
  · (clear hSw; go_simp)
  simp only [Act.put, List.setIfInBounds_toArray, List.set_cons_zero, List.set_cons_succ]
  refine wpAnyH_ready (rs := [0, 3]) (by kernel_rfl) (by simp) ?_
  refine AllReadyH.cons (o := { dst := some 20, op := Op.load 34 (Operand.tmp 7), type := 34, pos := "ranges.go:160", after := #[], guard := none }) rfl (fun K hK => ?_) (AllReadyH.cons (o := { dst := some 23, op := Op.call { callee := Callee.value (Operand.func 24), args := #[Operand.tmp 21, Operand.tmp 22], argTypes := #[34, 3] }, type := 34, pos := "ranges.go:160", after := #[{ on := 1, ground := Ground.data }, { on := 2, ground := Ground.data }], guard := none }) rfl (fun K hK => ?_) AllReadyH.nil)
  · have HH := hidden hH0
    clear hH0
    have q0 := FT.out.c0
    have q1 := FT.out.c1
    have q2 := FT.out.c2
    have q3 := FT.out.c3
    go_wp2_with fail
    refine hK.out _ _ HH.out (fun hH1 => ?_)
    clear hK K HH q0 q1 q2 q3
    refine wpAnyH_ready (rs := [3]) (by kernel_rfl) (by simp) ?_
    refine AllReadyH.cons (o := { dst := some 23, op := Op.call { callee := Callee.value (Operand.func 24), args := #[Operand.tmp 21, Operand.tmp 22], argTypes := #[34, 3] }, type := 34, pos := "ranges.go:160", after := #[{ on := 1, ground := Ground.data }, { on := 2, ground := Ground.data }], guard := none }) rfl (fun K hK => ?_) AllReadyH.nil
    have HH := hidden hH1
    clear hH1
    go_simp
    refine (C3.out _).mono ?_
    rintro e wn2 ⟨rfl, hb⟩
    replace TH := hidden (there_keepM TH.out hb)
    replace FT := hidden (FT.out.keep hb)
    have SN := hidden (HH.out.trans (gbI hb _))
    clear HH hb C3
    go_wp2_with fail
    refine hK.out _ _ SN.out (fun hH2 => ?_)
    clear hK K SN
    refine wpAnyH_ready (rs := [4]) (by kernel_rfl) (by simp) ?_
    refine AllReadyH.cons (o := { dst := some 24, op := Op.call { callee := Callee.value (Operand.func 23), args := #[Operand.tmp 20, Operand.tmp 23], argTypes := #[34, 34] }, type := 34, pos := "ranges.go:160", after := #[{ on := 0, ground := Ground.data }, { on := 3, ground := Ground.data }, { on := 3, ground := Ground.chain }], guard := none }) rfl (fun K hK => ?_) AllReadyH.nil
    have HH := hidden hH2
    clear hH2
    go_simp
    refine (C4.out _).mono ?_
    rintro e wn3 ⟨rfl, hb⟩
    replace TH := hidden (there_keepM TH.out hb)
    replace FT := hidden (FT.out.keep hb)
    have SN := hidden (HH.out.trans (gbI hb _))
    clear HH hb C4
    go_wp2_with fail
    refine hK.out _ _ SN.out (fun hH3 => ?_)
    clear hK K SN
    have HH := hidden hH3
    clear hH3
    refine wpAnyH_ready (rs := [5]) (by kernel_rfl) (by simp) ?_
    refine AllReadyH.cons (o := { dst := none, op := Op.store 34 (Operand.tmp 7) (Operand.tmp 24), type := 0, pos := "ranges.go:160", after := #[{ on := 4, ground := Ground.data }, { on := 4, ground := Ground.chain }, { on := 0, ground := Ground.phase }, { on := 1, ground := Ground.phase }, { on := 2, ground := Ground.phase }, { on := 3, ground := Ground.phase }, { on := 4, ground := Ground.phase }], guard := none }) rfl (fun K hK => ?_) AllReadyH.nil
    refine wp_store_mid 34 _ _ rfl T7 0 ([.int .u64 q.x0, .int .u64 q.x1, .int .u64 q.x2, .int .u64 q.x3]).toArray (by rfl) (by rfl) TH.out i4_r (one4 q) ?_
    have FQ := hidden (HQ.out _ (HH.out.trans (gb_setCells T7 _ 0 _)) (World.rangeAt_setCells_same _ T7 0 _ TH.out) (there_setM TH.out T7 _))
    refine hK.out _ _ (HH.out.trans (gb_setCells T7 _ 0 _)) (fun hF => ?_)
    clear hK K HH
    refine wpAnyH_done (by kernel_rfl) ?_ _
    refine NoPanic.normal ?_
    exact FQ.out
  · have HH := hidden hH0
    clear hH0
    go_simp
    refine (C3.out _).mono ?_
    rintro e wn1 ⟨rfl, hb⟩
    replace TH := hidden (there_keepM TH.out hb)
    replace FT := hidden (FT.out.keep hb)
    have SN := hidden (HH.out.trans (gbI hb _))
    clear HH hb C3
    go_wp2_with fail
    refine hK.out _ _ SN.out (fun hH1 => ?_)
    clear hK K SN
    refine wpAnyH_ready (rs := [0]) (by kernel_rfl) (by simp) ?_
    refine AllReadyH.cons (o := { dst := some 20, op := Op.load 34 (Operand.tmp 7), type := 34, pos := "ranges.go:160", after := #[], guard := none }) rfl (fun K hK => ?_) AllReadyH.nil
    have HH := hidden hH1
    clear hH1
    have q0 := FT.out.c0
    have q1 := FT.out.c1
    have q2 := FT.out.c2
    have q3 := FT.out.c3
    go_wp2_with fail
    refine hK.out _ _ HH.out (fun hH2 => ?_)
    clear hK K HH q0 q1 q2 q3
    refine wpAnyH_ready (rs := [4]) (by kernel_rfl) (by simp) ?_
    refine AllReadyH.cons (o := { dst := some 24, op := Op.call { callee := Callee.value (Operand.func 23), args := #[Operand.tmp 20, Operand.tmp 23], argTypes := #[34, 34] }, type := 34, pos := "ranges.go:160", after := #[{ on := 0, ground := Ground.data }, { on := 3, ground := Ground.data }, { on := 3, ground := Ground.chain }], guard := none }) rfl (fun K hK => ?_) AllReadyH.nil
    have HH := hidden hH2
    clear hH2
    go_simp
    refine (C4.out _).mono ?_
    rintro e wn3 ⟨rfl, hb⟩
    replace TH := hidden (there_keepM TH.out hb)
    replace FT := hidden (FT.out.keep hb)
    have SN := hidden (HH.out.trans (gbI hb _))
    clear HH hb C4
    go_wp2_with fail
    refine hK.out _ _ SN.out (fun hH3 => ?_)
    clear hK K SN
    have HH := hidden hH3
    clear hH3
    refine wpAnyH_ready (rs := [5]) (by kernel_rfl) (by simp) ?_
    refine AllReadyH.cons (o := { dst := none, op := Op.store 34 (Operand.tmp 7) (Operand.tmp 24), type := 0, pos := "ranges.go:160", after := #[{ on := 4, ground := Ground.data }, { on := 4, ground := Ground.chain }, { on := 0, ground := Ground.phase }, { on := 1, ground := Ground.phase }, { on := 2, ground := Ground.phase }, { on := 3, ground := Ground.phase }, { on := 4, ground := Ground.phase }], guard := none }) rfl (fun K hK => ?_) AllReadyH.nil
    refine wp_store_mid 34 _ _ rfl T7 0 ([.int .u64 q.x0, .int .u64 q.x1, .int .u64 q.x2, .int .u64 q.x3]).toArray (by rfl) (by rfl) TH.out i4_r (one4 q) ?_
    have FQ := hidden (HQ.out _ (HH.out.trans (gb_setCells T7 _ 0 _)) (World.rangeAt_setCells_same _ T7 0 _ TH.out) (there_setM TH.out T7 _))
    refine hK.out _ _ (HH.out.trans (gb_setCells T7 _ 0 _)) (fun hF => ?_)
    clear hK K HH
    refine wpAnyH_done (by kernel_rfl) ?_ _
    refine NoPanic.normal ?_
    exact FQ.out
def rd11o : Array Oper := #[{ dst := some 39, op := Op.load 34 (Operand.tmp 10), type := 34, pos := "ranges.go:165", after := #[], guard := none },
  { dst := some 40, op := Op.move (Operand.tmp 11), type := 3, pos := "ranges.go:165", after := #[], guard := none },
  { dst := some 41, op := Op.binOp BinOp.shl 25 (Operand.const (Value.int IntKind.u64 1)) (Operand.tmp 40) 3, type := 25, pos := "ranges.go:165", after := #[{ on := 1, ground := Ground.data }], guard := none },
  { dst := some 42, op := Op.call { callee := Callee.value (Operand.func 27), args := #[Operand.tmp 41], argTypes := #[25] }, type := 34, pos := "ranges.go:165", after := #[{ on := 2, ground := Ground.data }], guard := none },
  { dst := some 43, op := Op.call { callee := Callee.value (Operand.func 23), args := #[Operand.tmp 39, Operand.tmp 42], argTypes := #[34, 34] }, type := 34, pos := "ranges.go:165", after := #[{ on := 0, ground := Ground.data }, { on := 3, ground := Ground.data }, { on := 3, ground := Ground.chain }], guard := none },
  { dst := none, op := Op.store 34 (Operand.tmp 10) (Operand.tmp 43), type := 0, pos := "ranges.go:165", after := #[{ on := 4, ground := Ground.data }, { on := 4, ground := Ground.chain }, { on := 0, ground := Ground.phase }, { on := 1, ground := Ground.phase }, { on := 2, ground := Ground.phase }, { on := 3, ground := Ground.phase }, { on := 4, ground := Ground.phase }], guard := none }]
set_option maxRecDepth 100000 in
set_option maxHeartbeats 16000000 in
theorem rd11 (Q : Exit → Act → World → Prop) (T10 i : Nat) (e : Int) (p v q : E4) (u0 u1 u2 u3 u4 u5 u6 u7 u8 u9 u12 u13 u14 u15 u16 u17 u18 u19 u20 u21 u22 u23 u24 u25 u26 u27 u28 u29 u30 u31 u32 u33 u34 u35 u36 u37 u38 u39 u40 u41 u42 u43 u44 u45 u46 u47 u48 u49 u50 u51 u52 u53 u54 u55 u56 u57 u58 : Value) (W : World)
    (ht : W.there T10 0 4) (hf : Blc W T10 p)
    (hi : i < 64) (he : IntKind.u64.wrap ((2 : Int) ^ i) = e)
    (C3 : Hid (∀ x, Calls Tryd.prog 27 #[.int .u64 e] x fun e w' => e = .returned (.agg #[.int .u64 v.x0, .int .u64 v.x1, .int .u64 v.x2, .int .u64 v.x3]) ∧ Below x.heap.size x w')) (C4 : Hid (∀ x, Calls Tryd.prog 23 #[.agg #[.int .u64 p.x0, .int .u64 p.x1, .int .u64 p.x2, .int .u64 p.x3], .agg #[.int .u64 v.x0, .int .u64 v.x1, .int .u64 v.x2, .int .u64 v.x3]] x fun e w' => e = .returned (.agg #[.int .u64 q.x0, .int .u64 q.x1, .int .u64 q.x2, .int .u64 q.x3]) ∧ Below x.heap.size x w'))
    (HQ : Hid (∀ wz, W.grownBy wz (some T10) → wz.rangeAt T10 0 [.int .u64 q.x0, .int .u64 q.x1, .int .u64 q.x2, .int .u64 q.x3] → wz.there T10 0 4 → Q .normal ⟨#[u0, u1, u2, u3, u4, u5, u6, u7, u8, u9, .pointer (some ⟨T10, 0, none⟩), .int .i64 (i : Int), u12, u13, u14, u15, u16, u17, u18, u19, u20, u21, u22, u23, u24, u25, u26, u27, u28, u29, u30, u31, u32, u33, u34, u35, u36, u37, u38, .agg #[.int .u64 p.x0, .int .u64 p.x1, .int .u64 p.x2, .int .u64 p.x3], .int .i64 (i : Int), .int .u64 e, .agg #[.int .u64 v.x0, .int .u64 v.x1, .int .u64 v.x2, .int .u64 v.x3], .agg #[.int .u64 q.x0, .int .u64 q.x1, .int .u64 q.x2, .int .u64 q.x3], u44, u45, u46, u47, u48, u49, u50, u51, u52, u53, u54, u55, u56, u57, u58], []⟩ wz)) : (Code.region 11 rd11o true).wp Tryd.prog Q ⟨#[u0, u1, u2, u3, u4, u5, u6, u7, u8, u9, .pointer (some ⟨T10, 0, none⟩), .int .i64 (i : Int), u12, u13, u14, u15, u16, u17, u18, u19, u20, u21, u22, u23, u24, u25, u26, u27, u28, u29, u30, u31, u32, u33, u34, u35, u36, u37, u38, u39, u40, u41, u42, u43, u44, u45, u46, u47, u48, u49, u50, u51, u52, u53, u54, u55, u56, u57, u58], []⟩ W := by
  have TH := hidden (there_keepM ht (bl_drew W))
  have FT := hidden (hf.keep (bl_drew W))
  clear ht hf
  have mk : min i 64 = i := by omega
  have i0 : (0 : Int) ≤ (i : Int) := by omega
  clear hi
  unfold rd11o
  refine wp_region_noPanic ?_
  refine wp_region_held_drew (S := fun x => W.grownBy x (some T10)) (by kernel_rfl) (gbI (bl_drew W) _) (fun hH0 => ?_)
  refine wpAnyH_take (i := 1) (oi := { dst := some 40, op := Op.move (Operand.tmp 11), type := 3, pos := "ranges.go:165", after := #[], guard := none }) (v := .int .i64 (i : Int)) rfl (by kernel_rfl) (by kernel_rfl) (by kernel_rfl) (fun _ _ _ h => h) (Or.inl ⟨by rfl, fun w0 hSw => ?_⟩) hH0 ?_
  · (clear hSw; go_simp)
  simp only [Act.put, List.setIfInBounds_toArray, List.set_cons_zero, List.set_cons_succ]
  refine wpAnyH_take (i := 2) (oi := { dst := some 41, op := Op.binOp BinOp.shl 25 (Operand.const (Value.int IntKind.u64 1)) (Operand.tmp 40) 3, type := 25, pos := "ranges.go:165", after := #[{ on := 1, ground := Ground.data }], guard := none }) (v := .int .u64 e) rfl (by kernel_rfl) (by kernel_rfl) (by kernel_rfl) (fun _ _ _ h => h) (Or.inl ⟨by rfl, fun w0 hSw => ?_⟩) hH0 ?_
  · (clear hSw; go_simp)
  simp only [Act.put, List.setIfInBounds_toArray, List.set_cons_zero, List.set_cons_succ]
  refine wpAnyH_ready (rs := [0, 3]) (by kernel_rfl) (by simp) ?_
  refine AllReadyH.cons (o := { dst := some 39, op := Op.load 34 (Operand.tmp 10), type := 34, pos := "ranges.go:165", after := #[], guard := none }) rfl (fun K hK => ?_) (AllReadyH.cons (o := { dst := some 42, op := Op.call { callee := Callee.value (Operand.func 27), args := #[Operand.tmp 41], argTypes := #[25] }, type := 34, pos := "ranges.go:165", after := #[{ on := 2, ground := Ground.data }], guard := none }) rfl (fun K hK => ?_) AllReadyH.nil)
  · have HH := hidden hH0
    clear hH0
    have q0 := FT.out.c0
    have q1 := FT.out.c1
    have q2 := FT.out.c2
    have q3 := FT.out.c3
    go_wp2_with fail
    refine hK.out _ _ HH.out (fun hH1 => ?_)
    clear hK K HH q0 q1 q2 q3
    refine wpAnyH_ready (rs := [3]) (by kernel_rfl) (by simp) ?_
    refine AllReadyH.cons (o := { dst := some 42, op := Op.call { callee := Callee.value (Operand.func 27), args := #[Operand.tmp 41], argTypes := #[25] }, type := 34, pos := "ranges.go:165", after := #[{ on := 2, ground := Ground.data }], guard := none }) rfl (fun K hK => ?_) AllReadyH.nil
    have HH := hidden hH1
    clear hH1
    go_simp
    refine (C3.out _).mono ?_
    rintro e wn2 ⟨rfl, hb⟩
    replace TH := hidden (there_keepM TH.out hb)
    replace FT := hidden (FT.out.keep hb)
    have SN := hidden (HH.out.trans (gbI hb _))
    clear HH hb C3
    go_wp2_with fail
    refine hK.out _ _ SN.out (fun hH2 => ?_)
    clear hK K SN
    refine wpAnyH_ready (rs := [4]) (by kernel_rfl) (by simp) ?_
    refine AllReadyH.cons (o := { dst := some 43, op := Op.call { callee := Callee.value (Operand.func 23), args := #[Operand.tmp 39, Operand.tmp 42], argTypes := #[34, 34] }, type := 34, pos := "ranges.go:165", after := #[{ on := 0, ground := Ground.data }, { on := 3, ground := Ground.data }, { on := 3, ground := Ground.chain }], guard := none }) rfl (fun K hK => ?_) AllReadyH.nil
    have HH := hidden hH2
    clear hH2
    go_simp
    refine (C4.out _).mono ?_
    rintro e wn3 ⟨rfl, hb⟩
    replace TH := hidden (there_keepM TH.out hb)
    replace FT := hidden (FT.out.keep hb)
    have SN := hidden (HH.out.trans (gbI hb _))
    clear HH hb C4
    go_wp2_with fail
    refine hK.out _ _ SN.out (fun hH3 => ?_)
    clear hK K SN
    have HH := hidden hH3
    clear hH3
    refine wpAnyH_ready (rs := [5]) (by kernel_rfl) (by simp) ?_
    refine AllReadyH.cons (o := { dst := none, op := Op.store 34 (Operand.tmp 10) (Operand.tmp 43), type := 0, pos := "ranges.go:165", after := #[{ on := 4, ground := Ground.data }, { on := 4, ground := Ground.chain }, { on := 0, ground := Ground.phase }, { on := 1, ground := Ground.phase }, { on := 2, ground := Ground.phase }, { on := 3, ground := Ground.phase }, { on := 4, ground := Ground.phase }], guard := none }) rfl (fun K hK => ?_) AllReadyH.nil
    refine wp_store_mid 34 _ _ rfl T10 0 ([.int .u64 q.x0, .int .u64 q.x1, .int .u64 q.x2, .int .u64 q.x3]).toArray (by rfl) (by rfl) TH.out i4_r (one4 q) ?_
    have FQ := hidden (HQ.out _ (HH.out.trans (gb_setCells T10 _ 0 _)) (World.rangeAt_setCells_same _ T10 0 _ TH.out) (there_setM TH.out T10 _))
    refine hK.out _ _ (HH.out.trans (gb_setCells T10 _ 0 _)) (fun hF => ?_)
    clear hK K HH
    refine wpAnyH_done (by kernel_rfl) ?_ _
    refine NoPanic.normal ?_
    exact FQ.out
  · have HH := hidden hH0
    clear hH0
    go_simp
    refine (C3.out _).mono ?_
    rintro e wn1 ⟨rfl, hb⟩
    replace TH := hidden (there_keepM TH.out hb)
    replace FT := hidden (FT.out.keep hb)
    have SN := hidden (HH.out.trans (gbI hb _))
    clear HH hb C3
    go_wp2_with fail
    refine hK.out _ _ SN.out (fun hH1 => ?_)
    clear hK K SN
    refine wpAnyH_ready (rs := [0]) (by kernel_rfl) (by simp) ?_
    refine AllReadyH.cons (o := { dst := some 39, op := Op.load 34 (Operand.tmp 10), type := 34, pos := "ranges.go:165", after := #[], guard := none }) rfl (fun K hK => ?_) AllReadyH.nil
    have HH := hidden hH1
    clear hH1
    have q0 := FT.out.c0
    have q1 := FT.out.c1
    have q2 := FT.out.c2
    have q3 := FT.out.c3
    go_wp2_with fail
    refine hK.out _ _ HH.out (fun hH2 => ?_)
    clear hK K HH q0 q1 q2 q3
    refine wpAnyH_ready (rs := [4]) (by kernel_rfl) (by simp) ?_
    refine AllReadyH.cons (o := { dst := some 43, op := Op.call { callee := Callee.value (Operand.func 23), args := #[Operand.tmp 39, Operand.tmp 42], argTypes := #[34, 34] }, type := 34, pos := "ranges.go:165", after := #[{ on := 0, ground := Ground.data }, { on := 3, ground := Ground.data }, { on := 3, ground := Ground.chain }], guard := none }) rfl (fun K hK => ?_) AllReadyH.nil
    have HH := hidden hH2
    clear hH2
    go_simp
    refine (C4.out _).mono ?_
    rintro e wn3 ⟨rfl, hb⟩
    replace TH := hidden (there_keepM TH.out hb)
    replace FT := hidden (FT.out.keep hb)
    have SN := hidden (HH.out.trans (gbI hb _))
    clear HH hb C4
    go_wp2_with fail
    refine hK.out _ _ SN.out (fun hH3 => ?_)
    clear hK K SN
    have HH := hidden hH3
    clear hH3
    refine wpAnyH_ready (rs := [5]) (by kernel_rfl) (by simp) ?_
    refine AllReadyH.cons (o := { dst := none, op := Op.store 34 (Operand.tmp 10) (Operand.tmp 43), type := 0, pos := "ranges.go:165", after := #[{ on := 4, ground := Ground.data }, { on := 4, ground := Ground.chain }, { on := 0, ground := Ground.phase }, { on := 1, ground := Ground.phase }, { on := 2, ground := Ground.phase }, { on := 3, ground := Ground.phase }, { on := 4, ground := Ground.phase }], guard := none }) rfl (fun K hK => ?_) AllReadyH.nil
    refine wp_store_mid 34 _ _ rfl T10 0 ([.int .u64 q.x0, .int .u64 q.x1, .int .u64 q.x2, .int .u64 q.x3]).toArray (by rfl) (by rfl) TH.out i4_r (one4 q) ?_
    have FQ := hidden (HQ.out _ (HH.out.trans (gb_setCells T10 _ 0 _)) (World.rangeAt_setCells_same _ T10 0 _ TH.out) (there_setM TH.out T10 _))
    refine hK.out _ _ (HH.out.trans (gb_setCells T10 _ 0 _)) (fun hF => ?_)
    clear hK K HH
    refine wpAnyH_done (by kernel_rfl) ?_ _
    refine NoPanic.normal ?_
    exact FQ.out
def rd15o : Array Oper := #[{ dst := some 50, op := Op.load 34 (Operand.tmp 9), type := 34, pos := "ranges.go:168", after := #[], guard := none },
  { dst := some 51, op := Op.load 34 (Operand.tmp 5), type := 34, pos := "ranges.go:168", after := #[], guard := none },
  { dst := some 52, op := Op.move (Operand.tmp 12), type := 3, pos := "ranges.go:168", after := #[], guard := none },
  { dst := some 53, op := Op.binOp BinOp.add 3 (Operand.const (Value.int IntKind.i64 3)) (Operand.tmp 52) 3, type := 3, pos := "ranges.go:168", after := #[{ on := 2, ground := Ground.data }], guard := none },
  { dst := some 54, op := Op.call { callee := Callee.value (Operand.func 24), args := #[Operand.tmp 51, Operand.tmp 53], argTypes := #[34, 3] }, type := 34, pos := "ranges.go:168", after := #[{ on := 1, ground := Ground.data }, { on := 3, ground := Ground.data }], guard := none },
  { dst := some 55, op := Op.load 34 (Operand.tmp 10), type := 34, pos := "ranges.go:168", after := #[], guard := none },
  { dst := some 56, op := Op.call { callee := Callee.value (Operand.func 26), args := #[Operand.tmp 54, Operand.tmp 55], argTypes := #[34, 34] }, type := 34, pos := "ranges.go:168", after := #[{ on := 4, ground := Ground.data }, { on := 5, ground := Ground.data }, { on := 4, ground := Ground.chain }], guard := none },
  { dst := some 57, op := Op.call { callee := Callee.value (Operand.func 25), args := #[Operand.tmp 50, Operand.tmp 56], argTypes := #[34, 34] }, type := 34, pos := "ranges.go:168", after := #[{ on := 0, ground := Ground.data }, { on := 6, ground := Ground.data }, { on := 6, ground := Ground.chain }], guard := none },
  { dst := none, op := Op.store 34 (Operand.tmp 9) (Operand.tmp 57), type := 0, pos := "ranges.go:168", after := #[{ on := 7, ground := Ground.data }, { on := 7, ground := Ground.chain }, { on := 0, ground := Ground.phase }, { on := 1, ground := Ground.phase }, { on := 2, ground := Ground.phase }, { on := 3, ground := Ground.phase }, { on := 4, ground := Ground.phase }, { on := 5, ground := Ground.phase }, { on := 6, ground := Ground.phase }, { on := 7, ground := Ground.phase }], guard := none }]
set_option maxRecDepth 100000 in
set_option maxHeartbeats 16000000 in
theorem rd15 (Q : Exit → Act → World → Prop) (T5 T9 T10 i j : Nat) (z t p v k q : E4) (u0 u1 u2 u3 u4 u6 u7 u8 u11 u13 u14 u15 u16 u17 u18 u19 u20 u21 u22 u23 u24 u25 u26 u27 u28 u29 u30 u31 u32 u33 u34 u35 u36 u37 u38 u39 u40 u41 u42 u43 u44 u45 u46 u47 u48 u49 u50 u51 u52 u53 u54 u55 u56 u57 u58 : Value) (W : World)
    (ht : W.there T9 0 4) (hf : Blc W T9 p)
    (ne_cz : T5 ≠ T9) (ne_ct : T10 ≠ T9) (hj : IntKind.i64.wrap (3 + (i : Int)) = (j : Int)) (cz0 : W.cell? ⟨T5, 0, none⟩ = some (.int .u64 z.x0)) (cz1 : W.cell? ⟨T5, 1, none⟩ = some (.int .u64 z.x1)) (cz2 : W.cell? ⟨T5, 2, none⟩ = some (.int .u64 z.x2)) (cz3 : W.cell? ⟨T5, 3, none⟩ = some (.int .u64 z.x3)) (ct0 : W.cell? ⟨T10, 0, none⟩ = some (.int .u64 t.x0)) (ct1 : W.cell? ⟨T10, 1, none⟩ = some (.int .u64 t.x1)) (ct2 : W.cell? ⟨T10, 2, none⟩ = some (.int .u64 t.x2)) (ct3 : W.cell? ⟨T10, 3, none⟩ = some (.int .u64 t.x3))
    (C4 : Hid (∀ x, Calls Tryd.prog 24 #[.agg #[.int .u64 z.x0, .int .u64 z.x1, .int .u64 z.x2, .int .u64 z.x3], .int .i64 (j : Int)] x fun e w' => e = .returned (.agg #[.int .u64 v.x0, .int .u64 v.x1, .int .u64 v.x2, .int .u64 v.x3]) ∧ Below x.heap.size x w')) (C6 : Hid (∀ x, Calls Tryd.prog 26 #[.agg #[.int .u64 v.x0, .int .u64 v.x1, .int .u64 v.x2, .int .u64 v.x3], .agg #[.int .u64 t.x0, .int .u64 t.x1, .int .u64 t.x2, .int .u64 t.x3]] x fun e w' => e = .returned (.agg #[.int .u64 k.x0, .int .u64 k.x1, .int .u64 k.x2, .int .u64 k.x3]) ∧ Below x.heap.size x w')) (C7 : Hid (∀ x, Calls Tryd.prog 25 #[.agg #[.int .u64 p.x0, .int .u64 p.x1, .int .u64 p.x2, .int .u64 p.x3], .agg #[.int .u64 k.x0, .int .u64 k.x1, .int .u64 k.x2, .int .u64 k.x3]] x fun e w' => e = .returned (.agg #[.int .u64 q.x0, .int .u64 q.x1, .int .u64 q.x2, .int .u64 q.x3]) ∧ Below x.heap.size x w'))
    (HQ : Hid (∀ wz, W.grownBy wz (some T9) → wz.rangeAt T9 0 [.int .u64 q.x0, .int .u64 q.x1, .int .u64 q.x2, .int .u64 q.x3] → wz.there T9 0 4 → Q .normal ⟨#[u0, u1, u2, u3, u4, .pointer (some ⟨T5, 0, none⟩), u6, u7, u8, .pointer (some ⟨T9, 0, none⟩), .pointer (some ⟨T10, 0, none⟩), u11, .int .i64 (i : Int), u13, u14, u15, u16, u17, u18, u19, u20, u21, u22, u23, u24, u25, u26, u27, u28, u29, u30, u31, u32, u33, u34, u35, u36, u37, u38, u39, u40, u41, u42, u43, u44, u45, u46, u47, u48, u49, .agg #[.int .u64 p.x0, .int .u64 p.x1, .int .u64 p.x2, .int .u64 p.x3], .agg #[.int .u64 z.x0, .int .u64 z.x1, .int .u64 z.x2, .int .u64 z.x3], .int .i64 (i : Int), .int .i64 (j : Int), .agg #[.int .u64 v.x0, .int .u64 v.x1, .int .u64 v.x2, .int .u64 v.x3], .agg #[.int .u64 t.x0, .int .u64 t.x1, .int .u64 t.x2, .int .u64 t.x3], .agg #[.int .u64 k.x0, .int .u64 k.x1, .int .u64 k.x2, .int .u64 k.x3], .agg #[.int .u64 q.x0, .int .u64 q.x1, .int .u64 q.x2, .int .u64 q.x3], u58], []⟩ wz)) : (Code.region 15 rd15o true).wp Tryd.prog Q ⟨#[u0, u1, u2, u3, u4, .pointer (some ⟨T5, 0, none⟩), u6, u7, u8, .pointer (some ⟨T9, 0, none⟩), .pointer (some ⟨T10, 0, none⟩), u11, .int .i64 (i : Int), u13, u14, u15, u16, u17, u18, u19, u20, u21, u22, u23, u24, u25, u26, u27, u28, u29, u30, u31, u32, u33, u34, u35, u36, u37, u38, u39, u40, u41, u42, u43, u44, u45, u46, u47, u48, u49, u50, u51, u52, u53, u54, u55, u56, u57, u58], []⟩ W := by
  have TH := hidden (there_keepM ht (bl_drew W))
  have FT := hidden (hf.keep (bl_drew W))
  clear ht hf
  unfold rd15o
  refine wp_region_noPanic ?_
  refine wp_region_held_drew (S := fun x => W.grownBy x (some T9)) (by kernel_rfl) (gbI (bl_drew W) _) (fun hH0 => ?_)
  refine wpAnyH_take (i := 1) (oi := { dst := some 51, op := Op.load 34 (Operand.tmp 5), type := 34, pos := "ranges.go:168", after := #[], guard := none }) (v := .agg #[.int .u64 z.x0, .int .u64 z.x1, .int .u64 z.x2, .int .u64 z.x3]) rfl (by kernel_rfl) (by kernel_rfl) (by kernel_rfl) (fun _ _ _ h => h) (Or.inl ⟨by rfl, fun w0 hSw => ?_⟩) hH0 ?_
  · (have hS : W.grownBy w0 (some T9) := hSw; have a0 := hS.cell cz0 (fun e => ne_cz (Option.some.inj e)); have a1 := hS.cell cz1 (fun e => ne_cz (Option.some.inj e)); have a2 := hS.cell cz2 (fun e => ne_cz (Option.some.inj e)); have a3 := hS.cell cz3 (fun e => ne_cz (Option.some.inj e)); clear hS hSw; go_simp)
  simp only [Act.put, List.setIfInBounds_toArray, List.set_cons_zero, List.set_cons_succ]
  refine wpAnyH_take (i := 2) (oi := { dst := some 52, op := Op.move (Operand.tmp 12), type := 3, pos := "ranges.go:168", after := #[], guard := none }) (v := .int .i64 (i : Int)) rfl (by kernel_rfl) (by kernel_rfl) (by kernel_rfl) (fun _ _ _ h => h) (Or.inl ⟨by rfl, fun w0 hSw => ?_⟩) hH0 ?_
  · (clear hSw; go_simp)
  simp only [Act.put, List.setIfInBounds_toArray, List.set_cons_zero, List.set_cons_succ]
  refine wpAnyH_take (i := 3) (oi := { dst := some 53, op := Op.binOp BinOp.add 3 (Operand.const (Value.int IntKind.i64 3)) (Operand.tmp 52) 3, type := 3, pos := "ranges.go:168", after := #[{ on := 2, ground := Ground.data }], guard := none }) (v := .int .i64 (j : Int)) rfl (by kernel_rfl) (by kernel_rfl) (by kernel_rfl) (fun _ _ _ h => h) (Or.inl ⟨by rfl, fun w0 hSw => ?_⟩) hH0 ?_
  · (clear hSw; go_simp)
  simp only [Act.put, List.setIfInBounds_toArray, List.set_cons_zero, List.set_cons_succ]
  refine wpAnyH_take (i := 5) (oi := { dst := some 55, op := Op.load 34 (Operand.tmp 10), type := 34, pos := "ranges.go:168", after := #[], guard := none }) (v := .agg #[.int .u64 t.x0, .int .u64 t.x1, .int .u64 t.x2, .int .u64 t.x3]) rfl (by kernel_rfl) (by kernel_rfl) (by kernel_rfl) (fun _ _ _ h => h) (Or.inl ⟨by rfl, fun w0 hSw => ?_⟩) hH0 ?_
  · (have hS : W.grownBy w0 (some T9) := hSw; have a0 := hS.cell ct0 (fun e => ne_ct (Option.some.inj e)); have a1 := hS.cell ct1 (fun e => ne_ct (Option.some.inj e)); have a2 := hS.cell ct2 (fun e => ne_ct (Option.some.inj e)); have a3 := hS.cell ct3 (fun e => ne_ct (Option.some.inj e)); clear hS hSw; go_simp)
  simp only [Act.put, List.setIfInBounds_toArray, List.set_cons_zero, List.set_cons_succ]
  refine wpAnyH_ready (rs := [0, 4]) (by kernel_rfl) (by simp) ?_
  refine AllReadyH.cons (o := { dst := some 50, op := Op.load 34 (Operand.tmp 9), type := 34, pos := "ranges.go:168", after := #[], guard := none }) rfl (fun K hK => ?_) (AllReadyH.cons (o := { dst := some 54, op := Op.call { callee := Callee.value (Operand.func 24), args := #[Operand.tmp 51, Operand.tmp 53], argTypes := #[34, 3] }, type := 34, pos := "ranges.go:168", after := #[{ on := 1, ground := Ground.data }, { on := 3, ground := Ground.data }], guard := none }) rfl (fun K hK => ?_) AllReadyH.nil)
  · have HH := hidden hH0
    clear hH0
    have q0 := FT.out.c0
    have q1 := FT.out.c1
    have q2 := FT.out.c2
    have q3 := FT.out.c3
    go_wp2_with fail
    refine hK.out _ _ HH.out (fun hH1 => ?_)
    clear hK K HH q0 q1 q2 q3
    refine wpAnyH_ready (rs := [4]) (by kernel_rfl) (by simp) ?_
    refine AllReadyH.cons (o := { dst := some 54, op := Op.call { callee := Callee.value (Operand.func 24), args := #[Operand.tmp 51, Operand.tmp 53], argTypes := #[34, 3] }, type := 34, pos := "ranges.go:168", after := #[{ on := 1, ground := Ground.data }, { on := 3, ground := Ground.data }], guard := none }) rfl (fun K hK => ?_) AllReadyH.nil
    have HH := hidden hH1
    clear hH1
    go_simp
    refine (C4.out _).mono ?_
    rintro e wn2 ⟨rfl, hb⟩
    replace TH := hidden (there_keepM TH.out hb)
    replace FT := hidden (FT.out.keep hb)
    have SN := hidden (HH.out.trans (gbI hb _))
    clear HH hb C4
    go_wp2_with fail
    refine hK.out _ _ SN.out (fun hH2 => ?_)
    clear hK K SN
    refine wpAnyH_ready (rs := [6]) (by kernel_rfl) (by simp) ?_
    refine AllReadyH.cons (o := { dst := some 56, op := Op.call { callee := Callee.value (Operand.func 26), args := #[Operand.tmp 54, Operand.tmp 55], argTypes := #[34, 34] }, type := 34, pos := "ranges.go:168", after := #[{ on := 4, ground := Ground.data }, { on := 5, ground := Ground.data }, { on := 4, ground := Ground.chain }], guard := none }) rfl (fun K hK => ?_) AllReadyH.nil
    have HH := hidden hH2
    clear hH2
    go_simp
    refine (C6.out _).mono ?_
    rintro e wn3 ⟨rfl, hb⟩
    replace TH := hidden (there_keepM TH.out hb)
    replace FT := hidden (FT.out.keep hb)
    have SN := hidden (HH.out.trans (gbI hb _))
    clear HH hb C6
    go_wp2_with fail
    refine hK.out _ _ SN.out (fun hH3 => ?_)
    clear hK K SN
    refine wpAnyH_ready (rs := [7]) (by kernel_rfl) (by simp) ?_
    refine AllReadyH.cons (o := { dst := some 57, op := Op.call { callee := Callee.value (Operand.func 25), args := #[Operand.tmp 50, Operand.tmp 56], argTypes := #[34, 34] }, type := 34, pos := "ranges.go:168", after := #[{ on := 0, ground := Ground.data }, { on := 6, ground := Ground.data }, { on := 6, ground := Ground.chain }], guard := none }) rfl (fun K hK => ?_) AllReadyH.nil
    have HH := hidden hH3
    clear hH3
    go_simp
    refine (C7.out _).mono ?_
    rintro e wn4 ⟨rfl, hb⟩
    replace TH := hidden (there_keepM TH.out hb)
    replace FT := hidden (FT.out.keep hb)
    have SN := hidden (HH.out.trans (gbI hb _))
    clear HH hb C7
    go_wp2_with fail
    refine hK.out _ _ SN.out (fun hH4 => ?_)
    clear hK K SN
    have HH := hidden hH4
    clear hH4
    refine wpAnyH_ready (rs := [8]) (by kernel_rfl) (by simp) ?_
    refine AllReadyH.cons (o := { dst := none, op := Op.store 34 (Operand.tmp 9) (Operand.tmp 57), type := 0, pos := "ranges.go:168", after := #[{ on := 7, ground := Ground.data }, { on := 7, ground := Ground.chain }, { on := 0, ground := Ground.phase }, { on := 1, ground := Ground.phase }, { on := 2, ground := Ground.phase }, { on := 3, ground := Ground.phase }, { on := 4, ground := Ground.phase }, { on := 5, ground := Ground.phase }, { on := 6, ground := Ground.phase }, { on := 7, ground := Ground.phase }], guard := none }) rfl (fun K hK => ?_) AllReadyH.nil
    refine wp_store_mid 34 _ _ rfl T9 0 ([.int .u64 q.x0, .int .u64 q.x1, .int .u64 q.x2, .int .u64 q.x3]).toArray (by rfl) (by rfl) TH.out i4_r (one4 q) ?_
    have FQ := hidden (HQ.out _ (HH.out.trans (gb_setCells T9 _ 0 _)) (World.rangeAt_setCells_same _ T9 0 _ TH.out) (there_setM TH.out T9 _))
    refine hK.out _ _ (HH.out.trans (gb_setCells T9 _ 0 _)) (fun hF => ?_)
    clear hK K HH
    refine wpAnyH_done (by kernel_rfl) ?_ _
    refine NoPanic.normal ?_
    exact FQ.out
  · have HH := hidden hH0
    clear hH0
    go_simp
    refine (C4.out _).mono ?_
    rintro e wn1 ⟨rfl, hb⟩
    replace TH := hidden (there_keepM TH.out hb)
    replace FT := hidden (FT.out.keep hb)
    have SN := hidden (HH.out.trans (gbI hb _))
    clear HH hb C4
    go_wp2_with fail
    refine hK.out _ _ SN.out (fun hH1 => ?_)
    clear hK K SN
    refine wpAnyH_ready (rs := [0, 6]) (by kernel_rfl) (by simp) ?_
    refine AllReadyH.cons (o := { dst := some 50, op := Op.load 34 (Operand.tmp 9), type := 34, pos := "ranges.go:168", after := #[], guard := none }) rfl (fun K hK => ?_) (AllReadyH.cons (o := { dst := some 56, op := Op.call { callee := Callee.value (Operand.func 26), args := #[Operand.tmp 54, Operand.tmp 55], argTypes := #[34, 34] }, type := 34, pos := "ranges.go:168", after := #[{ on := 4, ground := Ground.data }, { on := 5, ground := Ground.data }, { on := 4, ground := Ground.chain }], guard := none }) rfl (fun K hK => ?_) AllReadyH.nil)
    · have HH := hidden hH1
      clear hH1
      have q0 := FT.out.c0
      have q1 := FT.out.c1
      have q2 := FT.out.c2
      have q3 := FT.out.c3
      go_wp2_with fail
      refine hK.out _ _ HH.out (fun hH2 => ?_)
      clear hK K HH q0 q1 q2 q3
      refine wpAnyH_ready (rs := [6]) (by kernel_rfl) (by simp) ?_
      refine AllReadyH.cons (o := { dst := some 56, op := Op.call { callee := Callee.value (Operand.func 26), args := #[Operand.tmp 54, Operand.tmp 55], argTypes := #[34, 34] }, type := 34, pos := "ranges.go:168", after := #[{ on := 4, ground := Ground.data }, { on := 5, ground := Ground.data }, { on := 4, ground := Ground.chain }], guard := none }) rfl (fun K hK => ?_) AllReadyH.nil
      have HH := hidden hH2
      clear hH2
      go_simp
      refine (C6.out _).mono ?_
      rintro e wn3 ⟨rfl, hb⟩
      replace TH := hidden (there_keepM TH.out hb)
      replace FT := hidden (FT.out.keep hb)
      have SN := hidden (HH.out.trans (gbI hb _))
      clear HH hb C6
      go_wp2_with fail
      refine hK.out _ _ SN.out (fun hH3 => ?_)
      clear hK K SN
      refine wpAnyH_ready (rs := [7]) (by kernel_rfl) (by simp) ?_
      refine AllReadyH.cons (o := { dst := some 57, op := Op.call { callee := Callee.value (Operand.func 25), args := #[Operand.tmp 50, Operand.tmp 56], argTypes := #[34, 34] }, type := 34, pos := "ranges.go:168", after := #[{ on := 0, ground := Ground.data }, { on := 6, ground := Ground.data }, { on := 6, ground := Ground.chain }], guard := none }) rfl (fun K hK => ?_) AllReadyH.nil
      have HH := hidden hH3
      clear hH3
      go_simp
      refine (C7.out _).mono ?_
      rintro e wn4 ⟨rfl, hb⟩
      replace TH := hidden (there_keepM TH.out hb)
      replace FT := hidden (FT.out.keep hb)
      have SN := hidden (HH.out.trans (gbI hb _))
      clear HH hb C7
      go_wp2_with fail
      refine hK.out _ _ SN.out (fun hH4 => ?_)
      clear hK K SN
      have HH := hidden hH4
      clear hH4
      refine wpAnyH_ready (rs := [8]) (by kernel_rfl) (by simp) ?_
      refine AllReadyH.cons (o := { dst := none, op := Op.store 34 (Operand.tmp 9) (Operand.tmp 57), type := 0, pos := "ranges.go:168", after := #[{ on := 7, ground := Ground.data }, { on := 7, ground := Ground.chain }, { on := 0, ground := Ground.phase }, { on := 1, ground := Ground.phase }, { on := 2, ground := Ground.phase }, { on := 3, ground := Ground.phase }, { on := 4, ground := Ground.phase }, { on := 5, ground := Ground.phase }, { on := 6, ground := Ground.phase }, { on := 7, ground := Ground.phase }], guard := none }) rfl (fun K hK => ?_) AllReadyH.nil
      refine wp_store_mid 34 _ _ rfl T9 0 ([.int .u64 q.x0, .int .u64 q.x1, .int .u64 q.x2, .int .u64 q.x3]).toArray (by rfl) (by rfl) TH.out i4_r (one4 q) ?_
      have FQ := hidden (HQ.out _ (HH.out.trans (gb_setCells T9 _ 0 _)) (World.rangeAt_setCells_same _ T9 0 _ TH.out) (there_setM TH.out T9 _))
      refine hK.out _ _ (HH.out.trans (gb_setCells T9 _ 0 _)) (fun hF => ?_)
      clear hK K HH
      refine wpAnyH_done (by kernel_rfl) ?_ _
      refine NoPanic.normal ?_
      exact FQ.out
    · have HH := hidden hH1
      clear hH1
      go_simp
      refine (C6.out _).mono ?_
      rintro e wn2 ⟨rfl, hb⟩
      replace TH := hidden (there_keepM TH.out hb)
      replace FT := hidden (FT.out.keep hb)
      have SN := hidden (HH.out.trans (gbI hb _))
      clear HH hb C6
      go_wp2_with fail
      refine hK.out _ _ SN.out (fun hH2 => ?_)
      clear hK K SN
      refine wpAnyH_ready (rs := [0]) (by kernel_rfl) (by simp) ?_
      refine AllReadyH.cons (o := { dst := some 50, op := Op.load 34 (Operand.tmp 9), type := 34, pos := "ranges.go:168", after := #[], guard := none }) rfl (fun K hK => ?_) AllReadyH.nil
      have HH := hidden hH2
      clear hH2
      have q0 := FT.out.c0
      have q1 := FT.out.c1
      have q2 := FT.out.c2
      have q3 := FT.out.c3
      go_wp2_with fail
      refine hK.out _ _ HH.out (fun hH3 => ?_)
      clear hK K HH q0 q1 q2 q3
      refine wpAnyH_ready (rs := [7]) (by kernel_rfl) (by simp) ?_
      refine AllReadyH.cons (o := { dst := some 57, op := Op.call { callee := Callee.value (Operand.func 25), args := #[Operand.tmp 50, Operand.tmp 56], argTypes := #[34, 34] }, type := 34, pos := "ranges.go:168", after := #[{ on := 0, ground := Ground.data }, { on := 6, ground := Ground.data }, { on := 6, ground := Ground.chain }], guard := none }) rfl (fun K hK => ?_) AllReadyH.nil
      have HH := hidden hH3
      clear hH3
      go_simp
      refine (C7.out _).mono ?_
      rintro e wn4 ⟨rfl, hb⟩
      replace TH := hidden (there_keepM TH.out hb)
      replace FT := hidden (FT.out.keep hb)
      have SN := hidden (HH.out.trans (gbI hb _))
      clear HH hb C7
      go_wp2_with fail
      refine hK.out _ _ SN.out (fun hH4 => ?_)
      clear hK K SN
      have HH := hidden hH4
      clear hH4
      refine wpAnyH_ready (rs := [8]) (by kernel_rfl) (by simp) ?_
      refine AllReadyH.cons (o := { dst := none, op := Op.store 34 (Operand.tmp 9) (Operand.tmp 57), type := 0, pos := "ranges.go:168", after := #[{ on := 7, ground := Ground.data }, { on := 7, ground := Ground.chain }, { on := 0, ground := Ground.phase }, { on := 1, ground := Ground.phase }, { on := 2, ground := Ground.phase }, { on := 3, ground := Ground.phase }, { on := 4, ground := Ground.phase }, { on := 5, ground := Ground.phase }, { on := 6, ground := Ground.phase }, { on := 7, ground := Ground.phase }], guard := none }) rfl (fun K hK => ?_) AllReadyH.nil
      refine wp_store_mid 34 _ _ rfl T9 0 ([.int .u64 q.x0, .int .u64 q.x1, .int .u64 q.x2, .int .u64 q.x3]).toArray (by rfl) (by rfl) TH.out i4_r (one4 q) ?_
      have FQ := hidden (HQ.out _ (HH.out.trans (gb_setCells T9 _ 0 _)) (World.rangeAt_setCells_same _ T9 0 _ TH.out) (there_setM TH.out T9 _))
      refine hK.out _ _ (HH.out.trans (gb_setCells T9 _ 0 _)) (fun hF => ?_)
      clear hK K HH
      refine wpAnyH_done (by kernel_rfl) ?_ _
      refine NoPanic.normal ?_
      exact FQ.out
def rd6o : Array Oper := #[{ dst := some 25, op := Op.load 34 (Operand.tmp 5), type := 34, pos := "ranges.go:162", after := #[], guard := none },
  { dst := some 26, op := Op.load 34 (Operand.tmp 5), type := 34, pos := "ranges.go:162", after := #[], guard := none },
  { dst := some 27, op := Op.load 34 (Operand.tmp 5), type := 34, pos := "ranges.go:162", after := #[], guard := none },
  { dst := some 28, op := Op.call { callee := Callee.value (Operand.func 26), args := #[Operand.tmp 26, Operand.tmp 27], argTypes := #[34, 34] }, type := 34, pos := "ranges.go:162", after := #[{ on := 1, ground := Ground.data }, { on := 2, ground := Ground.data }], guard := none },
  { dst := some 29, op := Op.call { callee := Callee.value (Operand.func 25), args := #[Operand.tmp 25, Operand.tmp 28], argTypes := #[34, 34] }, type := 34, pos := "ranges.go:162", after := #[{ on := 0, ground := Ground.data }, { on := 3, ground := Ground.data }, { on := 3, ground := Ground.chain }], guard := none },
  { dst := some 30, op := Op.load 34 (Operand.tmp 7), type := 34, pos := "ranges.go:162", after := #[], guard := none },
  { dst := some 31, op := Op.call { callee := Callee.value (Operand.func 26), args := #[Operand.tmp 29, Operand.tmp 30], argTypes := #[34, 34] }, type := 34, pos := "ranges.go:162", after := #[{ on := 4, ground := Ground.data }, { on := 5, ground := Ground.data }, { on := 4, ground := Ground.chain }], guard := none },
  { dst := some 9, op := Op.alloc 34, type := 0, pos := "ranges.go:162", after := #[], guard := none },
  { dst := none, op := Op.store 34 (Operand.tmp 9) (Operand.tmp 31), type := 0, pos := "ranges.go:162", after := #[{ on := 7, ground := Ground.data }, { on := 6, ground := Ground.data }, { on := 6, ground := Ground.chain }, { on := 0, ground := Ground.phase }, { on := 1, ground := Ground.phase }, { on := 2, ground := Ground.phase }, { on := 3, ground := Ground.phase }, { on := 4, ground := Ground.phase }, { on := 5, ground := Ground.phase }, { on := 6, ground := Ground.phase }, { on := 7, ground := Ground.phase }], guard := none }]
set_option maxRecDepth 100000 in
set_option maxHeartbeats 16000000 in
theorem rd6 (Q : Exit → Act → World → Prop) (T5 T7 : Nat) (z zz s1 ys p : E4) (u0 u1 u2 u3 u4 u6 u8 u9 u10 u11 u12 u13 u14 u15 u16 u17 u18 u19 u20 u21 u22 u23 u24 u25 u26 u27 u28 u29 u30 u31 u32 u33 u34 u35 u36 u37 u38 u39 u40 u41 u42 u43 u44 u45 u46 u47 u48 u49 u50 u51 u52 u53 u54 u55 u56 u57 u58 : Value) (W : World)
    (cz0 : W.cell? ⟨T5, 0, none⟩ = some (.int .u64 z.x0)) (cz1 : W.cell? ⟨T5, 1, none⟩ = some (.int .u64 z.x1)) (cz2 : W.cell? ⟨T5, 2, none⟩ = some (.int .u64 z.x2)) (cz3 : W.cell? ⟨T5, 3, none⟩ = some (.int .u64 z.x3)) (cy0 : W.cell? ⟨T7, 0, none⟩ = some (.int .u64 ys.x0)) (cy1 : W.cell? ⟨T7, 1, none⟩ = some (.int .u64 ys.x1)) (cy2 : W.cell? ⟨T7, 2, none⟩ = some (.int .u64 ys.x2)) (cy3 : W.cell? ⟨T7, 3, none⟩ = some (.int .u64 ys.x3))
    (C3 : Hid (∀ x, Calls Tryd.prog 26 #[.agg #[.int .u64 z.x0, .int .u64 z.x1, .int .u64 z.x2, .int .u64 z.x3], .agg #[.int .u64 z.x0, .int .u64 z.x1, .int .u64 z.x2, .int .u64 z.x3]] x fun e w' => e = .returned (.agg #[.int .u64 zz.x0, .int .u64 zz.x1, .int .u64 zz.x2, .int .u64 zz.x3]) ∧ Below x.heap.size x w')) (C4 : Hid (∀ x, Calls Tryd.prog 25 #[.agg #[.int .u64 z.x0, .int .u64 z.x1, .int .u64 z.x2, .int .u64 z.x3], .agg #[.int .u64 zz.x0, .int .u64 zz.x1, .int .u64 zz.x2, .int .u64 zz.x3]] x fun e w' => e = .returned (.agg #[.int .u64 s1.x0, .int .u64 s1.x1, .int .u64 s1.x2, .int .u64 s1.x3]) ∧ Below x.heap.size x w')) (C6 : Hid (∀ x, Calls Tryd.prog 26 #[.agg #[.int .u64 s1.x0, .int .u64 s1.x1, .int .u64 s1.x2, .int .u64 s1.x3], .agg #[.int .u64 ys.x0, .int .u64 ys.x1, .int .u64 ys.x2, .int .u64 ys.x3]] x fun e w' => e = .returned (.agg #[.int .u64 p.x0, .int .u64 p.x1, .int .u64 p.x2, .int .u64 p.x3]) ∧ Below x.heap.size x w'))
    (HQ : Hid (∀ A wz, W.heap.size ≤ A → Below W.heap.size W wz → wz.rangeAt A 0 [.int .u64 p.x0, .int .u64 p.x1, .int .u64 p.x2, .int .u64 p.x3] → wz.there A 0 4 → Q .normal ⟨#[u0, u1, u2, u3, u4, .pointer (some ⟨T5, 0, none⟩), u6, .pointer (some ⟨T7, 0, none⟩), u8, .pointer (some ⟨A, 0, none⟩), u10, u11, u12, u13, u14, u15, u16, u17, u18, u19, u20, u21, u22, u23, u24, .agg #[.int .u64 z.x0, .int .u64 z.x1, .int .u64 z.x2, .int .u64 z.x3], .agg #[.int .u64 z.x0, .int .u64 z.x1, .int .u64 z.x2, .int .u64 z.x3], .agg #[.int .u64 z.x0, .int .u64 z.x1, .int .u64 z.x2, .int .u64 z.x3], .agg #[.int .u64 zz.x0, .int .u64 zz.x1, .int .u64 zz.x2, .int .u64 zz.x3], .agg #[.int .u64 s1.x0, .int .u64 s1.x1, .int .u64 s1.x2, .int .u64 s1.x3], .agg #[.int .u64 ys.x0, .int .u64 ys.x1, .int .u64 ys.x2, .int .u64 ys.x3], .agg #[.int .u64 p.x0, .int .u64 p.x1, .int .u64 p.x2, .int .u64 p.x3], u32, u33, u34, u35, u36, u37, u38, u39, u40, u41, u42, u43, u44, u45, u46, u47, u48, u49, u50, u51, u52, u53, u54, u55, u56, u57, u58], []⟩ wz)) : (Code.region 6 rd6o true).wp Tryd.prog Q ⟨#[u0, u1, u2, u3, u4, .pointer (some ⟨T5, 0, none⟩), u6, .pointer (some ⟨T7, 0, none⟩), u8, u9, u10, u11, u12, u13, u14, u15, u16, u17, u18, u19, u20, u21, u22, u23, u24, u25, u26, u27, u28, u29, u30, u31, u32, u33, u34, u35, u36, u37, u38, u39, u40, u41, u42, u43, u44, u45, u46, u47, u48, u49, u50, u51, u52, u53, u54, u55, u56, u57, u58], []⟩ W := by
  unfold rd6o
  refine wp_region_noPanic ?_
  refine wp_region_held_drew (S := fun x => Below W.heap.size W x) (by kernel_rfl) (bl_drew W) (fun hH0 => ?_)
  refine wpAnyH_take (i := 0) (oi := { dst := some 25, op := Op.load 34 (Operand.tmp 5), type := 34, pos := "ranges.go:162", after := #[], guard := none }) (v := .agg #[.int .u64 z.x0, .int .u64 z.x1, .int .u64 z.x2, .int .u64 z.x3]) rfl (by kernel_rfl) (by kernel_rfl) (by kernel_rfl) (fun _ _ _ h => h) (Or.inl ⟨by rfl, fun w0 hSw => ?_⟩) hH0 ?_
  · (have hS : Below W.heap.size W w0 := hSw; have a0 := cell_keep cz0 hS; have a1 := cell_keep cz1 hS; have a2 := cell_keep cz2 hS; have a3 := cell_keep cz3 hS; clear hS hSw; go_simp)
  simp only [Act.put, List.setIfInBounds_toArray, List.set_cons_zero, List.set_cons_succ]
  refine wpAnyH_take (i := 1) (oi := { dst := some 26, op := Op.load 34 (Operand.tmp 5), type := 34, pos := "ranges.go:162", after := #[], guard := none }) (v := .agg #[.int .u64 z.x0, .int .u64 z.x1, .int .u64 z.x2, .int .u64 z.x3]) rfl (by kernel_rfl) (by kernel_rfl) (by kernel_rfl) (fun _ _ _ h => h) (Or.inl ⟨by rfl, fun w0 hSw => ?_⟩) hH0 ?_
  · (have hS : Below W.heap.size W w0 := hSw; have a0 := cell_keep cz0 hS; have a1 := cell_keep cz1 hS; have a2 := cell_keep cz2 hS; have a3 := cell_keep cz3 hS; clear hS hSw; go_simp)
  simp only [Act.put, List.setIfInBounds_toArray, List.set_cons_zero, List.set_cons_succ]
  refine wpAnyH_take (i := 2) (oi := { dst := some 27, op := Op.load 34 (Operand.tmp 5), type := 34, pos := "ranges.go:162", after := #[], guard := none }) (v := .agg #[.int .u64 z.x0, .int .u64 z.x1, .int .u64 z.x2, .int .u64 z.x3]) rfl (by kernel_rfl) (by kernel_rfl) (by kernel_rfl) (fun _ _ _ h => h) (Or.inl ⟨by rfl, fun w0 hSw => ?_⟩) hH0 ?_
  · (have hS : Below W.heap.size W w0 := hSw; have a0 := cell_keep cz0 hS; have a1 := cell_keep cz1 hS; have a2 := cell_keep cz2 hS; have a3 := cell_keep cz3 hS; clear hS hSw; go_simp)
  simp only [Act.put, List.setIfInBounds_toArray, List.set_cons_zero, List.set_cons_succ]
  refine wpAnyH_take (i := 5) (oi := { dst := some 30, op := Op.load 34 (Operand.tmp 7), type := 34, pos := "ranges.go:162", after := #[], guard := none }) (v := .agg #[.int .u64 ys.x0, .int .u64 ys.x1, .int .u64 ys.x2, .int .u64 ys.x3]) rfl (by kernel_rfl) (by kernel_rfl) (by kernel_rfl) (fun _ _ _ h => h) (Or.inl ⟨by rfl, fun w0 hSw => ?_⟩) hH0 ?_
  · (have hS : Below W.heap.size W w0 := hSw; have a0 := cell_keep cy0 hS; have a1 := cell_keep cy1 hS; have a2 := cell_keep cy2 hS; have a3 := cell_keep cy3 hS; clear hS hSw; go_simp)
  simp only [Act.put, List.setIfInBounds_toArray, List.set_cons_zero, List.set_cons_succ]
  refine wpAnyH_ready (rs := [3, 7]) (by kernel_rfl) (by simp) ?_
  refine AllReadyH.cons (o := { dst := some 28, op := Op.call { callee := Callee.value (Operand.func 26), args := #[Operand.tmp 26, Operand.tmp 27], argTypes := #[34, 34] }, type := 34, pos := "ranges.go:162", after := #[{ on := 1, ground := Ground.data }, { on := 2, ground := Ground.data }], guard := none }) rfl (fun K hK => ?_) (AllReadyH.cons (o := { dst := some 9, op := Op.alloc 34, type := 0, pos := "ranges.go:162", after := #[], guard := none }) rfl (fun K hK => ?_) AllReadyH.nil)
  · have HH := hidden hH0
    clear hH0
    go_simp
    refine (C3.out _).mono ?_
    rintro e wn1 ⟨rfl, hb⟩
    have SN := hidden (bl_trans HH.out hb)
    clear HH hb C3
    go_wp2_with fail
    refine hK.out _ _ SN.out (fun hH1 => ?_)
    clear hK K SN
    refine wpAnyH_ready (rs := [4, 7]) (by kernel_rfl) (by simp) ?_
    refine AllReadyH.cons (o := { dst := some 29, op := Op.call { callee := Callee.value (Operand.func 25), args := #[Operand.tmp 25, Operand.tmp 28], argTypes := #[34, 34] }, type := 34, pos := "ranges.go:162", after := #[{ on := 0, ground := Ground.data }, { on := 3, ground := Ground.data }, { on := 3, ground := Ground.chain }], guard := none }) rfl (fun K hK => ?_) (AllReadyH.cons (o := { dst := some 9, op := Op.alloc 34, type := 0, pos := "ranges.go:162", after := #[], guard := none }) rfl (fun K hK => ?_) AllReadyH.nil)
    · have HH := hidden hH1
      clear hH1
      go_simp
      refine (C4.out _).mono ?_
      rintro e wn2 ⟨rfl, hb⟩
      have SN := hidden (bl_trans HH.out hb)
      clear HH hb C4
      go_wp2_with fail
      refine hK.out _ _ SN.out (fun hH2 => ?_)
      clear hK K SN
      refine wpAnyH_ready (rs := [6, 7]) (by kernel_rfl) (by simp) ?_
      refine AllReadyH.cons (o := { dst := some 31, op := Op.call { callee := Callee.value (Operand.func 26), args := #[Operand.tmp 29, Operand.tmp 30], argTypes := #[34, 34] }, type := 34, pos := "ranges.go:162", after := #[{ on := 4, ground := Ground.data }, { on := 5, ground := Ground.data }, { on := 4, ground := Ground.chain }], guard := none }) rfl (fun K hK => ?_) (AllReadyH.cons (o := { dst := some 9, op := Op.alloc 34, type := 0, pos := "ranges.go:162", after := #[], guard := none }) rfl (fun K hK => ?_) AllReadyH.nil)
      · have HH := hidden hH2
        clear hH2
        go_simp
        refine (C6.out _).mono ?_
        rintro e wn3 ⟨rfl, hb⟩
        have SN := hidden (bl_trans HH.out hb)
        clear HH hb C6
        go_wp2_with fail
        refine hK.out _ _ SN.out (fun hH3 => ?_)
        clear hK K SN
        refine wpAnyH_ready (rs := [7]) (by kernel_rfl) (by simp) ?_
        refine AllReadyH.cons (o := { dst := some 9, op := Op.alloc 34, type := 0, pos := "ranges.go:162", after := #[], guard := none }) rfl (fun K hK => ?_) AllReadyH.nil
        have HH := hidden hH3
        clear hH3
        refine wp_allocX z4 zv_r rfl (fun A wq4 hA hb hth hra => ?_)
        have GA := hidden (show W.heap.size ≤ A by rw [hA]; exact HH.out.size)
        have TH := hidden hth
        have SN := hidden (bl_trans HH.out hb)
        clear HH hb hth hra hA
        simp only [Act.put, List.setIfInBounds_toArray, List.set_cons_zero, List.set_cons_succ]
        refine hK.out _ _ SN.out (fun hH4 => ?_)
        clear hK K SN
        have HH := hidden hH4
        clear hH4
        refine wpAnyH_ready (rs := [8]) (by kernel_rfl) (by simp) ?_
        refine AllReadyH.cons (o := { dst := none, op := Op.store 34 (Operand.tmp 9) (Operand.tmp 31), type := 0, pos := "ranges.go:162", after := #[{ on := 7, ground := Ground.data }, { on := 6, ground := Ground.data }, { on := 6, ground := Ground.chain }, { on := 0, ground := Ground.phase }, { on := 1, ground := Ground.phase }, { on := 2, ground := Ground.phase }, { on := 3, ground := Ground.phase }, { on := 4, ground := Ground.phase }, { on := 5, ground := Ground.phase }, { on := 6, ground := Ground.phase }, { on := 7, ground := Ground.phase }], guard := none }) rfl (fun K hK => ?_) AllReadyH.nil
        refine wp_store_mid 34 _ _ rfl A 0 ([.int .u64 p.x0, .int .u64 p.x1, .int .u64 p.x2, .int .u64 p.x3]).toArray (by rfl) (by rfl) TH.out i4_r (one4 p) ?_
        have FQ := hidden (HQ.out A _ GA.out (below_setCellsM A _ 0 HH.out GA.out) (World.rangeAt_setCells_same _ A 0 _ TH.out) (there_setM TH.out A _))
        refine hK.out _ _ (below_setCellsM A _ 0 HH.out GA.out) (fun hF => ?_)
        clear hK K HH
        refine wpAnyH_done (by kernel_rfl) ?_ _
        refine NoPanic.normal ?_
        exact FQ.out
      · have HH := hidden hH2
        clear hH2
        refine wp_allocX z4 zv_r rfl (fun A wq3 hA hb hth hra => ?_)
        have GA := hidden (show W.heap.size ≤ A by rw [hA]; exact HH.out.size)
        have TH := hidden hth
        have SN := hidden (bl_trans HH.out hb)
        clear HH hb hth hra hA
        simp only [Act.put, List.setIfInBounds_toArray, List.set_cons_zero, List.set_cons_succ]
        refine hK.out _ _ SN.out (fun hH3 => ?_)
        clear hK K SN
        refine wpAnyH_ready (rs := [6]) (by kernel_rfl) (by simp) ?_
        refine AllReadyH.cons (o := { dst := some 31, op := Op.call { callee := Callee.value (Operand.func 26), args := #[Operand.tmp 29, Operand.tmp 30], argTypes := #[34, 34] }, type := 34, pos := "ranges.go:162", after := #[{ on := 4, ground := Ground.data }, { on := 5, ground := Ground.data }, { on := 4, ground := Ground.chain }], guard := none }) rfl (fun K hK => ?_) AllReadyH.nil
        have HH := hidden hH3
        clear hH3
        go_simp
        refine (C6.out _).mono ?_
        rintro e wn4 ⟨rfl, hb⟩
        replace TH := hidden (there_keepM TH.out hb)
        have SN := hidden (bl_trans HH.out hb)
        clear HH hb C6
        go_wp2_with fail
        refine hK.out _ _ SN.out (fun hH4 => ?_)
        clear hK K SN
        have HH := hidden hH4
        clear hH4
        refine wpAnyH_ready (rs := [8]) (by kernel_rfl) (by simp) ?_
        refine AllReadyH.cons (o := { dst := none, op := Op.store 34 (Operand.tmp 9) (Operand.tmp 31), type := 0, pos := "ranges.go:162", after := #[{ on := 7, ground := Ground.data }, { on := 6, ground := Ground.data }, { on := 6, ground := Ground.chain }, { on := 0, ground := Ground.phase }, { on := 1, ground := Ground.phase }, { on := 2, ground := Ground.phase }, { on := 3, ground := Ground.phase }, { on := 4, ground := Ground.phase }, { on := 5, ground := Ground.phase }, { on := 6, ground := Ground.phase }, { on := 7, ground := Ground.phase }], guard := none }) rfl (fun K hK => ?_) AllReadyH.nil
        refine wp_store_mid 34 _ _ rfl A 0 ([.int .u64 p.x0, .int .u64 p.x1, .int .u64 p.x2, .int .u64 p.x3]).toArray (by rfl) (by rfl) TH.out i4_r (one4 p) ?_
        have FQ := hidden (HQ.out A _ GA.out (below_setCellsM A _ 0 HH.out GA.out) (World.rangeAt_setCells_same _ A 0 _ TH.out) (there_setM TH.out A _))
        refine hK.out _ _ (below_setCellsM A _ 0 HH.out GA.out) (fun hF => ?_)
        clear hK K HH
        refine wpAnyH_done (by kernel_rfl) ?_ _
        refine NoPanic.normal ?_
        exact FQ.out
    · have HH := hidden hH1
      clear hH1
      refine wp_allocX z4 zv_r rfl (fun A wq2 hA hb hth hra => ?_)
      have GA := hidden (show W.heap.size ≤ A by rw [hA]; exact HH.out.size)
      have TH := hidden hth
      have SN := hidden (bl_trans HH.out hb)
      clear HH hb hth hra hA
      simp only [Act.put, List.setIfInBounds_toArray, List.set_cons_zero, List.set_cons_succ]
      refine hK.out _ _ SN.out (fun hH2 => ?_)
      clear hK K SN
      refine wpAnyH_ready (rs := [4]) (by kernel_rfl) (by simp) ?_
      refine AllReadyH.cons (o := { dst := some 29, op := Op.call { callee := Callee.value (Operand.func 25), args := #[Operand.tmp 25, Operand.tmp 28], argTypes := #[34, 34] }, type := 34, pos := "ranges.go:162", after := #[{ on := 0, ground := Ground.data }, { on := 3, ground := Ground.data }, { on := 3, ground := Ground.chain }], guard := none }) rfl (fun K hK => ?_) AllReadyH.nil
      have HH := hidden hH2
      clear hH2
      go_simp
      refine (C4.out _).mono ?_
      rintro e wn3 ⟨rfl, hb⟩
      replace TH := hidden (there_keepM TH.out hb)
      have SN := hidden (bl_trans HH.out hb)
      clear HH hb C4
      go_wp2_with fail
      refine hK.out _ _ SN.out (fun hH3 => ?_)
      clear hK K SN
      refine wpAnyH_ready (rs := [6]) (by kernel_rfl) (by simp) ?_
      refine AllReadyH.cons (o := { dst := some 31, op := Op.call { callee := Callee.value (Operand.func 26), args := #[Operand.tmp 29, Operand.tmp 30], argTypes := #[34, 34] }, type := 34, pos := "ranges.go:162", after := #[{ on := 4, ground := Ground.data }, { on := 5, ground := Ground.data }, { on := 4, ground := Ground.chain }], guard := none }) rfl (fun K hK => ?_) AllReadyH.nil
      have HH := hidden hH3
      clear hH3
      go_simp
      refine (C6.out _).mono ?_
      rintro e wn4 ⟨rfl, hb⟩
      replace TH := hidden (there_keepM TH.out hb)
      have SN := hidden (bl_trans HH.out hb)
      clear HH hb C6
      go_wp2_with fail
      refine hK.out _ _ SN.out (fun hH4 => ?_)
      clear hK K SN
      have HH := hidden hH4
      clear hH4
      refine wpAnyH_ready (rs := [8]) (by kernel_rfl) (by simp) ?_
      refine AllReadyH.cons (o := { dst := none, op := Op.store 34 (Operand.tmp 9) (Operand.tmp 31), type := 0, pos := "ranges.go:162", after := #[{ on := 7, ground := Ground.data }, { on := 6, ground := Ground.data }, { on := 6, ground := Ground.chain }, { on := 0, ground := Ground.phase }, { on := 1, ground := Ground.phase }, { on := 2, ground := Ground.phase }, { on := 3, ground := Ground.phase }, { on := 4, ground := Ground.phase }, { on := 5, ground := Ground.phase }, { on := 6, ground := Ground.phase }, { on := 7, ground := Ground.phase }], guard := none }) rfl (fun K hK => ?_) AllReadyH.nil
      refine wp_store_mid 34 _ _ rfl A 0 ([.int .u64 p.x0, .int .u64 p.x1, .int .u64 p.x2, .int .u64 p.x3]).toArray (by rfl) (by rfl) TH.out i4_r (one4 p) ?_
      have FQ := hidden (HQ.out A _ GA.out (below_setCellsM A _ 0 HH.out GA.out) (World.rangeAt_setCells_same _ A 0 _ TH.out) (there_setM TH.out A _))
      refine hK.out _ _ (below_setCellsM A _ 0 HH.out GA.out) (fun hF => ?_)
      clear hK K HH
      refine wpAnyH_done (by kernel_rfl) ?_ _
      refine NoPanic.normal ?_
      exact FQ.out
  · have HH := hidden hH0
    clear hH0
    refine wp_allocX z4 zv_r rfl (fun A wq1 hA hb hth hra => ?_)
    have GA := hidden (show W.heap.size ≤ A by rw [hA]; exact HH.out.size)
    have TH := hidden hth
    have SN := hidden (bl_trans HH.out hb)
    clear HH hb hth hra hA
    simp only [Act.put, List.setIfInBounds_toArray, List.set_cons_zero, List.set_cons_succ]
    refine hK.out _ _ SN.out (fun hH1 => ?_)
    clear hK K SN
    refine wpAnyH_ready (rs := [3]) (by kernel_rfl) (by simp) ?_
    refine AllReadyH.cons (o := { dst := some 28, op := Op.call { callee := Callee.value (Operand.func 26), args := #[Operand.tmp 26, Operand.tmp 27], argTypes := #[34, 34] }, type := 34, pos := "ranges.go:162", after := #[{ on := 1, ground := Ground.data }, { on := 2, ground := Ground.data }], guard := none }) rfl (fun K hK => ?_) AllReadyH.nil
    have HH := hidden hH1
    clear hH1
    go_simp
    refine (C3.out _).mono ?_
    rintro e wn2 ⟨rfl, hb⟩
    replace TH := hidden (there_keepM TH.out hb)
    have SN := hidden (bl_trans HH.out hb)
    clear HH hb C3
    go_wp2_with fail
    refine hK.out _ _ SN.out (fun hH2 => ?_)
    clear hK K SN
    refine wpAnyH_ready (rs := [4]) (by kernel_rfl) (by simp) ?_
    refine AllReadyH.cons (o := { dst := some 29, op := Op.call { callee := Callee.value (Operand.func 25), args := #[Operand.tmp 25, Operand.tmp 28], argTypes := #[34, 34] }, type := 34, pos := "ranges.go:162", after := #[{ on := 0, ground := Ground.data }, { on := 3, ground := Ground.data }, { on := 3, ground := Ground.chain }], guard := none }) rfl (fun K hK => ?_) AllReadyH.nil
    have HH := hidden hH2
    clear hH2
    go_simp
    refine (C4.out _).mono ?_
    rintro e wn3 ⟨rfl, hb⟩
    replace TH := hidden (there_keepM TH.out hb)
    have SN := hidden (bl_trans HH.out hb)
    clear HH hb C4
    go_wp2_with fail
    refine hK.out _ _ SN.out (fun hH3 => ?_)
    clear hK K SN
    refine wpAnyH_ready (rs := [6]) (by kernel_rfl) (by simp) ?_
    refine AllReadyH.cons (o := { dst := some 31, op := Op.call { callee := Callee.value (Operand.func 26), args := #[Operand.tmp 29, Operand.tmp 30], argTypes := #[34, 34] }, type := 34, pos := "ranges.go:162", after := #[{ on := 4, ground := Ground.data }, { on := 5, ground := Ground.data }, { on := 4, ground := Ground.chain }], guard := none }) rfl (fun K hK => ?_) AllReadyH.nil
    have HH := hidden hH3
    clear hH3
    go_simp
    refine (C6.out _).mono ?_
    rintro e wn4 ⟨rfl, hb⟩
    replace TH := hidden (there_keepM TH.out hb)
    have SN := hidden (bl_trans HH.out hb)
    clear HH hb C6
    go_wp2_with fail
    refine hK.out _ _ SN.out (fun hH4 => ?_)
    clear hK K SN
    have HH := hidden hH4
    clear hH4
    refine wpAnyH_ready (rs := [8]) (by kernel_rfl) (by simp) ?_
    refine AllReadyH.cons (o := { dst := none, op := Op.store 34 (Operand.tmp 9) (Operand.tmp 31), type := 0, pos := "ranges.go:162", after := #[{ on := 7, ground := Ground.data }, { on := 6, ground := Ground.data }, { on := 6, ground := Ground.chain }, { on := 0, ground := Ground.phase }, { on := 1, ground := Ground.phase }, { on := 2, ground := Ground.phase }, { on := 3, ground := Ground.phase }, { on := 4, ground := Ground.phase }, { on := 5, ground := Ground.phase }, { on := 6, ground := Ground.phase }, { on := 7, ground := Ground.phase }], guard := none }) rfl (fun K hK => ?_) AllReadyH.nil
    refine wp_store_mid 34 _ _ rfl A 0 ([.int .u64 p.x0, .int .u64 p.x1, .int .u64 p.x2, .int .u64 p.x3]).toArray (by rfl) (by rfl) TH.out i4_r (one4 p) ?_
    have FQ := hidden (HQ.out A _ GA.out (below_setCellsM A _ 0 HH.out GA.out) (World.rangeAt_setCells_same _ A 0 _ TH.out) (there_setM TH.out A _))
    refine hK.out _ _ (below_setCellsM A _ 0 HH.out GA.out) (fun hF => ?_)
    clear hK K HH
    refine wpAnyH_done (by kernel_rfl) ?_ _
    refine NoPanic.normal ?_
    exact FQ.out
end Go.Proofs.YtpblcnefihhhoaaDoor
namespace Go.Proofs.YtpblcnefihhhoaaDoor
open Go.RowKit
set_option linter.unusedVariables false
theorem Mw.upd {w0 : World} {L M : List (Nat × List Value)} {w wz : World} {c : Nat} {ds : List Value} (h : Mw w0 L w) (hg : w.grownBy wz (some c)) (hr : wz.rangeAt c 0 ds) (ht : wz.there c 0 ds.length) (hc : w0.heap.size ≤ c) (hl : c < w.heap.size) (hs : ∀ p ∈ M, p ∈ L ∧ c ≠ p.1) : Mw w0 ((c, ds) :: M) wz := by
  refine ⟨h.bel.grown hg h.bel.size (fun j hj => by obtain rfl := Option.some.inj hj; exact hc), fun p hp => ?_⟩
  rcases List.mem_cons.1 hp with rfl | hp
  · exact ⟨hr, ht, hc, Nat.lt_of_lt_of_le hl hg.size⟩
  · obtain ⟨h1, h2⟩ := hs p hp
    obtain ⟨a, b, c', d⟩ := h.r p h1
    have hb := hg.block p.1 d (fun e => h2 (Option.some.inj e).symm)
    exact ⟨fun j v hv => (World.cell?_of_block hb).trans (a j v hv), fun j hj => ⟨by rw [World.cell?_of_block hb]; exact (b j hj).1, by rw [World.frozen?_of_block hb]; exact (b j hj).2⟩, c', Nat.lt_of_lt_of_le d hg.size⟩
theorem Mw.blc {w0 : World} {L : List (Nat × List Value)} {w : World} (h : Mw w0 L w) {c : Nat} {p : E4} (hc : (c, [.int .u64 p.x0, .int .u64 p.x1, .int .u64 p.x2, .int .u64 p.x3]) ∈ L) : Blc w c p := by
  have r := (h.r _ hc).1
  have c0 := r 0 _ rfl; have c1 := r 1 _ rfl; have c2 := r 2 _ rfl; have c3 := r 3 _ rfl
  simp only [Nat.zero_add] at c0 c1 c2 c3
  exact ⟨c0, c1, c2, c3⟩
set_option maxRecDepth 100000 in
set_option maxHeartbeats 8000000 in
theorem power_any (n : Int) (E : Nat) (w : World) (hE : E < 9223372036854775808) :
    Calls Tryd.prog 24 #[(lst n).v, .int .i64 E] w fun e w' => e = .returned (lst (n ^ E)).v ∧ Below w.heap.size w w' := by
  have PO := hidden (fun x => rPower_any n E x (by omega))
  have we : IntKind.u64.wrap (E : Int) = (E : Int) := IntWalk.u64_in _ (by omega)
  obtain ⟨y, hy⟩ : ∃ y, lst n = y := ⟨_, rfl⟩
  obtain ⟨r, hr⟩ : ∃ r, lst (n ^ E) = r := ⟨_, rfl⟩
  rw [hy, hr] at PO
  rw [hy, hr]
  have M0 := (Mw.start w).new [.int .u64 y.x0, .int .u64 y.x1, .int .u64 y.x2, .int .u64 y.x3] 34
  have M1 := M0.new [.int .u64 0, .int .u64 0, .int .u64 0, .int .u64 0] 34
  rw [World.size_alloc] at M1
  have MM := hidden M1
  clear M0 M1 hy hr hE
  simp only [E4.v] at PO ⊢
  go_enter Tryd.func24, Tryd.ntmps24
  go_upto_region 1 with fail
  generalize (w.alloc (.cells #[.int .u64 y.x0, .int .u64 y.x1, .int .u64 y.x2, .int .u64 y.x3] 34)).alloc (.cells #[.int .u64 0, .int .u64 0, .int .u64 0, .int .u64 0] 34) = w1 at *
  have r_cy := (MM.out.r (w.heap.size, [.int .u64 y.x0, .int .u64 y.x1, .int .u64 y.x2, .int .u64 y.x3]) (by simp)).1
  have cy0 := r_cy 0 _ rfl
  have cy1 := r_cy 1 _ rfl
  have cy2 := r_cy 2 _ rfl
  have cy3 := r_cy 3 _ rfl
  simp only [Nat.zero_add] at cy0 cy1 cy2 cy3
  clear r_cy
  go_wp2_with (first | (go_at_call 45; refine (PO.out _).mono ?_; rintro e w6 ⟨rfl, hb⟩; have M6 := hidden (MM.out.keep hb); clear hb MM cy0 cy1 cy2 cy3; have TH := hidden (M6.out.ther [.int .u64 r.x0, .int .u64 r.x1, .int .u64 r.x2, .int .u64 r.x3] (c := w.heap.size + 1) (o := [.int .u64 0, .int .u64 0, .int .u64 0, .int .u64 0]) (by simp) rfl)) | (refine wpList_storeL rfl 34 _ _ rfl rfl (w.heap.size + 1) 0 [.int .u64 r.x0, .int .u64 r.x1, .int .u64 r.x2, .int .u64 r.x3] (by rfl) (by rfl) TH.out i4_r (one4 r) ?_; have MF := hidden (M6.out.set (M := []) [.int .u64 r.x0, .int .u64 r.x1, .int .u64 r.x2, .int .u64 r.x3] (c := w.heap.size + 1) (o := [.int .u64 0, .int .u64 0, .int .u64 0, .int .u64 0]) (by simp) rfl (by simp)); clear M6; generalize World.setCells _ (w.heap.size + 1) 0 [.int .u64 r.x0, .int .u64 r.x1, .int .u64 r.x2, .int .u64 r.x3] = wf at *))
  have LD := hidden (MF.out.var (c := w.heap.size + 1) (ds := [.int .u64 r.x0, .int .u64 r.x1, .int .u64 r.x2, .int .u64 r.x3]) (by simp) Tryd.underlying34 rfl i4_r)
  refine bodyPost_ret (v := .agg [.int .u64 r.x0, .int .u64 r.x1, .int .u64 r.x2, .int .u64 r.x3].toArray) (results_cellM Tryd.results24 _ _ _ _ _ (by rfl) LD.out) rfl ⟨rfl, MF.out.bel⟩
theorem two_lt (B : Nat) (h : B < 64) : (2 : Int) ^ B < 18446744073709551616 := by
  have e : ((2 : Int) ^ B) = ((2 ^ B : Nat) : Int) := by simp
  have h2 : 2 ^ B < 2 ^ 64 := Nat.pow_lt_pow_right (by omega) h
  rw [e]
  omega
theorem sm_lst (f : Nat → Int) (i : Nat) : lst (sm f i + f i) = lst (sm f (i + 1)) := rfl
/-- the document's Delta under way -/
def dm (B : Nat) (D Z : Int) (j : Nat) : Int := D - sm (fun k => Z ^ (3 + k) * (2 ^ B - 1)) j
theorem dm_next (B : Nat) (D Z : Int) (j : Nat) : lst (dm B D Z j - Z ^ (3 + j) * (2 ^ B - 1)) = lst (dm B D Z (j + 1)) := by
  unfold dm; congr 1; simp only [sm]; omega
set_option maxRecDepth 100000 in
set_option maxHeartbeats 8000000 in
theorem rDelta_any (B C n : Nat) (hn : B * C = n) (hB : B ≤ 64) (hC : C ≤ 16) (Y Z : Int) (w : World) :
    Calls Tryd.prog 12 #[.agg #[.int .i64 (B : Int), .int .i64 (C : Int)], (lst Y).v, (lst Z).v] w fun e w' => e = .returned (lst (dw B C n Y Z)).v ∧ Below w.heap.size w w' := by
  have hle : B * C ≤ 64 * 16 := Nat.mul_le_mul hB hC
  have HN : Hid (n ≤ 1024 ∧ B ≤ 64 ∧ C ≤ 16) := hidden ⟨by omega, hB, hC⟩
  have SZ := hidden (fun w => Size_any B C n hn hB hC w)
  obtain ⟨y, hy⟩ : ∃ y, lst Y = y := ⟨_, rfl⟩
  obtain ⟨z, hz⟩ : ∃ y, lst Z = y := ⟨_, rfl⟩
  have HY := hidden hy; have HZ := hidden hz
  rw [hy, hz]
  have M0 := (Mw.start w).new [.int .i64 (B : Int), .int .i64 (C : Int)] 23
  have M1 := M0.new [.int .u64 y.x0, .int .u64 y.x1, .int .u64 y.x2, .int .u64 y.x3] 34
  rw [World.size_alloc] at M1
  have M2 := M1.new [.int .u64 z.x0, .int .u64 z.x1, .int .u64 z.x2, .int .u64 z.x3] 34
  simp only [World.size_alloc] at M2
  have M3 := M2.new [.int .u64 0, .int .u64 0, .int .u64 0, .int .u64 0] 34
  simp only [World.size_alloc] at M3
  have M4 := M3.new [.int .u64 0, .int .u64 0, .int .u64 0, .int .u64 0] 34
  simp only [World.size_alloc] at M4
  have MM := hidden M4
  clear M0 M1 M2 M3 M4 hn hB hC hle hy hz
  unfold E4.v
  go_enter Tryd.func12, Tryd.ntmps12
  go_wp2_with fail
  generalize ((((w.alloc (.cells #[.int .i64 (B : Int), .int .i64 (C : Int)] 23)).alloc (.cells #[.int .u64 y.x0, .int .u64 y.x1, .int .u64 y.x2, .int .u64 y.x3] 34)).alloc (.cells #[.int .u64 z.x0, .int .u64 z.x1, .int .u64 z.x2, .int .u64 z.x3] 34)).alloc (.cells #[.int .u64 0, .int .u64 0, .int .u64 0, .int .u64 0] 34)).alloc (.cells #[.int .u64 0, .int .u64 0, .int .u64 0, .int .u64 0] 34) = w5 at *
  have X0 : lst (sm (fun k => Y ^ k) 0) = zero4 := zero_lst
  go_loopw [8] (fun iv w' => ∃ (i : Nat) (p : E4), i ≤ n ∧ iv = .int .i64 i ∧ Hid (lst (sm (fun k => Y ^ k) i) = p) ∧ Hid (Mw w [(w.heap.size + 1 + 1 + 1 + 1, [.int .u64 p.x0, .int .u64 p.x1, .int .u64 p.x2, .int .u64 p.x3]), (w.heap.size + 1 + 1 + 1, [.int .u64 0, .int .u64 0, .int .u64 0, .int .u64 0]), (w.heap.size + 1 + 1, [.int .u64 z.x0, .int .u64 z.x1, .int .u64 z.x2, .int .u64 z.x3]), (w.heap.size + 1, [.int .u64 y.x0, .int .u64 y.x1, .int .u64 y.x2, .int .u64 y.x3]), (w.heap.size, [.int .i64 (B : Int), .int .i64 (C : Int)])] w')) (fun i _ => n - (intOf i).toNat)
  case atStart => exact ⟨0, zero4, by omega, rfl, hidden X0, MM⟩
  case round =>
    clear MM X0
    obtain ⟨i, p, hi, rfl, hp, hM⟩ := hrel
    have r_cp := (hM.out.r (w.heap.size, [.int .i64 (B : Int), .int .i64 (C : Int)]) (by simp)).1
    have cp0 := r_cp 0 _ rfl
    have cp1 := r_cp 1 _ rfl
    simp only [Nat.zero_add] at cp0 cp1
    clear r_cp
    by_cases hin : i < n
    · have ii1 : (i : Int) < (n : Int) := by omega
      have w9 : IntKind.i64.wrap ((i : Int) + 1) = (i : Int) + 1 := IntWalk.i64_in _ (by have := HN.out; omega)
      go_upto_region 5 with (first | (go_at_call 14; refine (SZ.out _).mono ?_; rintro e wa ⟨rfl, hb⟩; have MA := hidden (hM.out.keep hb); clear hb hM cp0 cp1))
      have r_cy := (MA.out.r (w.heap.size + 1, [.int .u64 y.x0, .int .u64 y.x1, .int .u64 y.x2, .int .u64 y.x3]) (by simp)).1
      have cy0 := r_cy 0 _ rfl
      have cy1 := r_cy 1 _ rfl
      have cy2 := r_cy 2 _ rfl
      have cy3 := r_cy 3 _ rfl
      simp only [Nat.zero_add] at cy0 cy1 cy2 cy3
      clear r_cy
      obtain ⟨v, hv⟩ : ∃ v, lst (Y ^ i) = v := ⟨_, rfl⟩
      obtain ⟨q, hq⟩ : ∃ q, lst (sm (fun k => Y ^ k) (i + 1)) = q := ⟨_, rfl⟩
      have HV := hidden hv; have HQ := hidden hq
      clear hv hq
      refine rd5 _ (w.heap.size + 1) (w.heap.size + 1 + 1 + 1 + 1) i y p v q _ _ _ _ _ _ _ _ _ _ _ _ _ _ _ _ _ _ _ _ _ _ _ _ _ _ _ _ _ _ _ _ _ _ _ _ _ _ _ _ _ _ _ _ _ _ _ _ _ _ _ _ _ _ _ _ wa (MA.out.r (w.heap.size + 1 + 1 + 1 + 1, [.int .u64 p.x0, .int .u64 p.x1, .int .u64 p.x2, .int .u64 p.x3]) (by simp)).2.1 (MA.out.blc (by simp)) (by omega) cy0 cy1 cy2 cy3 (hidden (fun x => by rw [← E4.v, ← E4.v, ← HY.out, ← HV.out]; exact power_any Y i x (by have := HN.out; omega))) (hidden (fun x => by rw [← E4.v, ← E4.v, ← E4.v, ← hp.out, ← HV.out, ← HQ.out]; exact rAdd_any _ _ x)) (hidden ?_)
      intro wz hg hr ht
      have MB := hidden (MA.out.upd (M := [(w.heap.size + 1 + 1 + 1, [.int .u64 0, .int .u64 0, .int .u64 0, .int .u64 0]), (w.heap.size + 1 + 1, [.int .u64 z.x0, .int .u64 z.x1, .int .u64 z.x2, .int .u64 z.x3]), (w.heap.size + 1, [.int .u64 y.x0, .int .u64 y.x1, .int .u64 y.x2, .int .u64 y.x3]), (w.heap.size, [.int .i64 (B : Int), .int .i64 (C : Int)])]) hg hr ht (by omega) (MA.out.r (w.heap.size + 1 + 1 + 1 + 1, [.int .u64 p.x0, .int .u64 p.x1, .int .u64 p.x2, .int .u64 p.x3]) (by simp)).2.2.2 (by simp; omega))
      clear hg hr ht MA cy0 cy1 cy2 cy3
      go_wp2_with fail
      go_roundw
      case rel => exact ⟨i + 1, q, by omega, by simp, HQ, MB⟩
      case measure => simp [intOf]; omega
    · have hii : n = i := by omega
      subst hii
      clear hin hi
      go_upto_region 6 with (first | (go_at_call 14; refine (SZ.out _).mono ?_; rintro e wa ⟨rfl, hb⟩; have MA := hidden (hM.out.keep hb); clear hb hM cp0 cp1))
      have r_cz := (MA.out.r (w.heap.size + 1 + 1, [.int .u64 z.x0, .int .u64 z.x1, .int .u64 z.x2, .int .u64 z.x3]) (by simp)).1
      have cz0 := r_cz 0 _ rfl
      have cz1 := r_cz 1 _ rfl
      have cz2 := r_cz 2 _ rfl
      have cz3 := r_cz 3 _ rfl
      have r_cy := (MA.out.r (w.heap.size + 1 + 1 + 1 + 1, [.int .u64 p.x0, .int .u64 p.x1, .int .u64 p.x2, .int .u64 p.x3]) (by simp)).1
      have cy0 := r_cy 0 _ rfl
      have cy1 := r_cy 1 _ rfl
      have cy2 := r_cy 2 _ rfl
      have cy3 := r_cy 3 _ rfl
      simp only [Nat.zero_add] at cz0 cz1 cz2 cz3 cy0 cy1 cy2 cy3
      clear r_cz r_cy
      obtain ⟨zz, hzz⟩ : ∃ v, lst (Z * Z) = v := ⟨_, rfl⟩
      obtain ⟨s1, hs1⟩ : ∃ v, lst (Z - Z * Z) = v := ⟨_, rfl⟩
      obtain ⟨D, hD⟩ : ∃ D : Int, (Z - Z * Z) * sm (fun k => Y ^ k) n = D := ⟨_, rfl⟩
      obtain ⟨d, hd⟩ : ∃ d, lst D = d := ⟨_, rfl⟩
      have HZZ := hidden hzz; have HS1 := hidden hs1; have HD := hidden hD; have HDD := hidden hd
      clear hzz hs1 hD hd
      refine rd6 _ (w.heap.size + 1 + 1) (w.heap.size + 1 + 1 + 1 + 1) z zz s1 p d _ _ _ _ _ _ _ _ _ _ _ _ _ _ _ _ _ _ _ _ _ _ _ _ _ _ _ _ _ _ _ _ _ _ _ _ _ _ _ _ _ _ _ _ _ _ _ _ _ _ _ _ _ _ _ _ _ wa cz0 cz1 cz2 cz3 cy0 cy1 cy2 cy3 (hidden (fun x => by rw [← E4.v, ← E4.v, ← HZ.out, ← HZZ.out]; exact rMul_any Z Z x)) (hidden (fun x => by rw [← E4.v, ← E4.v, ← E4.v, ← HZ.out, ← HZZ.out, ← HS1.out]; exact rSub_any Z (Z * Z) x)) (hidden (fun x => by rw [← E4.v, ← E4.v, ← E4.v, ← HS1.out, ← hp.out, ← HDD.out, ← HD.out]; exact rMul_any _ _ x)) (hidden ?_)
      intro A wz hA hbz hrz htz
      have M6 := (MA.out.keep hbz).add (c := A) (cs := [.int .u64 d.x0, .int .u64 d.x1, .int .u64 d.x2, .int .u64 d.x3]) hrz htz (Nat.le_trans MA.out.bel.size hA) (World.block_lt_of_cell? wz ⟨A, 0 + 0, none⟩ (hrz 0 _ rfl))
      have HA : Hid (w.heap.size + 1 + 1 + 1 + 1 < A) := hidden (by have := (MA.out.r (w.heap.size + 1 + 1 + 1 + 1, [.int .u64 p.x0, .int .u64 p.x1, .int .u64 p.x2, .int .u64 p.x3]) (by simp)).2.2.2; omega)
      have LA : Hid (A < wz.heap.size) := hidden (World.block_lt_of_cell? wz ⟨A, 0 + 0, none⟩ (hrz 0 _ rfl))
      have M7 := hidden (M6.new [.int .u64 0, .int .u64 0, .int .u64 0, .int .u64 0] 34)
      clear cz0 cz1 cz2 cz3 cy0 cy1 cy2 cy3 hA hbz hrz htz MA M6
      go_upto_region 8 with fail
      generalize wz.alloc (.cells #[.int .u64 0, .int .u64 0, .int .u64 0, .int .u64 0] 34) = w8 at *
      generalize wz.heap.size = X at *
      go_wp2_with fail
      have X0 : lst (sm (fun k => (2 : Int) ^ k) 0) = zero4 := zero_lst
      go_loopw [11] (fun iv w' => ∃ (i : Nat) (t : E4), i ≤ B ∧ iv = .int .i64 i ∧ Hid (lst (sm (fun k => (2 : Int) ^ k) i) = t) ∧ Hid (Mw w [(X, [.int .u64 t.x0, .int .u64 t.x1, .int .u64 t.x2, .int .u64 t.x3]), (A, [.int .u64 d.x0, .int .u64 d.x1, .int .u64 d.x2, .int .u64 d.x3]), (w.heap.size + 1 + 1 + 1 + 1, [.int .u64 p.x0, .int .u64 p.x1, .int .u64 p.x2, .int .u64 p.x3]), (w.heap.size + 1 + 1 + 1, [.int .u64 0, .int .u64 0, .int .u64 0, .int .u64 0]), (w.heap.size + 1 + 1, [.int .u64 z.x0, .int .u64 z.x1, .int .u64 z.x2, .int .u64 z.x3]), (w.heap.size + 1, [.int .u64 y.x0, .int .u64 y.x1, .int .u64 y.x2, .int .u64 y.x3]), (w.heap.size, [.int .i64 (B : Int), .int .i64 (C : Int)])] w')) (fun i _ => B - (intOf i).toNat)
      case atStart => exact ⟨0, zero4, by omega, rfl, hidden X0, M7⟩
      case round =>
        clear M7 X0
        obtain ⟨i, t, hi, rfl, ht, hM⟩ := hrel
        have r_cp := (hM.out.r (w.heap.size, [.int .i64 (B : Int), .int .i64 (C : Int)]) (by simp)).1
        have cp0 := r_cp 0 _ rfl
        have cp1 := r_cp 1 _ rfl
        simp only [Nat.zero_add] at cp0 cp1
        clear r_cp
        by_cases hin : i < B
        · have ii1 : (i : Int) < (B : Int) := by omega
          have w9 : IntKind.i64.wrap ((i : Int) + 1) = (i : Int) + 1 := IntWalk.i64_in _ (by have := HN.out; omega)
          go_upto_region 11 with fail
          clear cp0 cp1
          have i64 : i < 64 := by have := HN.out; omega
          have tb := two_bd i (by omega)
          have tl : (2 : Int) ^ i < 18446744073709551616 := two_lt i i64
          obtain ⟨e, he⟩ : ∃ e, (2 : Int) ^ i = e := ⟨_, rfl⟩
          have we : IntKind.u64.wrap ((2 : Int) ^ i) = e := by rw [IntWalk.u64_in _ (by omega), he]
          obtain ⟨v, hv⟩ : ∃ v : E4, ⟨e, 0, 0, 0⟩ = v := ⟨_, rfl⟩
          have HV : Hid (lst ((2 : Int) ^ i) = v) := hidden (by rw [he, ← hv]; exact int_is e (by unfold Sm.Wd; omega))
          obtain ⟨q, hq⟩ : ∃ q, lst (sm (fun k => (2 : Int) ^ k) (i + 1)) = q := ⟨_, rfl⟩
          have HQ := hidden hq
          clear hq he
          refine rd11 _ X i e t v q _ _ _ _ _ _ _ _ _ _ _ _ _ _ _ _ _ _ _ _ _ _ _ _ _ _ _ _ _ _ _ _ _ _ _ _ _ _ _ _ _ _ _ _ _ _ _ _ _ _ _ _ _ _ _ _ _ _ (hM.out.r (X, [.int .u64 t.x0, .int .u64 t.x1, .int .u64 t.x2, .int .u64 t.x3]) (by simp)).2.1 (hM.out.blc (by simp)) i64 we (hidden (fun x => by rw [← E4.v, ← hv]; exact rInt_any e x)) (hidden (fun x => by rw [← E4.v, ← E4.v, ← E4.v, ← ht.out, ← HV.out, ← HQ.out]; exact rAdd_any _ _ x)) (hidden ?_)
          intro wy hg hr htt
          have MB := hidden (hM.out.upd (M := [(A, [.int .u64 d.x0, .int .u64 d.x1, .int .u64 d.x2, .int .u64 d.x3]), (w.heap.size + 1 + 1 + 1 + 1, [.int .u64 p.x0, .int .u64 p.x1, .int .u64 p.x2, .int .u64 p.x3]), (w.heap.size + 1 + 1 + 1, [.int .u64 0, .int .u64 0, .int .u64 0, .int .u64 0]), (w.heap.size + 1 + 1, [.int .u64 z.x0, .int .u64 z.x1, .int .u64 z.x2, .int .u64 z.x3]), (w.heap.size + 1, [.int .u64 y.x0, .int .u64 y.x1, .int .u64 y.x2, .int .u64 y.x3]), (w.heap.size, [.int .i64 (B : Int), .int .i64 (C : Int)])]) hg hr htt (by have := HA.out; have := LA.out; omega) (hM.out.r (X, [.int .u64 t.x0, .int .u64 t.x1, .int .u64 t.x2, .int .u64 t.x3]) (by simp)).2.2.2 (by have := HA.out; have := LA.out; simp; omega))
          clear hg hr htt hM i64 tb tl we hv
          go_wp2_with fail
          go_roundw
          case rel => exact ⟨i + 1, q, by omega, by simp, HQ, MB⟩
          case measure => simp [intOf]; omega
        · have hii : B = i := by omega
          subst hii
          clear hin hi
          go_wp2_with fail
          have D0 : Hid (lst (dm B D Z 0) = d) := hidden (by rw [← HDD.out]; unfold dm; simp [sm])
          go_loopw [12] (fun iv w' => ∃ (i : Nat) (u : E4), i ≤ C ∧ iv = .int .i64 i ∧ Hid (lst (dm B D Z i) = u) ∧ Hid (Mw w [(A, [.int .u64 u.x0, .int .u64 u.x1, .int .u64 u.x2, .int .u64 u.x3]), (X, [.int .u64 t.x0, .int .u64 t.x1, .int .u64 t.x2, .int .u64 t.x3]), (w.heap.size + 1 + 1 + 1 + 1, [.int .u64 p.x0, .int .u64 p.x1, .int .u64 p.x2, .int .u64 p.x3]), (w.heap.size + 1 + 1 + 1, [.int .u64 0, .int .u64 0, .int .u64 0, .int .u64 0]), (w.heap.size + 1 + 1, [.int .u64 z.x0, .int .u64 z.x1, .int .u64 z.x2, .int .u64 z.x3]), (w.heap.size + 1, [.int .u64 y.x0, .int .u64 y.x1, .int .u64 y.x2, .int .u64 y.x3]), (w.heap.size, [.int .i64 (B : Int), .int .i64 (C : Int)])] w')) (fun i _ => C - (intOf i).toNat)
          case atStart => exact ⟨0, d, by omega, rfl, D0, hidden (hM.out.sub (by simp))⟩
          case round =>
            clear hM D0 cp0 cp1
            obtain ⟨i, u, hi, rfl, hu, hM⟩ := hrel
            have r_cp := (hM.out.r (w.heap.size, [.int .i64 (B : Int), .int .i64 (C : Int)]) (by simp)).1
            have cp0 := r_cp 0 _ rfl
            have cp1 := r_cp 1 _ rfl
            simp only [Nat.zero_add] at cp0 cp1
            clear r_cp
            by_cases hin : i < C
            · have ii1 : (i : Int) < (C : Int) := by omega
              have w9 : IntKind.i64.wrap ((i : Int) + 1) = (i : Int) + 1 := IntWalk.i64_in _ (by have := HN.out; omega)
              go_upto_region 15 with fail
              have r_cz := (hM.out.r (w.heap.size + 1 + 1, [.int .u64 z.x0, .int .u64 z.x1, .int .u64 z.x2, .int .u64 z.x3]) (by simp)).1
              have cz0 := r_cz 0 _ rfl
              have cz1 := r_cz 1 _ rfl
              have cz2 := r_cz 2 _ rfl
              have cz3 := r_cz 3 _ rfl
              have r_ct := (hM.out.r (X, [.int .u64 t.x0, .int .u64 t.x1, .int .u64 t.x2, .int .u64 t.x3]) (by simp)).1
              have ct0 := r_ct 0 _ rfl
              have ct1 := r_ct 1 _ rfl
              have ct2 := r_ct 2 _ rfl
              have ct3 := r_ct 3 _ rfl
              simp only [Nat.zero_add] at cz0 cz1 cz2 cz3 ct0 ct1 ct2 ct3
              clear r_cz r_ct
              obtain ⟨j, hj⟩ : ∃ j, 3 + i = j := ⟨_, rfl⟩
              have wj : IntKind.i64.wrap (3 + (i : Int)) = (j : Int) := by rw [IntWalk.i64_in _ (by have := HN.out; omega)]; omega
              obtain ⟨v, hv⟩ : ∃ v, lst (Z ^ j) = v := ⟨_, rfl⟩
              obtain ⟨k, hk⟩ : ∃ v, lst (Z ^ j * (2 ^ B - 1)) = v := ⟨_, rfl⟩
              obtain ⟨q, hq⟩ : ∃ q, lst (dm B D Z (i + 1)) = q := ⟨_, rfl⟩
              have HV := hidden hv; have HK := hidden hk; have HQ := hidden hq; have HJ := hidden hj
              have TW : Hid (lst (2 ^ B - 1) = t) := hidden (by rw [← ht.out, sm_two])
              clear hv hk hq hj cp0 cp1
              refine rd15 _ (w.heap.size + 1 + 1) A X i j z t u v k q _ _ _ _ _ _ _ _ _ _ _ _ _ _ _ _ _ _ _ _ _ _ _ _ _ _ _ _ _ _ _ _ _ _ _ _ _ _ _ _ _ _ _ _ _ _ _ _ _ _ _ _ _ _ _ _ (hM.out.r (A, [.int .u64 u.x0, .int .u64 u.x1, .int .u64 u.x2, .int .u64 u.x3]) (by simp)).2.1 (hM.out.blc (by simp)) (by have := HA.out; omega) (by have := LA.out; omega) wj cz0 cz1 cz2 cz3 ct0 ct1 ct2 ct3 (hidden (fun x => by rw [← E4.v, ← E4.v, ← HZ.out, ← HV.out]; exact power_any Z j x (by have := HN.out; have := HJ.out; omega))) (hidden (fun x => by rw [← E4.v, ← E4.v, ← E4.v, ← HV.out, ← TW.out, ← HK.out]; exact rMul_any _ _ x)) (hidden (fun x => by rw [← E4.v, ← E4.v, ← E4.v, ← hu.out, ← HK.out, ← HQ.out, ← dm_next, HJ.out]; exact rSub_any _ _ x)) (hidden ?_)
              intro wy hg hr htt
              have MB := hidden (hM.out.upd (M := [(X, [.int .u64 t.x0, .int .u64 t.x1, .int .u64 t.x2, .int .u64 t.x3]), (w.heap.size + 1 + 1 + 1 + 1, [.int .u64 p.x0, .int .u64 p.x1, .int .u64 p.x2, .int .u64 p.x3]), (w.heap.size + 1 + 1 + 1, [.int .u64 0, .int .u64 0, .int .u64 0, .int .u64 0]), (w.heap.size + 1 + 1, [.int .u64 z.x0, .int .u64 z.x1, .int .u64 z.x2, .int .u64 z.x3]), (w.heap.size + 1, [.int .u64 y.x0, .int .u64 y.x1, .int .u64 y.x2, .int .u64 y.x3]), (w.heap.size, [.int .i64 (B : Int), .int .i64 (C : Int)])]) hg hr htt (by have := HA.out; omega) (hM.out.r (A, [.int .u64 u.x0, .int .u64 u.x1, .int .u64 u.x2, .int .u64 u.x3]) (by simp)).2.2.2 (by have := HA.out; have := LA.out; simp; omega))
              clear hg hr htt hM wj cz0 cz1 cz2 cz3 ct0 ct1 ct2 ct3
              go_wp2_with fail
              go_roundw
              case rel => exact ⟨i + 1, q, by omega, by simp, HQ, MB⟩
              case measure => simp [intOf]; omega
            · have hii : C = i := by omega
              subst hii
              clear hin hi
              have FIN : Hid (lst (dw B C n Y Z) = u) := hidden (by rw [← hu.out]; unfold dw dm; rw [HD.out])
              have r_cu := (hM.out.r (A, [.int .u64 u.x0, .int .u64 u.x1, .int .u64 u.x2, .int .u64 u.x3]) (by simp)).1
              have cu0 := r_cu 0 _ rfl
              have cu1 := r_cu 1 _ rfl
              have cu2 := r_cu 2 _ rfl
              have cu3 := r_cu 3 _ rfl
              simp only [Nat.zero_add] at cu0 cu1 cu2 cu3
              clear r_cu
              have TH := hidden (hM.out.ther [.int .u64 u.x0, .int .u64 u.x1, .int .u64 u.x2, .int .u64 u.x3] (c := w.heap.size + 1 + 1 + 1) (o := [.int .u64 0, .int .u64 0, .int .u64 0, .int .u64 0]) (by simp) rfl)
              have MF := hidden (hM.out.set (M := []) [.int .u64 u.x0, .int .u64 u.x1, .int .u64 u.x2, .int .u64 u.x3] (c := w.heap.size + 1 + 1 + 1) (o := [.int .u64 0, .int .u64 0, .int .u64 0, .int .u64 0]) (by simp) rfl (by simp))
              clear hM
              go_wp2_with (first | (refine wpList_storeL rfl 34 _ _ rfl rfl (w.heap.size + 1 + 1 + 1) 0 [.int .u64 u.x0, .int .u64 u.x1, .int .u64 u.x2, .int .u64 u.x3] (by rfl) (by rfl) TH.out i4_r (one4 u) ?_; generalize World.setCells _ (w.heap.size + 1 + 1 + 1) 0 [.int .u64 u.x0, .int .u64 u.x1, .int .u64 u.x2, .int .u64 u.x3] = wf at *))
              have LD := hidden (MF.out.var (c := w.heap.size + 1 + 1 + 1) (ds := [.int .u64 u.x0, .int .u64 u.x1, .int .u64 u.x2, .int .u64 u.x3]) (by simp) Tryd.underlying34 rfl i4_r)
              refine bodyPost_ret (v := .agg [.int .u64 u.x0, .int .u64 u.x1, .int .u64 u.x2, .int .u64 u.x3].toArray) (results_cellM Tryd.results12 _ _ _ _ _ (by rfl) LD.out) rfl ⟨by rw [FIN.out], MF.out.bel⟩
end Go.Proofs.YtpblcnefihhhoaaDoor
