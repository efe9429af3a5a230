import Derived.Test.YtbkiobfjabadeaaDoorYa
namespace Go.Proofs.YtbkiobfjabadeaaDoor
open Go.RowKit
set_option linter.unusedVariables false
set_option maxRecDepth 100000 in
set_option maxHeartbeats 8000000 in
theorem num_any (y : E4) (hy : y.ok) (w : World) : Calls Tryd.prog 16 #[y.v] w fun e w' => e = .returned (lst y.n).v ∧ Below w.heap.size w w' := by
  have LE := hidden (fun x => fix (rleast_any y x hy) (show lst y.n = lst y.n from rfl))
  obtain ⟨r, hr⟩ : ∃ r, lst y.n = r := ⟨_, rfl⟩
  rw [hr] at LE ⊢
  have M0 := (Mw.start w).new [.int .u64 y.x0, .int .u64 y.x1, .int .u64 y.x2, .int .u64 y.x3] 28
  have M1 := M0.new [.int .u64 0, .int .u64 0, .int .u64 0, .int .u64 0] 33
  rw [World.size_alloc] at M1
  have MM := hidden M1
  clear M0 M1 hr hy
  simp only [E4.v] at LE ⊢
  go_enter Tryd.func16, Tryd.ntmps16
  go_upto_region 1 with fail
  generalize (w.alloc (.cells #[.int .u64 y.x0, .int .u64 y.x1, .int .u64 y.x2, .int .u64 y.x3] 28)).alloc (.cells #[.int .u64 0, .int .u64 0, .int .u64 0, .int .u64 0] 33) = w1 at *
  have r0 := (MM.out.r (w.heap.size, [.int .u64 y.x0, .int .u64 y.x1, .int .u64 y.x2, .int .u64 y.x3]) (by simp)).1
  have cy0 := r0 0 _ rfl; have cy1 := r0 1 _ rfl; have cy2 := r0 2 _ rfl; have cy3 := r0 3 _ rfl
  simp only [Nat.zero_add] at cy0 cy1 cy2 cy3
  clear r0
  go_wp2_with (first | (go_at_call 28; refine (LE.out _).mono ?_; rintro e w6 ⟨rfl, hb⟩; have M6 := hidden (MM.out.keep hb); clear hb MM cy0 cy1 cy2 cy3; have TH := hidden (M6.out.ther [.int .u64 r.x0, .int .u64 r.x1, .int .u64 r.x2, .int .u64 r.x3] (c := w.heap.size + 1) (o := [.int .u64 0, .int .u64 0, .int .u64 0, .int .u64 0]) (by simp) rfl)) | (refine wpList_storeL rfl 33 _ _ rfl rfl (w.heap.size + 1) 0 [.int .u64 r.x0, .int .u64 r.x1, .int .u64 r.x2, .int .u64 r.x3] (by rfl) (by rfl) TH.out i4_r (one4 r) ?_; have MF := hidden (M6.out.set (M := []) [.int .u64 r.x0, .int .u64 r.x1, .int .u64 r.x2, .int .u64 r.x3] (c := w.heap.size + 1) (o := [.int .u64 0, .int .u64 0, .int .u64 0, .int .u64 0]) (by simp) rfl (by simp)); clear M6; generalize World.setCells _ (w.heap.size + 1) 0 [.int .u64 r.x0, .int .u64 r.x1, .int .u64 r.x2, .int .u64 r.x3] = wf at *))
  have LD := hidden (MF.out.var (c := w.heap.size + 1) (ds := [.int .u64 r.x0, .int .u64 r.x1, .int .u64 r.x2, .int .u64 r.x3]) (by simp) Tryd.underlying33 rfl i4_r)
  refine bodyPost_ret (v := .agg [.int .u64 r.x0, .int .u64 r.x1, .int .u64 r.x2, .int .u64 r.x3].toArray) (results_cellM Tryd.results16 _ _ _ _ _ (by rfl) LD.out) rfl ⟨rfl, MF.out.bel⟩
set_option maxRecDepth 100000 in
set_option maxHeartbeats 4000000 in
theorem vis_any (q : E4) (w : World) : Calls Tryd.prog 9 #[q.v, q.v] w fun e w' => e = .returned (.bool true) ∧ Below w.heap.size w w' := by
  have hqq := eq4s q
  have B0 := hidden (bl_alloc2 w (.cells #[.int .u64 q.x0, .int .u64 q.x1, .int .u64 q.x2, .int .u64 q.x3] 28) (.cells #[.int .u64 q.x0, .int .u64 q.x1, .int .u64 q.x2, .int .u64 q.x3] 33))
  unfold E4.v
  go_enter Tryd.func9, Tryd.ntmps9
  go_wp2_with fail
  refine bodyPost_ret (v := .bool true) (by simp [results, Tryd.results9, go_sem]) rfl ⟨rfl, B0.out⟩
def sn6o : Array Oper := #[{ dst := some 17, op := Op.move (Operand.tmp 0), type := 29, pos := "law.go:109", after := #[], guard := none },
  { dst := some 18, op := Op.move (Operand.tmp 5), type := 3, pos := "law.go:109", after := #[], guard := none },
  { dst := some 19, op := Op.indexAddr 29 (Operand.tmp 17) (Operand.tmp 18), type := 0, pos := "law.go:109", after := #[{ on := 0, ground := Ground.data }, { on := 1, ground := Ground.data }], guard := none },
  { dst := some 20, op := Op.load 28 (Operand.tmp 19), type := 28, pos := "law.go:109", after := #[{ on := 2, ground := Ground.data }], guard := none },
  { dst := some 21, op := Op.move (Operand.tmp 1), type := 34, pos := "law.go:109", after := #[], guard := none },
  { dst := some 22, op := Op.move (Operand.tmp 5), type := 3, pos := "law.go:109", after := #[], guard := none },
  { dst := some 23, op := Op.indexAddr 34 (Operand.tmp 21) (Operand.tmp 22), type := 0, pos := "law.go:109", after := #[{ on := 4, ground := Ground.data }, { on := 5, ground := Ground.data }], guard := none },
  { dst := some 24, op := Op.load 33 (Operand.tmp 23), type := 33, pos := "law.go:109", after := #[{ on := 6, ground := Ground.data }], guard := none },
  { dst := some 25, op := Op.call { callee := Callee.value (Operand.func 9), args := #[Operand.tmp 20, Operand.tmp 24], argTypes := #[28, 33] }, type := 4, pos := "law.go:109", after := #[{ on := 3, ground := Ground.data }, { on := 7, ground := Ground.data }], guard := none },
  { dst := some 26, op := Op.unOp UnOp.not 4 (Operand.tmp 25), type := 4, pos := "law.go:109", after := #[{ on := 8, ground := Ground.data }], guard := none }]
set_option maxRecDepth 100000 in
set_option maxHeartbeats 16000000 in
theorem sn6 (Q : Exit → Act → World → Prop) (b1 o1 b2 o2 n c1 c2 i : Nat) (u : E4) (u2 u3 u4 u6 u7 u8 u9 u10 u11 u12 u13 u14 u15 u16 u17 u18 u19 u20 u21 u22 u23 u24 u25 u26 : Value) (W : World)
    (ii0 : (0 : Int) ≤ (i : Int)) (ii1 : (i : Int) < (n : Int)) (x0 : W.cell? ⟨b1, o1 + i * 4, none⟩ = some (.int .u64 u.x0)) (x1 : W.cell? ⟨b1, o1 + i * 4 + 1, none⟩ = some (.int .u64 u.x1)) (x2 : W.cell? ⟨b1, o1 + i * 4 + 2, none⟩ = some (.int .u64 u.x2)) (x3 : W.cell? ⟨b1, o1 + i * 4 + 3, none⟩ = some (.int .u64 u.x3)) (y0 : W.cell? ⟨b2, o2 + i * 4, none⟩ = some (.int .u64 u.x0)) (y1 : W.cell? ⟨b2, o2 + i * 4 + 1, none⟩ = some (.int .u64 u.x1)) (y2 : W.cell? ⟨b2, o2 + i * 4 + 2, none⟩ = some (.int .u64 u.x2)) (y3 : W.cell? ⟨b2, o2 + i * 4 + 3, none⟩ = some (.int .u64 u.x3))
    (C8 : Hid (∀ x, Calls Tryd.prog 9 #[.agg #[.int .u64 u.x0, .int .u64 u.x1, .int .u64 u.x2, .int .u64 u.x3], .agg #[.int .u64 u.x0, .int .u64 u.x1, .int .u64 u.x2, .int .u64 u.x3]] x fun e w' => e = .returned (.bool true) ∧ Below x.heap.size x w'))
    (HQ : Hid (∀ wz, Below W.heap.size W wz → Q .normal ⟨#[.slice (some ⟨b1, o1, none⟩) n c1, .slice (some ⟨b2, o2, none⟩) n c2, u2, u3, u4, .int .i64 (i : Int), u6, u7, u8, u9, u10, u11, u12, u13, u14, u15, u16, .slice (some ⟨b1, o1, none⟩) n c1, .int .i64 (i : Int), .pointer (some ⟨b1, o1 + i * 4, none⟩), .agg #[.int .u64 u.x0, .int .u64 u.x1, .int .u64 u.x2, .int .u64 u.x3], .slice (some ⟨b2, o2, none⟩) n c2, .int .i64 (i : Int), .pointer (some ⟨b2, o2 + i * 4, none⟩), .agg #[.int .u64 u.x0, .int .u64 u.x1, .int .u64 u.x2, .int .u64 u.x3], .bool true, .bool false], []⟩ wz)) : (Code.region 6 sn6o true).wp Tryd.prog Q ⟨#[.slice (some ⟨b1, o1, none⟩) n c1, .slice (some ⟨b2, o2, none⟩) n c2, u2, u3, u4, .int .i64 (i : Int), u6, u7, u8, u9, u10, u11, u12, u13, u14, u15, u16, u17, u18, u19, u20, u21, u22, u23, u24, u25, u26], []⟩ W := by
  unfold sn6o
  refine wp_region_noPanic ?_
  refine wp_region_held_drew (S := fun x => Below W.heap.size W x) (by kernel_rfl) (bl_drew W) (fun hH0 => ?_)
  refine wpAnyH_take (i := 0) (oi := { dst := some 17, op := Op.move (Operand.tmp 0), type := 29, pos := "law.go:109", after := #[], guard := none }) (v := .slice (some ⟨b1, o1, none⟩) n c1) rfl (by kernel_rfl) (by kernel_rfl) (by kernel_rfl) (fun _ _ _ h => h) (Or.inl ⟨by rfl, fun w0 hSw => ?_⟩) hH0 ?_
  · (clear hSw; go_simp)
  simp only [Act.put, List.setIfInBounds_toArray, List.set_cons_zero, List.set_cons_succ]
  refine wpAnyH_take (i := 1) (oi := { dst := some 18, op := Op.move (Operand.tmp 5), type := 3, pos := "law.go:109", after := #[], guard := none }) (v := .int .i64 (i : Int)) rfl (by kernel_rfl) (by kernel_rfl) (by kernel_rfl) (fun _ _ _ h => h) (Or.inl ⟨by rfl, fun w0 hSw => ?_⟩) hH0 ?_
  · (clear hSw; go_simp)
  simp only [Act.put, List.setIfInBounds_toArray, List.set_cons_zero, List.set_cons_succ]
  refine wpAnyH_take (i := 2) (oi := { dst := some 19, op := Op.indexAddr 29 (Operand.tmp 17) (Operand.tmp 18), type := 0, pos := "law.go:109", after := #[{ on := 0, ground := Ground.data }, { on := 1, ground := Ground.data }], guard := none }) (v := .pointer (some ⟨b1, o1 + i * 4, none⟩)) rfl (by kernel_rfl) (by kernel_rfl) (by kernel_rfl) (fun _ _ _ h => h) (Or.inl ⟨by rfl, fun w0 hSw => ?_⟩) hH0 ?_
  · (clear hSw; go_simp)
  simp only [Act.put, List.setIfInBounds_toArray, List.set_cons_zero, List.set_cons_succ]
  refine wpAnyH_take (i := 3) (oi := { dst := some 20, op := Op.load 28 (Operand.tmp 19), type := 28, pos := "law.go:109", after := #[{ on := 2, ground := Ground.data }], guard := none }) (v := .agg #[.int .u64 u.x0, .int .u64 u.x1, .int .u64 u.x2, .int .u64 u.x3]) rfl (by kernel_rfl) (by kernel_rfl) (by kernel_rfl) (fun _ _ _ h => h) (Or.inl ⟨by rfl, fun w0 hSw => ?_⟩) hH0 ?_
  · (have hS : Below W.heap.size W w0 := hSw; have a0 := cell_keep x0 hS; have a1 := cell_keep x1 hS; have a2 := cell_keep x2 hS; have a3 := cell_keep x3 hS; clear hS hSw; go_simp)
  simp only [Act.put, List.setIfInBounds_toArray, List.set_cons_zero, List.set_cons_succ]
  refine wpAnyH_take (i := 4) (oi := { dst := some 21, op := Op.move (Operand.tmp 1), type := 34, pos := "law.go:109", after := #[], guard := none }) (v := .slice (some ⟨b2, o2, none⟩) n c2) rfl (by kernel_rfl) (by kernel_rfl) (by kernel_rfl) (fun _ _ _ h => h) (Or.inl ⟨by rfl, fun w0 hSw => ?_⟩) hH0 ?_
  · (clear hSw; go_simp)
  simp only [Act.put, List.setIfInBounds_toArray, List.set_cons_zero, List.set_cons_succ]
  refine wpAnyH_take (i := 5) (oi := { dst := some 22, op := Op.move (Operand.tmp 5), type := 3, pos := "law.go:109", after := #[], guard := none }) (v := .int .i64 (i : Int)) rfl (by kernel_rfl) (by kernel_rfl) (by kernel_rfl) (fun _ _ _ h => h) (Or.inl ⟨by rfl, fun w0 hSw => ?_⟩) hH0 ?_
  · (clear hSw; go_simp)
  simp only [Act.put, List.setIfInBounds_toArray, List.set_cons_zero, List.set_cons_succ]
  refine wpAnyH_take (i := 6) (oi := { dst := some 23, op := Op.indexAddr 34 (Operand.tmp 21) (Operand.tmp 22), type := 0, pos := "law.go:109", after := #[{ on := 4, ground := Ground.data }, { on := 5, ground := Ground.data }], guard := none }) (v := .pointer (some ⟨b2, o2 + i * 4, none⟩)) rfl (by kernel_rfl) (by kernel_rfl) (by kernel_rfl) (fun _ _ _ h => h) (Or.inl ⟨by rfl, fun w0 hSw => ?_⟩) hH0 ?_
  · (clear hSw; go_simp)
  simp only [Act.put, List.setIfInBounds_toArray, List.set_cons_zero, List.set_cons_succ]
  refine wpAnyH_take (i := 7) (oi := { dst := some 24, op := Op.load 33 (Operand.tmp 23), type := 33, pos := "law.go:109", after := #[{ on := 6, ground := Ground.data }], guard := none }) (v := .agg #[.int .u64 u.x0, .int .u64 u.x1, .int .u64 u.x2, .int .u64 u.x3]) rfl (by kernel_rfl) (by kernel_rfl) (by kernel_rfl) (fun _ _ _ h => h) (Or.inl ⟨by rfl, fun w0 hSw => ?_⟩) hH0 ?_
  · (have hS : Below W.heap.size W w0 := hSw; have a0 := cell_keep y0 hS; have a1 := cell_keep y1 hS; have a2 := cell_keep y2 hS; have a3 := cell_keep y3 hS; clear hS hSw; go_simp)
  simp only [Act.put, List.setIfInBounds_toArray, List.set_cons_zero, List.set_cons_succ]
  refine wpAnyH_ready (rs := [8]) (by kernel_rfl) (by simp) ?_
  refine AllReadyH.cons (o := { dst := some 25, op := Op.call { callee := Callee.value (Operand.func 9), args := #[Operand.tmp 20, Operand.tmp 24], argTypes := #[28, 33] }, type := 4, pos := "law.go:109", after := #[{ on := 3, ground := Ground.data }, { on := 7, ground := Ground.data }], guard := none }) rfl (fun K hK => ?_) AllReadyH.nil
  have HH := hidden hH0
  clear hH0
  go_simp
  refine (C8.out _).mono ?_
  rintro e wn1 ⟨rfl, hb⟩
  have SN := hidden (bl_trans HH.out hb)
  clear HH hb C8
  go_wp2_with fail
  refine hK.out _ _ SN.out (fun hH1 => ?_)
  clear hK K SN
  refine wpAnyH_take (i := 9) (oi := { dst := some 26, op := Op.unOp UnOp.not 4 (Operand.tmp 25), type := 4, pos := "law.go:109", after := #[{ on := 8, ground := Ground.data }], guard := none }) (v := .bool false) rfl (by kernel_rfl) (by kernel_rfl) (by kernel_rfl) (fun _ _ _ h => h) (Or.inl ⟨by rfl, fun w0 hSw => ?_⟩) hH1 ?_
  · (clear hSw; go_simp)
  simp only [Act.put, List.setIfInBounds_toArray, List.set_cons_zero, List.set_cons_succ]
  have HH := hidden hH1
  have FQ := hidden (HQ.out _ HH.out)
  refine wpAnyH_done (by kernel_rfl) ?_ _
  refine NoPanic.normal ?_
  exact FQ.out
set_option maxRecDepth 100000 in
set_option maxHeartbeats 4000000 in
theorem sameNums_in (b1 o1 b2 o2 n c1 c2 : Nat) (g : Nat → E4) (w : World) (hn : n ≤ 1024) (h1 : Rlo w b1 o1 n g) (h2 : Rlo w b2 o2 n g) :
    Calls Tryd.prog 10 #[.slice (some ⟨b1, o1, none⟩) n c1, .slice (some ⟨b2, o2, none⟩) n c2] w fun e w' => e = .returned (.bool true) ∧ Below w.heap.size w w' := by
  have H1 := hidden h1
  have H2 := hidden h2
  have HN := hidden hn
  have nn0 : (0 : Int) ≤ (n : Int) := by omega
  clear h1 h2 hn
  go_enter Tryd.func10, Tryd.ntmps10
  go_wp2_with fail
  go_loopw [5] (fun iv w' => ∃ i : Nat, i ≤ n ∧ iv = .int .i64 i ∧ Hid (Below w.heap.size w w')) (fun i _ => n - (intOf i).toNat)
  case atStart => exact ⟨0, by omega, rfl, hidden (Below.refl _ _)⟩
  case round =>
    obtain ⟨i, hi, rfl, hbl⟩ := hrel
    by_cases hin : i < n
    · obtain ⟨u, hu⟩ : ∃ u, g i = u := ⟨_, rfl⟩
      have ii0 : (0 : Int) ≤ (i : Int) := by omega
      have ii1 : (i : Int) < (n : Int) := by omega
      have w9 : IntKind.i64.wrap ((i : Int) + 1) = (i : Int) + 1 := IntWalk.i64_in _ (by have := HN.out; omega)
      have hqq := eq4s u
      have BD := hbl
      have q1 := H1.out.keep BD.out
      have q2 := H2.out.keep BD.out
      have y0 := q1.c0 i hin
      have y1 := q1.c1 i hin
      have y2 := q1.c2 i hin
      have y3 := q1.c3 i hin
      have x0 := q2.c0 i hin
      have x1 := q2.c1 i hin
      have x2 := q2.c2 i hin
      have x3 := q2.c3 i hin
      simp only [hu] at y0 y1 y2 y3 x0 x1 x2 x3
      clear q1 q2 hu hbl hi
      have CI := hidden (fun x => vis_any u x)
      simp only [E4.v] at CI
      go_upto_region 6 with fail
      refine sn6 _ b1 o1 b2 o2 n c1 c2 i u _ _ _ _ _ _ _ _ _ _ _ _ _ _ _ _ _ _ _ _ _ _ _ _ _ ii0 ii1 y0 y1 y2 y3 x0 x1 x2 x3 CI (hidden ?_)
      intro wz hbz
      have BZ := hidden (bl_trans BD.out hbz)
      clear hbz BD y0 y1 y2 y3 x0 x1 x2 x3 CI
      all_goals
        go_wp2_with fail
        go_roundw
        case rel => exact ⟨i + 1, by omega, by simp, BZ⟩
        case measure => simp [intOf]; omega
    · have hii : n = i := by omega
      subst hii
      clear hin hi
      go_wp2_with fail
      refine bodyPost_ret (v := .bool true) (by simp [results, Tryd.results10, go_sem]) rfl ⟨rfl, hbl.out⟩
set_option maxRecDepth 100000 in
set_option maxHeartbeats 8000000 in
theorem sameNums_zero (P1 P2 : Option Addr) (c1 c2 : Nat) (w : World) : Calls Tryd.prog 10 #[.slice P1 0 c1, .slice P2 0 c2] w fun e w' => e = .returned (.bool true) ∧ Below w.heap.size w w' := by
  go_enter Tryd.func10, Tryd.ntmps10
  go_wp2_with fail
  refine wp_loop_rounds 1 ?_
  rw [rounds_succ]
  go_wp2_with fail
  refine bodyPost_ret (v := .bool true) (by simp [results, Tryd.results10, go_sem]) rfl ⟨rfl, Below.refl _ _⟩
theorem sameNums_any (V1 V2 : Value) (n : Nat) (g : Nat → E4) (w : World) (hn : n ≤ 1024) (h1 : In w V1 n g) (h2 : In w V2 n g) :
    Calls Tryd.prog 10 #[V1, V2] w fun e w' => e = .returned (.bool true) ∧ Below w.heap.size w w' := by
  obtain ⟨P1, c1, rfl, -, -, r1⟩ := h1
  obtain ⟨P2, c2, rfl, -, -, r2⟩ := h2
  by_cases h0 : n = 0
  · subst h0
    exact sameNums_zero P1 P2 c1 c2 w
  · obtain ⟨b1, o1, rfl, k1⟩ := r1 (by omega)
    obtain ⟨b2, o2, rfl, k2⟩ := r2 (by omega)
    exact sameNums_in b1 o1 b2 o2 n c1 c2 g w hn k1 k2
set_option maxRecDepth 100000 in
set_option maxHeartbeats 8000000 in
theorem nums_any (V : Value) (n : Nat) (g : Nat → E4) (w : World) (hn : n ≤ 4398046510976) (hV : In w V n g) (hg : ∀ k, k < n → (g k).ok) :
    Calls Tryd.prog 17 #[V] w fun e w' => ∃ v, e = .returned v ∧ w'.ownsRow w.heap.size 33 4 v n (svs n (fun k => lst (g k).n)) ∧ Below w.heap.size w w' := by
  obtain ⟨P, c, rfl, -, -, hr⟩ := hV
  have HS := hidden hr
  have HM := hidden hn
  have HG := hidden hg
  have nn0 : (0 : Int) ≤ (n : Int) := by omega
  obtain ⟨i0, hi, hz0, hz1, hz2⟩ := info_parts info33
  have HI := hidden hi
  have HZ0 := hidden hz0
  have HZ1 := hidden hz1
  have HZ2 := hidden hz2
  have HU : Hid (Tryd.prog.underlying 34 = some (.slice 33)) := hidden (by kernel_rfl)
  clear hi hz0 hz1 hz2 hr hn hg
  go_enter Tryd.func17, Tryd.ntmps17
  go_wp2_with fail
  go_loopw [3, 4] (fun ov iv' w' => ∃ k : Nat, k ≤ n ∧ iv' = .int .i64 k ∧ Hid (w'.ownsRow w.heap.size 33 4 ov k (svs k (fun k => lst (g k).n))) ∧ Hid (Below w.heap.size w w')) (fun _ i _ => n - (intOf i).toNat)
  case atStart => exact ⟨0, by omega, rfl, hidden (World.ownsRow_nil _ _ _ _), hidden (Below.refl _ _)⟩
  case round =>
    obtain ⟨k, hk, rfl, hO, hB⟩ := hrel
    by_cases hkn : k < n
    · have k0 : (0 : Int) ≤ (k : Int) := by omega
      have k1 : (k : Int) < (n : Int) := by omega
      have w9 : IntKind.i64.wrap ((k : Int) + 1) = (k : Int) + 1 := IntWalk.i64_in _ (by have := HM.out; omega)
      obtain ⟨sb, so, rfl, h2⟩ := HS.out (by omega)
      have rx := h2.keep hB.out
      have x0 := rx.c0 k hkn
      have x1 := rx.c1 k hkn
      have x2 := rx.c2 k hkn
      have x3 := rx.c3 k hkn
      have zok := HG.out k hkn
      obtain ⟨z, hz⟩ : ∃ z, g k = z := ⟨_, rfl⟩
      rw [hz] at x0 x1 x2 x3 zok
      obtain ⟨X, hX⟩ : ∃ X, lst z.n = X := ⟨_, rfl⟩
      have LE := hidden (fun w => num_any z zok w)
      rw [hX] at LE
      have SV : Hid (svs (k + 1) (fun k => lst (g k).n) = svs k (fun k => lst (g k).n) ++ [.int .u64 X.x0, .int .u64 X.x1, .int .u64 X.x2, .int .u64 X.x3]) := hidden (by rw [svs_succ]; simp only [hz, hX])
      have N9 : Hid (k < n ∧ n ≤ 4398046510976) := hidden ⟨hkn, HM.out⟩
      simp only [E4.v] at LE
      clear rx h2 hz hX zok
      go_wp2_with fail
      refine (LE.out _).mono ?_
      rintro e w3 ⟨rfl, hb3⟩
      have O2 := hidden (own_keepX hO.out hb3)
      have B2 := hidden (bl_trans hB.out hb3)
      have bs := B2.out.size
      clear hb3 hO hB LE x0 x1 x2 x3
      go_wp2_with (first | (at_builtin; refine wpList_append_moreS _ rfl _ _ 34 rfl w.heap.size 33 i0 (.agg #[.int .u64 0, .int .u64 0, .int .u64 0, .int .u64 0]) 32 HU.out HI.out HZ0.out HZ1.out HZ2.out rfl _ _ _ rfl (Or.inl (O2.out.alloc _)) ⟨w3.heap.size, 0, none⟩ [.int .u64 X.x0, .int .u64 X.x1, .int .u64 X.x2, .int .u64 X.x3] rfl rfl (cells_new w3 [.int .u64 X.x0, .int .u64 X.x1, .int .u64 X.x2, .int .u64 X.x3] 33) (by simp [Value.oneCell']) (by have := N9.out; unfold maxLen; omega) (by have := N9.out; omega) (by simp; omega) ?_; intro v' w4 hown hb4; have HO := hidden hown; have HB4 := hidden (below_transI (bl_trans B2.out (bl_alloc w3 _)) hb4); clear hown hb4))
      go_roundw
      case rel => exact ⟨k + 1, by omega, by go_num, hidden (by rw [SV.out]; exact HO.out), HB4⟩
      case measure => simp [intOf]; omega
    · have hkn : n = k := by omega
      subst hkn
      have lq : ¬ (n : Int) < (n : Int) := by omega
      go_wp2_with fail
      refine bodyPost_ret (v := u3) (by simp [results, Tryd.results17, go_sem]) rfl ?_
      first | exact ⟨u3, rfl, hO.out, hB.out⟩ | exact ⟨hO.out, hB.out⟩
end Go.Proofs.YtbkiobfjabadeaaDoor
