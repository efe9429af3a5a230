import Derived.Test.YtlijigolfggcfaaDoorHu
namespace Go.Proofs.YtlijigolfggcfaaDoor
open Go.RowKit
set_option linter.unusedVariables false
/-- what a round of the law looks at -/
def S14 (W : World) (g gE k : Nat) (a r : E4) (w : World) : Prop :=
  Below W.heap.size W w ∧ w.cell? ⟨g, k * 4, none⟩ = some (.int .u64 a.x0) ∧ w.cell? ⟨g, k * 4 + 1, none⟩ = some (.int .u64 a.x1) ∧ w.cell? ⟨g, k * 4 + 2, none⟩ = some (.int .u64 a.x2) ∧ w.cell? ⟨g, k * 4 + 3, none⟩ = some (.int .u64 a.x3) ∧ w.rangeAt gE (k * 26) (el r)
theorem S14.keep {W : World} {g gE k : Nat} {a r : E4} {w w' : World} (h : S14 W g gE k a r w) (hb : Below w.heap.size w w') : S14 W g gE k a r w' := by
  obtain ⟨h0, h3, h4, h5, h6, h7⟩ := h
  have q7 := World.block_lt_of_cell? w _ (h7 0 _ rfl)
  exact ⟨bl_trans h0 hb, cell_keep h3 hb, cell_keep h4 hb, cell_keep h5 hb, cell_keep h6 hb, range_keepO h7 hb q7⟩
def sl14o : Array Oper := #[{ dst := some 89, op := Op.move (Operand.tmp 15), type := 30, pos := "law.go:200", after := #[], guard := none },
  { dst := some 90, op := Op.move (Operand.tmp 17), type := 3, pos := "law.go:200", after := #[], guard := none },
  { dst := some 91, op := Op.indexAddr 30 (Operand.tmp 89) (Operand.tmp 90), type := 0, pos := "law.go:200", after := #[{ on := 0, ground := Ground.data }, { on := 1, ground := Ground.data }], guard := none },
  { dst := some 92, op := Op.load 29 (Operand.tmp 91), type := 29, pos := "law.go:200", after := #[{ on := 2, ground := Ground.data }], guard := none },
  { dst := some 93, op := Op.move (Operand.tmp 16), type := 45, pos := "law.go:200", after := #[], guard := none },
  { dst := some 94, op := Op.move (Operand.tmp 17), type := 3, pos := "law.go:200", after := #[], guard := none },
  { dst := some 95, op := Op.indexAddr 45 (Operand.tmp 93) (Operand.tmp 94), type := 0, pos := "law.go:200", after := #[{ on := 4, ground := Ground.data }, { on := 5, ground := Ground.data }], guard := none },
  { dst := some 96, op := Op.load 44 (Operand.tmp 95), type := 44, pos := "law.go:200", after := #[{ on := 6, ground := Ground.data }], guard := none },
  { dst := some 97, op := Op.call { callee := Callee.value (Operand.func 11), args := #[Operand.tmp 92, Operand.tmp 96], argTypes := #[29, 44] }, type := 4, pos := "law.go:200", after := #[{ on := 3, ground := Ground.data }, { on := 7, ground := Ground.data }], guard := none },
  { dst := some 98, op := Op.unOp UnOp.not 4 (Operand.tmp 97), type := 4, pos := "law.go:200", after := #[{ on := 8, ground := Ground.data }], guard := none }]
set_option maxRecDepth 100000 in
set_option maxHeartbeats 8000000 in
theorem sl14 (Q : Exit → Act → World → Prop) (g c1 gE cE n k : Nat) (a r : E4) (u0 u1 u2 u3 u4 u5 u6 u7 u8 u9 u10 u11 u12 u13 u14 u18 u19 u20 u21 u22 u23 u24 u25 u26 u27 u28 u29 u30 u31 u32 u33 u34 u35 u36 u37 u38 u39 u40 u41 u42 u43 u44 u45 u46 u47 u48 u49 u50 u51 u52 u53 u54 u55 u56 u57 u58 u59 u60 u61 u62 u63 u64 u65 u66 u67 u68 u69 u70 u71 u72 u73 u74 u75 u76 u77 u78 u79 u80 u81 u82 u83 u84 u85 u86 u87 u88 u89 u90 u91 u92 u93 u94 u95 u96 u97 u98 u99 u100 u101 u102 u103 u104 u105 u106 u107 u108 : Value) (W : World) (hk : k < n) (HS : S14 W g gE k a r W) (C : Hid (∀ w, Below W.heap.size W w → Calls Tryd.prog 11 #[.agg #[.int .u64 a.x0, .int .u64 a.x1, .int .u64 a.x2, .int .u64 a.x3], .agg (el r).toArray] w fun e w' => e = .returned (.bool true) ∧ Below w.heap.size w w'))
    (HQ : Hid (∀ wz, Below W.heap.size W wz → Q .normal ⟨#[u0, u1, u2, u3, u4, u5, u6, u7, u8, u9, u10, u11, u12, u13, u14, .slice (some ⟨g, 0, none⟩) n c1, .slice (some ⟨gE, 0, none⟩) n cE, .int .i64 (k : Int), u18, u19, u20, u21, u22, u23, u24, u25, u26, u27, u28, u29, u30, u31, u32, u33, u34, u35, u36, u37, u38, u39, u40, u41, u42, u43, u44, u45, u46, u47, u48, u49, u50, u51, u52, u53, u54, u55, u56, u57, u58, u59, u60, u61, u62, u63, u64, u65, u66, u67, u68, u69, u70, u71, u72, u73, u74, u75, u76, u77, u78, u79, u80, u81, u82, u83, u84, u85, u86, u87, u88, .slice (some ⟨g, 0, none⟩) n c1, .int .i64 (k : Int), .pointer (some ⟨g, k * 4, none⟩), .agg #[.int .u64 a.x0, .int .u64 a.x1, .int .u64 a.x2, .int .u64 a.x3], .slice (some ⟨gE, 0, none⟩) n cE, .int .i64 (k : Int), .pointer (some ⟨gE, k * 26, none⟩), .agg (el r).toArray, .bool true, .bool false, u99, u100, u101, u102, u103, u104, u105, u106, u107, u108], []⟩ wz)) : (Code.region 14 sl14o true).wp Tryd.prog Q ⟨#[u0, u1, u2, u3, u4, u5, u6, u7, u8, u9, u10, u11, u12, u13, u14, .slice (some ⟨g, 0, none⟩) n c1, .slice (some ⟨gE, 0, none⟩) n cE, .int .i64 (k : Int), u18, u19, u20, u21, u22, u23, u24, u25, u26, u27, u28, u29, u30, u31, u32, u33, u34, u35, u36, u37, u38, u39, u40, u41, u42, u43, u44, u45, u46, u47, u48, u49, u50, u51, u52, u53, u54, u55, u56, u57, u58, u59, u60, u61, u62, u63, u64, u65, u66, u67, u68, u69, u70, u71, u72, u73, u74, u75, u76, u77, u78, u79, u80, u81, u82, u83, u84, u85, u86, u87, u88, u89, u90, u91, u92, u93, u94, u95, u96, u97, u98, u99, u100, u101, u102, u103, u104, u105, u106, u107, u108], []⟩ W := by
  have k0 : (0 : Int) ≤ (k : Int) := by omega
  have k1 : (k : Int) < (n : Int) := by omega
  have UE : Hid (Tryd.prog.underlying 44 = _) := hidden Tryd.underlying44
  have IE := hidden (el_i r)
  refine wp_region_noPanic ?_
  refine wp_region_held_drew (S := (S14 W g gE k a r)) (by kernel_rfl) (HS.keep (drew_blW W)) (fun hHeld => ?_)
  change wpAnyH Tryd.prog .any sl14o _ _ 10 #[false, false, false, false, false, false, false, false, false, false] _ _
  clear HS
  refine wpAnyH_take (i := 0) (oi := { dst := some 89, op := Op.move (Operand.tmp 15), type := 30, pos := "law.go:200", after := #[], guard := none }) (v := .slice (some ⟨g, 0, none⟩) n c1) rfl (by kernel_rfl) (by kernel_rfl) (by kernel_rfl) (fun _ _ _ h => h) (Or.inl ⟨by rfl, fun w0 hSw => ?_⟩) hHeld ?_
  · (obtain ⟨s0, s3, s4, s5, s6, s7⟩ := hSw; clear s0 s7; go_simp)
  simp only [Act.put, List.setIfInBounds_toArray, List.set_cons_zero, List.set_cons_succ]
  refine wpAnyH_take (i := 1) (oi := { dst := some 90, op := Op.move (Operand.tmp 17), type := 3, pos := "law.go:200", after := #[], guard := none }) (v := .int .i64 (k : Int)) rfl (by kernel_rfl) (by kernel_rfl) (by kernel_rfl) (fun _ _ _ h => h) (Or.inl ⟨by rfl, fun w0 hSw => ?_⟩) hHeld ?_
  · (obtain ⟨s0, s3, s4, s5, s6, s7⟩ := hSw; clear s0 s7; go_simp)
  simp only [Act.put, List.setIfInBounds_toArray, List.set_cons_zero, List.set_cons_succ]
  refine wpAnyH_take (i := 2) (oi := { dst := some 91, op := Op.indexAddr 30 (Operand.tmp 89) (Operand.tmp 90), type := 0, pos := "law.go:200", after := #[{ on := 0, ground := Ground.data }, { on := 1, ground := Ground.data }], guard := none }) (v := .pointer (some ⟨g, k * 4, none⟩)) rfl (by kernel_rfl) (by kernel_rfl) (by kernel_rfl) (fun _ _ _ h => h) (Or.inl ⟨by rfl, fun w0 hSw => ?_⟩) hHeld ?_
  · (obtain ⟨s0, s3, s4, s5, s6, s7⟩ := hSw; clear s0 s7; go_simp)
  simp only [Act.put, List.setIfInBounds_toArray, List.set_cons_zero, List.set_cons_succ]
  refine wpAnyH_take (i := 3) (oi := { dst := some 92, op := Op.load 29 (Operand.tmp 91), type := 29, pos := "law.go:200", after := #[{ on := 2, ground := Ground.data }], guard := none }) (v := .agg #[.int .u64 a.x0, .int .u64 a.x1, .int .u64 a.x2, .int .u64 a.x3]) rfl (by kernel_rfl) (by kernel_rfl) (by kernel_rfl) (fun _ _ _ h => h) (Or.inl ⟨by rfl, fun w0 hSw => ?_⟩) hHeld ?_
  · (obtain ⟨s0, s3, s4, s5, s6, s7⟩ := hSw; clear s0 s7; go_simp)
  simp only [Act.put, List.setIfInBounds_toArray, List.set_cons_zero, List.set_cons_succ]
  refine wpAnyH_take (i := 4) (oi := { dst := some 93, op := Op.move (Operand.tmp 16), type := 45, pos := "law.go:200", after := #[], guard := none }) (v := .slice (some ⟨gE, 0, none⟩) n cE) rfl (by kernel_rfl) (by kernel_rfl) (by kernel_rfl) (fun _ _ _ h => h) (Or.inl ⟨by rfl, fun w0 hSw => ?_⟩) hHeld ?_
  · (obtain ⟨s0, s3, s4, s5, s6, s7⟩ := hSw; clear s0 s7; go_simp)
  simp only [Act.put, List.setIfInBounds_toArray, List.set_cons_zero, List.set_cons_succ]
  refine wpAnyH_take (i := 5) (oi := { dst := some 94, op := Op.move (Operand.tmp 17), type := 3, pos := "law.go:200", after := #[], guard := none }) (v := .int .i64 (k : Int)) rfl (by kernel_rfl) (by kernel_rfl) (by kernel_rfl) (fun _ _ _ h => h) (Or.inl ⟨by rfl, fun w0 hSw => ?_⟩) hHeld ?_
  · (obtain ⟨s0, s3, s4, s5, s6, s7⟩ := hSw; clear s0 s7; go_simp)
  simp only [Act.put, List.setIfInBounds_toArray, List.set_cons_zero, List.set_cons_succ]
  refine wpAnyH_take (i := 6) (oi := { dst := some 95, op := Op.indexAddr 45 (Operand.tmp 93) (Operand.tmp 94), type := 0, pos := "law.go:200", after := #[{ on := 4, ground := Ground.data }, { on := 5, ground := Ground.data }], guard := none }) (v := .pointer (some ⟨gE, k * 26, none⟩)) rfl (by kernel_rfl) (by kernel_rfl) (by kernel_rfl) (fun _ _ _ h => h) (Or.inl ⟨by rfl, fun w0 hSw => ?_⟩) hHeld ?_
  · (obtain ⟨s0, s3, s4, s5, s6, s7⟩ := hSw; clear s0 s7; go_simp)
  simp only [Act.put, List.setIfInBounds_toArray, List.set_cons_zero, List.set_cons_succ]
  refine wpAnyH_take (i := 7) (oi := { dst := some 96, op := Op.load 44 (Operand.tmp 95), type := 44, pos := "law.go:200", after := #[{ on := 6, ground := Ground.data }], guard := none }) (v := .agg (el r).toArray) rfl (by kernel_rfl) (by kernel_rfl) (by kernel_rfl) (fun _ _ _ h => h) (yieldsIf_load_mid (by rfl) 44 _ rfl gE (k * 26) rfl (el r) _ (fun w0 hSw => hSw.2.2.2.2.2) UE.out rfl IE.out) hHeld ?_
  simp only [Act.put, List.setIfInBounds_toArray, List.set_cons_zero, List.set_cons_succ]
  refine wpAnyH_ready (rs := [8]) (by kernel_rfl) (by simp) ?_
  refine AllReadyH.cons (o := { dst := some 97, op := Op.call { callee := Callee.value (Operand.func 11), args := #[Operand.tmp 92, Operand.tmp 96], argTypes := #[29, 44] }, type := 4, pos := "law.go:200", after := #[{ on := 3, ground := Ground.data }, { on := 7, ground := Ground.data }], guard := none }) rfl (fun K hK => ?_) AllReadyH.nil
  have CC := hidden (C.out _ hHeld.1)
  have HH := hidden hHeld
  clear hHeld
  go_simp
  refine (CC.out).mono ?_
  rintro e wa ⟨rfl, hb⟩
  have SN := hidden (HH.out.keep hb)
  clear hb CC HH
  go_wp2_with fail
  refine hK.out _ _ SN.out (fun hwa => ?_)
  clear hK K
  refine wpAnyH_take (i := 9) (oi := { dst := some 98, op := Op.unOp UnOp.not 4 (Operand.tmp 97), type := 4, pos := "law.go:200", after := #[{ on := 8, ground := Ground.data }], guard := none }) (v := .bool false) rfl (by kernel_rfl) (by kernel_rfl) (by kernel_rfl) (fun _ _ _ h => h) (Or.inl ⟨by rfl, fun w0 hSw => ?_⟩) hwa ?_
  · (obtain ⟨s0, s3, s4, s5, s6, s7⟩ := hSw; clear s0 s7; go_simp)
  simp only [Act.put, List.setIfInBounds_toArray, List.set_cons_zero, List.set_cons_succ]
  refine wpAnyH_done (by kernel_rfl) ?_ _
  exact HQ.out _ hwa.1
theorem s14_of {w : World} {n c1 cE k B1 B2 : Nat} {P1 PE : Option Addr} {f : Nat → E4} (hk : k < n) (o1 : w.ownsRow B1 29 4 (.slice P1 n c1) n (svs n f)) (o2 : w.ownsRow B2 44 26 (.slice PE n cE) n (evs n (lf f))) :
    ∃ g gE : Nat, P1 = some ⟨g, 0, none⟩ ∧ PE = some ⟨gE, 0, none⟩ ∧ S14 w g gE k (f k) (lf f k) w := by
  obtain ⟨g, cc, e1, _, _, _⟩ := own_shapeG o1 (by omega)
  obtain ⟨gE, cc2, e2, _, _, _⟩ := own_shapeG o2 (by omega)
  simp only [Value.slice.injEq, true_and] at e1 e2
  obtain ⟨rfl, rfl⟩ := e1
  obtain ⟨rfl, rfl⟩ := e2
  have r := own_rl o1
  have x0 := r.c0 k hk; have x1 := r.c1 k hk; have x2 := r.c2 k hk; have x3 := r.c3 k hk
  rw [Nat.zero_add] at x0 x1 x2 x3
  exact ⟨g, gE, rfl, rfl, Below.refl _ _, x0, x1, x2, x3, own_rangeE o2 hk⟩
/-- two lists as one -/
def fj (n : Nat) (f g : Nat → E4) (k : Nat) : E4 := if k < n then f k else g (k - n)
theorem svs_extX (n : Nat) {f g : Nat → E4} (h : ∀ k, k < n → f k = g k) : svs n f = svs n g := by
  induction n with
  | zero => rfl
  | succ n ih => rw [svs_succ, svs_succ, ih (fun k hk => h k (by omega)), h n (by omega)]
theorem svs_join (n : Nat) (f g : Nat → E4) : ∀ m, svs n f ++ svs m g = svs (n + m) (fj n f g)
  | 0 => by
    have h : svs n f = svs n (fj n f g) := svs_extX n fun k hk => by unfold fj; rw [if_pos hk]
    rw [Nat.add_zero, ← h]
    simp [svs]
  | m + 1 => by
    have ih := svs_join n f g m
    rw [svs_succ m g, ← Nat.add_assoc, svs_succ (n + m) (fj n f g), ← ih, List.append_assoc]
    unfold fj
    rw [if_neg (by omega), show n + m - n = m by omega]
theorem evs_ext (n : Nat) {f g : Nat → E4} (h : ∀ k, k < n → f k = g k) : evs n f = evs n g := by
  induction n with
  | zero => rfl
  | succ n ih => rw [evs_succ, evs_succ, ih (fun k hk => h k (by omega)), h n (by omega)]
theorem evs_join (n : Nat) (f g : Nat → E4) : ∀ m, evs n (lf f) ++ evs m (lf g) = evs (n + m) (lf (fj n f g))
  | 0 => by
    have h : evs n (lf f) = evs n (lf (fj n f g)) := evs_ext n fun k hk => by unfold lf fj; rw [if_pos hk]
    rw [Nat.add_zero, ← h]
    simp [evs]
  | m + 1 => by
    have ih := evs_join n f g m
    rw [evs_succ m, ← Nat.add_assoc, evs_succ (n + m), ← ih, List.append_assoc]
    unfold lf fj
    rw [if_neg (by omega), show n + m - n = m by omega]
theorem evs_3 (b f q : E4) : el (lst b.n) ++ el (lst f.n) ++ el (lst q.n) = evs 3 (lf (f3 b f q)) := by rfl
theorem rl_92 {w : World} {g L : Nat} {f : Nat → E4} (h : Rl w g 0 (L + 2) (g92 f L)) : Rl w g 0 L f := by
  have e : ∀ k, k < L → g92 f L k = f k := fun k hk => by unfold g92; rw [if_pos hk]
  exact ⟨fun k hk => by rw [← e k hk]; exact h.c0 k (by omega), fun k hk => by rw [← e k hk]; exact h.c1 k (by omega), fun k hk => by rw [← e k hk]; exact h.c2 k (by omega), fun k hk => by rw [← e k hk]; exact h.c3 k (by omega)⟩
end Go.Proofs.YtlijigolfggcfaaDoor
