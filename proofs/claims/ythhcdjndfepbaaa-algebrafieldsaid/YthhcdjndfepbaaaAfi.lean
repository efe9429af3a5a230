import Derived.Test.YthhcdjndfepbaaaAsy
namespace Go.Proofs.Ythhcdjndfepbaaa
open Go.RowKit
/-- what Interpolate answers over the numbers modulo 7 -/
structure IntA (w w' : World) (n : Nat) (X Y : Nat → Int) (v : Value) (er : Int) : Prop where
  bel : Below w.heap.size w w'
  res : (er = 60 ∧ (∃ a b, b < a ∧ a < n ∧ X a % 7 = X b % 7) ∧ ∃ (P : Option Addr) (c : Nat), v = .slice P 0 c) ∨ (er = 0 ∧ (¬ ∃ a b, b < a ∧ a < n ∧ X a % 7 = X b % 7) ∧ ∃ (P : Option Addr) (c : Nat) (cs : Nat → Int), n ≤ c ∧ v = .slice P n c ∧ Il w' P n cs ∧ ∀ k, k < n → Mx.C 7 (Mx.ev n cs (X k)) (Y k))
def InterpC : Prop := ∀ (P Q : Option Addr) (n cP cQ : Nat) (X Y : Nat → Int) (w : World), n ≤ 40 → n ≤ cP → n ≤ cQ → Il w P n X → Il w Q n Y →
  Calls Try.prog 12 #[.slice P n cP, .slice Q n cQ] w fun e w' => ∃ (v : Value) (er : Int), e = .returned (.tuple #[v, .int .i64 er]) ∧ IntA w w' n X Y v er
/-- two alike among the places that were looked at -/
def tw (X : Nat → Int) (i j : Nat) : Prop := ∃ a b, b < a ∧ (a < i ∨ (a = i ∧ b < j)) ∧ X a % 7 = X b % 7
theorem tw_step {X : Nat → Int} {i j : Nat} {z : Bool} (hj : j < i) (h : z = true ↔ tw X i j) : ((z || (X i % 7 == X j % 7)) = true) ↔ tw X i (j + 1) := by
  rw [Bool.or_eq_true, h, beq_iff_eq]
  constructor
  · rintro (⟨a, b, h1, h2, h3⟩ | h1)
    · exact ⟨a, b, h1, by omega, h3⟩
    · exact ⟨i, j, hj, by omega, h1⟩
  · rintro ⟨a, b, h1, h2, h3⟩
    by_cases hb : a = i ∧ b = j
    · obtain ⟨rfl, rfl⟩ := hb
      exact Or.inr h3
    · exact Or.inl ⟨a, b, h1, by omega, h3⟩
theorem tw_next {X : Nat → Int} {i : Nat} : tw X i i ↔ tw X (i + 1) 0 := by
  constructor
  · rintro ⟨a, b, h1, h2, h3⟩
    exact ⟨a, b, h1, by omega, h3⟩
  · rintro ⟨a, b, h1, h2, h3⟩
    exact ⟨a, b, h1, by omega, h3⟩
theorem tw_all {X : Nat → Int} {n : Nat} : tw X n 0 ↔ ∃ a b, b < a ∧ a < n ∧ X a % 7 = X b % 7 := by
  constructor
  · rintro ⟨a, b, h1, h2, h3⟩
    exact ⟨a, b, h1, by omega, h3⟩
  · rintro ⟨a, b, h1, h2, h3⟩
    exact ⟨a, b, h1, by omega, h3⟩
theorem Il.at {w : World} {P : Option Addr} {n : Nat} {f : Nat → Int} (h : Il w P n f) (hn : 0 < n) : ∃ sb so, P = some ⟨sb, so, none⟩ ∧ ∀ w', Below w.heap.size w w' → ∀ k, k < n → w'.cell? ⟨sb, so + k, none⟩ = some (.int .i64 (f k)) := by
  obtain ⟨sb, so, h1, h2⟩ := h
  exact ⟨sb, so, h1 hn, fun w' hb k hk => cell_keep (h2 k hk) hb⟩
set_option maxRecDepth 100000 in
set_option maxHeartbeats 16000000 in
theorem field_any (NC : InterpC) (SC : SolveC) (EC : EvalC) (P1 P2 : Option Addr) (L1 c1 L2 c2 : Nat) (f1 f2 : Nat → Int) (w : World) (h1 : Il w P1 L1 f1) (h2 : Il w P2 L2 f2) :
    Calls Try.prog 4 #[.slice P1 L1 c1, .slice P2 L2 c2] w fun e w' => e = .returned (.bool true) ∧ Below w.heap.size w w' := by
  have HNC := hidden NC
  have HEC := hidden EC
  have AL := hidden (fun w => alive_any SC EC w)
  have S1 := hidden (fun w' (hb : Below w.heap.size w w') => sevens_any P1 L1 c1 f1 w' (h1.keep hb))
  have S2 := hidden (fun w' (hb : Below w.heap.size w w') => sevens_any P2 L2 c2 f2 w' (h2.keep hb))
  obtain ⟨i0, hi, hz0, hz1, hz2⟩ := info_parts seveninfo
  have HI := hidden hi
  have HZ0 := hidden hz0
  have HZ1 := hidden hz1
  have HZ2 := hidden hz2
  have HU : Hid (Try.prog.underlying 24 = some (.slice 27)) := hidden (by kernel_rfl)
  clear SC NC EC h1 h2 hi hz0 hz1 hz2
  go_enter Try.func4, Try.ntmps4
  go_upto_region 1 with fail
  go_cut [17] (fun v wx => v = .bool false ∧ Below w.heap.size w wx)
  case first =>
    as_aux_lemma =>
      go_wp2_with fail
      refine (AL.out _).mono ?_
      rintro e w1 ⟨rfl, hb⟩
      have B1 := hidden hb
      clear hb
      go_wp2_with fail
      go_meet
      exact ⟨rfl, B1.out⟩
  case rest =>
  obtain ⟨rfl, hb⟩ := hcut
  have B0 := hidden hb
  clear hb AL
  generalize wc = wa at *
  go_upto_region 3 with fail
  go_cut [5] (fun v wx => ∃ (n : Nat) (P : Option Addr) (c : Nat), n ≤ 40 ∧ n ≤ c ∧ v = .slice P n c ∧ Il wx P n f1 ∧ Below w.heap.size w wx)
  case first =>
    as_aux_lemma =>
      go_wp2_with fail
      refine (S1.out _ B0.out).mono ?_
      rintro e w1 ⟨v, rfl, how, hb⟩
      obtain ⟨P, c, g, rfl, hqc, -, -, il⟩ := own_list how
      have IL := hidden il
      have QC := hidden hqc
      have B1 := hidden (bl_trans B0.out hb)
      clear how hb il hqc
      go_wp2_with fail
      go_meet
      exact ⟨_, P, c, by omega, QC.out, rfl, IL.out, B1.out⟩
  case rest =>
  obtain ⟨n, P, c, hn40, hnc, rfl, il, hb⟩ := hcut
  have N40 := hidden hn40
  have NCC := hidden hnc
  have ILX := hidden il
  have B1 := hidden hb
  have n0 : (0 : Int) ≤ (n : Int) := by omega
  clear hn40 hnc il hb S1 B0
  generalize wc = w1 at *
  generalize f1 = X at *
  go_upto_region 4 with fail
  go_cut [6] (fun v wx => ∃ (q : Nat) (Q : Option Addr) (d : Nat) (Y : Nat → Int), q ≤ 40 ∧ v = .slice Q q d ∧ wx.ownsRow w1.heap.size 27 1 (.slice Q q d) q (svl Y q) ∧ Below w1.heap.size w1 wx)
  case first =>
    as_aux_lemma =>
      go_wp2_with fail
      refine (S2.out _ B1.out).mono ?_
      rintro e w2 ⟨v, rfl, how, hb⟩
      obtain ⟨P', c', g', rfl, -⟩ := own_list how
      have HO := hidden how
      have B2 := hidden hb
      clear how hb
      go_wp2_with fail
      go_meet
      exact ⟨_, P', c', f2, by omega, rfl, HO.out, B2.out⟩
  case rest =>
  obtain ⟨q1, Q1, d1, F1, hq1, rfl, how, hb⟩ := hcut
  have HO := hidden how
  have BB := hidden hb
  have HQ1 := hidden hq1
  clear how hb hq1 S2
  generalize wc = w2 at *
  go_wp2_with fail
  go_loopw [6] (fun v w' => ∃ (q : Nat) (Q : Option Addr) (d : Nat) (Y : Nat → Int), q ≤ 40 ∧ v = .slice Q q d ∧ Hid (w'.ownsRow w1.heap.size 27 1 (.slice Q q d) q (svl Y q)) ∧ Hid (Below w1.heap.size w1 w')) (fun v _ => 40 - slen v)
  case atStart => exact ⟨q1, Q1, d1, F1, HQ1.out, rfl, HO, BB⟩
  case round =>
    clear HO BB HQ1
    obtain ⟨q1, Q1, d1, F1, hq1, rfl, how, hbl⟩ := hrel
    have q0' : (0 : Int) ≤ (q1 : Int) := by omega
    by_cases hqk : q1 < n
    · have ii1 : (q1 : Int) < (n : Int) := by omega
      have n40 := N40.out
      have hsz := hbl.out.size
      have a1 := hidden (how.out.alloc (.cells #[.int .i64 (q1 : Int)] 27))
      have a2 := hidden (cells_new wr [.int .i64 (q1 : Int)] 27)
      have a3 : Hid (∀ u ∈ [Value.int .i64 (q1 : Int)], u.oneCell' = true) := hidden (by simp [Value.oneCell'])
      have a4 : Hid (q1 + 1 ≤ maxLen) := hidden (by unfold maxLen; omega)
      have a5 : Hid ((q1 + 1) * 8 ≤ 140737488355328) := hidden (by omega)
      have a6 : Hid (w1.heap.size ≤ (wr.alloc (.cells #[.int .i64 (q1 : Int)] 27)).heap.size) := hidden (by simp; omega)
      have b6 := hidden (bl_trans hbl.out (bl_alloc wr (.cells #[.int .i64 (q1 : Int)] 27)))
      clear hsz how hbl n40
      go_wp2_with (first | (at_builtin; refine wpList_append_own_at _ rfl _ _ 24 rfl w1.heap.size 27 i0 (.agg #[.int .i64 0]) 1 8 HU.out HI.out HZ0.out HZ1.out HZ2.out rfl (by decide) _ _ _ rfl a1.out ⟨wr.heap.size, 0, none⟩ 1 1 [.int .i64 (q1 : Int)] rfl rfl a2.out a3.out a4.out a5.out a6.out ?_; intro v' w3 hown hgr hnil hat; have HB := hidden (below_trans b6.out (below_grown hgr a6.out (fun k hk => (a1.out.lt k hk).1))); rw [← svl_put] at hown; obtain ⟨P', c', g', rfl, -⟩ := own_list hown; have HO := hidden hown; clear hown hgr hnil hat))
      go_roundw
      case rel => exact ⟨q1 + 1, P', c', _, by have := N40.out; omega, rfl, HO, HB⟩
      case measure => simp only [slen]; have := N40.out; omega
    · have lq : ¬ (q1 : Int) < (n : Int) := by omega
      obtain ⟨Q0, e0, g1, ee, hqc, _, hnil, il⟩ := own_list how.out
      obtain ⟨rfl, _, rfl⟩ := Value.slice.inj ee
      have ILY := hidden (il.less (show n ≤ q1 by omega))
      have ND : Hid (n ≤ d1) := hidden (by omega)
      have BB := hidden hbl.out
      have b1 : (n : Int) ≤ (d1 : Int) := by omega
      have b2 : ((n : Int) - 0).toNat = n := by omega
      have b3 : ((d1 : Int) - 0).toNat = d1 := by omega
      have b4 : (n : Int).toNat = n := by omega
      have b5 : (d1 : Int).toNat = d1 := by omega
      have HNI := hidden hnil
      clear hq1 hqk ee hqc hnil il how hbl
      go_upto_region 7 with fail
      clear lq
      generalize wr = w3 at *
      generalize F1 = Y at *
      go_cut [6] (fun v wx => v = .slice Q1 n d1 ∧ wx = w3)
      case first =>
        as_aux_lemma =>
          cases Q1 with
          | none =>
            obtain rfl := HNI.out rfl
            obtain rfl : n = 0 := by have := ND.out; omega
            go_wp2_with fail
            go_meet
            exact ⟨rfl, rfl⟩
          | some ad =>
            go_wp2_with fail
            go_meet
            exact ⟨rfl, rfl⟩
      case rest =>
      obtain ⟨rfl, rfl⟩ := hcut
      clear HNI b1 b2 b3 b4 b5
      have BW := hidden (bl_trans B1.out BB.out)
      have ILX3 := hidden (ILX.out.keep BB.out)
      generalize wc = w4 at *
      clear ILX B1 BB
      go_upto_region 9 with fail
      go_wp2_with fail
      go_loopw [7, 8] (fun zv iv w' => ∃ (i : Nat) (z : Bool), i ≤ n ∧ iv = .int .i64 i ∧ zv = .bool z ∧ Hid (z = true ↔ tw X i 0) ∧ Hid (Below w4.heap.size w4 w')) (fun _ i _ => n - (intOf i).toNat)
      case atStart => exact ⟨0, false, by omega, rfl, rfl, hidden ⟨fun h => (by cases h), fun ⟨a, b, h1, h2, _⟩ => by omega⟩, hidden (Below.refl _ _)⟩
      case round =>
        obtain ⟨i, z, hi, rfl, rfl, hz, hbl⟩ := hrel
        by_cases hin : i < n
        · have i1' : (i : Int) < (n : Int) := by omega
          have i0' : (0 : Int) ≤ (i : Int) := by omega
          have w9 : IntKind.i64.wrap ((i : Int) + 1) = (i : Int) + 1 := IntWalk.i64_in _ (by have := N40.out; omega)
          obtain ⟨sb, so, hP, hcl⟩ := ILX3.out.at (by omega)
          subst hP
          have HCL := hidden hcl
          clear hcl
          go_upto_region 12 with fail
          go_wp2_with fail
          go_loopw [7, 9] (fun zv jv w' => ∃ (j : Nat) (z : Bool), j ≤ i ∧ jv = .int .i64 j ∧ zv = .bool z ∧ Hid (z = true ↔ tw X i j) ∧ Hid (Below w4.heap.size w4 w')) (fun _ j _ => i - (intOf j).toNat)
          case atStart => exact ⟨0, z, by omega, rfl, rfl, hz, hbl⟩
          case round =>
            clear hz hbl
            obtain ⟨j, z, hj, rfl, rfl, hz, hbl⟩ := hrel
            by_cases hjn : j < i
            · have j1' : (j : Int) < (i : Int) := by omega
              have j2' : (j : Int) < (n : Int) := by omega
              have j0' : (0 : Int) ≤ (j : Int) := by omega
              have w8 : IntKind.i64.wrap ((j : Int) + 1) = (j : Int) + 1 := IntWalk.i64_in _ (by have := N40.out; omega)
              have RI := hidden (fun w => r_any (X i) w)
              have RJ := hidden (fun w => r_any (X j) w)
              unfold sv at RI RJ
              have HT := hidden (tw_step hjn hz.out)
              have b9 := bl_trans hbl.out (bl_drew wr)
              have CI := HCL.out _ b9 i hin
              have CJ := HCL.out _ b9 j (by omega)
              obtain ⟨x, hx⟩ : ∃ x, X i % 7 = x := ⟨_, rfl⟩
              obtain ⟨y, hy⟩ : ∃ y, X j % 7 = y := ⟨_, rfl⟩
              rw [hx] at RI HT
              rw [hy] at RJ HT
              obtain ⟨xi, hxi⟩ : ∃ t, X i = t := ⟨_, rfl⟩
              obtain ⟨xj, hxj⟩ : ∃ t, X j = t := ⟨_, rfl⟩
              rw [hxi] at RI CI
              rw [hxj] at RJ CJ
              have KS : Hid (∀ w', Below wr.drew.heap.size wr.drew w' → (fun w' => Below wr.drew.heap.size wr.drew w' ∧ w'.cell? ⟨sb, so + i, none⟩ = some (.int .i64 xi) ∧ w'.cell? ⟨sb, so + j, none⟩ = some (.int .i64 xj)) w') := hidden (fun w' h => ⟨h, cell_keep CI h, cell_keep CJ h⟩)
              have K0 := hidden (KS.out _ (Below.refl _ _))
              have B9 := hidden b9
              clear hx hy hxi hxj CI CJ b9 hz hbl
              cases z with
              | true =>
                clear RI RJ K0 KS
                go_upto_region 15 with fail
                refine wp_region_noPanic ?_
                refine wp_region_held_drew (S := fun w' => Below w4.heap.size w4 w') (by kernel_rfl) B9.out (fun hHeld => ?_)
                refine wpAnyH_take (i := 0) (oi := { dst := some 48, op := Op.move (Operand.tmp 7), type := 4, pos := "outright.go:120", after := #[], guard := none }) (v := ?_) rfl (by kernel_rfl) (by kernel_rfl) (by kernel_rfl) (fun _ _ _ h => h) (Or.inl ⟨by rfl, ?_⟩) hHeld ?_
                rotate_left 1
                · (intro w0 hSw; (try dsimp only at hSw); go_simp; try with_reducible rfl)
                simp only [Act.put, List.setIfInBounds_toArray, List.set_cons_zero, List.set_cons_succ]
                refine wpAnyH_take (i := 1) (oi := { dst := some 49, op := Op.move (Operand.tmp 48), type := 4, pos := "outright.go:120", after := #[{ on := 0, ground := Ground.data }], guard := none }) (v := ?_) rfl (by kernel_rfl) (by kernel_rfl) (by kernel_rfl) (fun _ _ _ h => h) (Or.inl ⟨by rfl, ?_⟩) hHeld ?_
                rotate_left 1
                · (intro w0 hSw; (try dsimp only at hSw); go_simp; try with_reducible rfl)
                simp only [Act.put, List.setIfInBounds_toArray, List.set_cons_zero, List.set_cons_succ]
                refine wpAnyH_take (i := 2) (oi := { dst := some 50, op := Op.move (Operand.tmp 5), type := 24, pos := "outright.go:120", after := #[{ on := 1, ground := Ground.guard }], guard := some (1, false) }) (v := undef) rfl (by kernel_rfl) (by kernel_rfl) (by kernel_rfl) (fun _ _ _ h => h) (Or.inr ⟨by rfl, rfl⟩) hHeld ?_
                simp only [Act.put, List.setIfInBounds_toArray, List.set_cons_zero, List.set_cons_succ]
                refine wpAnyH_take (i := 3) (oi := { dst := some 51, op := Op.move (Operand.tmp 8), type := 3, pos := "outright.go:120", after := #[{ on := 1, ground := Ground.guard }], guard := some (1, false) }) (v := undef) rfl (by kernel_rfl) (by kernel_rfl) (by kernel_rfl) (fun _ _ _ h => h) (Or.inr ⟨by rfl, rfl⟩) hHeld ?_
                simp only [Act.put, List.setIfInBounds_toArray, List.set_cons_zero, List.set_cons_succ]
                refine wpAnyH_take (i := 4) (oi := { dst := some 52, op := Op.indexAddr 24 (Operand.tmp 50) (Operand.tmp 51), type := 0, pos := "outright.go:120", after := #[{ on := 2, ground := Ground.data }, { on := 3, ground := Ground.data }, { on := 1, ground := Ground.guard }], guard := some (1, false) }) (v := undef) rfl (by kernel_rfl) (by kernel_rfl) (by kernel_rfl) (fun _ _ _ h => h) (Or.inr ⟨by rfl, rfl⟩) hHeld ?_
                simp only [Act.put, List.setIfInBounds_toArray, List.set_cons_zero, List.set_cons_succ]
                refine wpAnyH_take (i := 5) (oi := { dst := some 53, op := Op.load 27 (Operand.tmp 52), type := 27, pos := "outright.go:120", after := #[{ on := 4, ground := Ground.data }, { on := 1, ground := Ground.guard }], guard := some (1, false) }) (v := undef) rfl (by kernel_rfl) (by kernel_rfl) (by kernel_rfl) (fun _ _ _ h => h) (Or.inr ⟨by rfl, rfl⟩) hHeld ?_
                simp only [Act.put, List.setIfInBounds_toArray, List.set_cons_zero, List.set_cons_succ]
                refine wpAnyH_take (i := 7) (oi := { dst := some 55, op := Op.move (Operand.tmp 5), type := 24, pos := "outright.go:120", after := #[{ on := 1, ground := Ground.guard }], guard := some (1, false) }) (v := undef) rfl (by kernel_rfl) (by kernel_rfl) (by kernel_rfl) (fun _ _ _ h => h) (Or.inr ⟨by rfl, rfl⟩) hHeld ?_
                simp only [Act.put, List.setIfInBounds_toArray, List.set_cons_zero, List.set_cons_succ]
                refine wpAnyH_take (i := 8) (oi := { dst := some 56, op := Op.move (Operand.tmp 9), type := 3, pos := "outright.go:120", after := #[{ on := 1, ground := Ground.guard }], guard := some (1, false) }) (v := undef) rfl (by kernel_rfl) (by kernel_rfl) (by kernel_rfl) (fun _ _ _ h => h) (Or.inr ⟨by rfl, rfl⟩) hHeld ?_
                simp only [Act.put, List.setIfInBounds_toArray, List.set_cons_zero, List.set_cons_succ]
                refine wpAnyH_take (i := 9) (oi := { dst := some 57, op := Op.indexAddr 24 (Operand.tmp 55) (Operand.tmp 56), type := 0, pos := "outright.go:120", after := #[{ on := 7, ground := Ground.data }, { on := 8, ground := Ground.data }, { on := 1, ground := Ground.guard }], guard := some (1, false) }) (v := undef) rfl (by kernel_rfl) (by kernel_rfl) (by kernel_rfl) (fun _ _ _ h => h) (Or.inr ⟨by rfl, rfl⟩) hHeld ?_
                simp only [Act.put, List.setIfInBounds_toArray, List.set_cons_zero, List.set_cons_succ]
                refine wpAnyH_take (i := 10) (oi := { dst := some 58, op := Op.load 27 (Operand.tmp 57), type := 27, pos := "outright.go:120", after := #[{ on := 9, ground := Ground.data }, { on := 1, ground := Ground.guard }], guard := some (1, false) }) (v := undef) rfl (by kernel_rfl) (by kernel_rfl) (by kernel_rfl) (fun _ _ _ h => h) (Or.inr ⟨by rfl, rfl⟩) hHeld ?_
                simp only [Act.put, List.setIfInBounds_toArray, List.set_cons_zero, List.set_cons_succ]
                refine wpAnyH_ready (rs := [6]) (by kernel_rfl) (by simp) ?_
                refine AllReadyH.cons (o := { dst := some 54, op := Op.call { callee := Callee.value (Operand.func 10), args := #[Operand.tmp 53], argTypes := #[27] }, type := 3, pos := "outright.go:120", after := #[{ on := 5, ground := Ground.data }, { on := 1, ground := Ground.chain }, { on := 1, ground := Ground.guard }], guard := some (1, false) }) rfl (fun K hK => ?_) AllReadyH.nil
                refine Eq.mpr (if_neg (by exact fun h => Bool.false_ne_true h)) ?_
                refine hK.out _ _ hHeld (fun hHeld2 => ?_)
                clear hK K hHeld2
                simp only [Act.put, List.setIfInBounds_toArray, List.set_cons_zero, List.set_cons_succ]
                refine wpAnyH_ready (rs := [11]) (by kernel_rfl) (by simp) ?_
                refine AllReadyH.cons (o := { dst := some 59, op := Op.call { callee := Callee.value (Operand.func 10), args := #[Operand.tmp 58], argTypes := #[27] }, type := 3, pos := "outright.go:120", after := #[{ on := 10, ground := Ground.data }, { on := 6, ground := Ground.chain }, { on := 1, ground := Ground.guard }], guard := some (1, false) }) rfl (fun K hK => ?_) AllReadyH.nil
                refine Eq.mpr (if_neg (by exact fun h => Bool.false_ne_true h)) ?_
                refine hK.out _ _ hHeld (fun hHeld2 => ?_)
                clear hK K hHeld2
                simp only [Act.put, List.setIfInBounds_toArray, List.set_cons_zero, List.set_cons_succ]
                refine wpAnyH_take (i := 12) (oi := { dst := some 60, op := Op.binOp BinOp.eql 3 (Operand.tmp 54) (Operand.tmp 59) 3, type := 4, pos := "outright.go:120", after := #[{ on := 6, ground := Ground.data }, { on := 11, ground := Ground.data }, { on := 1, ground := Ground.guard }], guard := some (1, false) }) (v := undef) rfl (by kernel_rfl) (by kernel_rfl) (by kernel_rfl) (fun _ _ _ h => h) (Or.inr ⟨by rfl, rfl⟩) hHeld ?_
                simp only [Act.put, List.setIfInBounds_toArray, List.set_cons_zero, List.set_cons_succ]
                refine wpAnyH_take (i := 13) (oi := { dst := some 61, op := Op.pick (Operand.tmp 49) (Operand.const (Value.bool true)) (Operand.tmp 60), type := 4, pos := "outright.go:120", after := #[{ on := 1, ground := Ground.data }, { on := 12, ground := Ground.data }], guard := none }) (v := ?_) rfl (by kernel_rfl) (by kernel_rfl) (by kernel_rfl) (fun _ _ _ h => h) (Or.inl ⟨by rfl, ?_⟩) hHeld ?_
                rotate_left 1
                · (intro w0 hSw; (try dsimp only at hSw); go_simp; try with_reducible rfl)
                simp only [Act.put, List.setIfInBounds_toArray, List.set_cons_zero, List.set_cons_succ]
                refine wpAnyH_take (i := 14) (oi := { dst := some 7, op := Op.assign (Operand.tmp 61), type := 4, pos := "outright.go:120", after := #[{ on := 13, ground := Ground.data }, { on := 11, ground := Ground.chain }, { on := 0, ground := Ground.phase }, { on := 1, ground := Ground.phase }, { on := 2, ground := Ground.phase }, { on := 3, ground := Ground.phase }, { on := 4, ground := Ground.phase }, { on := 5, ground := Ground.phase }, { on := 6, ground := Ground.phase }, { on := 7, ground := Ground.phase }, { on := 8, ground := Ground.phase }, { on := 9, ground := Ground.phase }, { on := 10, ground := Ground.phase }, { on := 11, ground := Ground.phase }, { on := 12, ground := Ground.phase }, { on := 13, ground := Ground.phase }], guard := none }) (v := ?_) rfl (by kernel_rfl) (by kernel_rfl) (by kernel_rfl) (fun _ _ _ h => h) (Or.inl ⟨by rfl, ?_⟩) hHeld ?_
                rotate_left 1
                · (intro w0 hSw; (try dsimp only at hSw); go_simp; try with_reducible rfl)
                simp only [Act.put, List.setIfInBounds_toArray, List.set_cons_zero, List.set_cons_succ]
                refine wpAnyH_done (by kernel_rfl) ?_ _
                refine NoPanic.normal ?_
                clear hHeld
                go_wp2_with fail
                go_roundw
                case rel => exact ⟨j + 1, true, by omega, by go_num, rfl, HT, B9⟩
                case measure => simp [intOf]; omega
              | false =>
                go_upto_region 15 with fail
                go_region_held3 (fun w' => Below wr.drew.heap.size wr.drew w' ∧ w'.cell? ⟨sb, so + i, none⟩ = some (.int .i64 xi) ∧ w'.cell? ⟨sb, so + j, none⟩ = some (.int .i64 xj)) (first | with_reducible exact K0.out | with_reducible exact hk.out)
                  (first | (go_at_call 10; with_reducible refine (RI.out _).mono ?_; rintro e wn ⟨rfl, hb⟩; have hk := hidden (KS.out _ (bl_trans (show Below wr.drew.heap.size wr.drew _ from And.left (by assumption)) hb))) | (go_at_call 10; with_reducible refine (RJ.out _).mono ?_; rintro e wn ⟨rfl, hb⟩; have hk := hidden (KS.out _ (bl_trans (show Below wr.drew.heap.size wr.drew _ from And.left (by assumption)) hb))))
                have B10 := hidden (bl_trans B9.out hk.out.1)
                clear RI RJ K0 KS B9
                go_wp2_with fail
                go_roundw
                case rel => exact ⟨j + 1, _, by omega, by go_num, rfl, HT, B10⟩
                case measure => simp [intOf]; omega
            · have hjj : i = j := by omega
              subst hjj
              have lq : ¬ (i : Int) < (i : Int) := by omega
              have HT := hidden (hz.out.trans tw_next)
              clear hz hj hjn
              go_wp2_with fail
              go_roundw
              case rel => exact ⟨i + 1, z, by omega, by go_num, rfl, HT, hbl⟩
              case measure => simp [intOf]; omega
        · have hii : n = i := by omega
          subst hii
          have lq : ¬ (n : Int) < (n : Int) := by omega
          have HT := hidden (hz.out.trans tw_all)
          have BW5 := hidden (bl_trans BW.out hbl.out)
          have IX5 := hidden (ILX3.out.keep hbl.out)
          have IY5 := hidden (ILY.out.keep hbl.out)
          clear hz hi hin hbl
          go_upto_region 16 with fail
          clear lq
          generalize wr = w5 at *
          clear BW ILX3 ILY
          go_cut [10, 11] (fun v ev wx => ∃ er : Int, ev = .int .i64 er ∧ IntA w5 wx n X Y v er)
          case first =>
            as_aux_lemma =>
              go_wp2_with fail
              refine (HNC.out P Q1 n c d1 X Y w5 N40.out NCC.out ND.out IX5.out IY5.out).mono ?_
              rintro e w7 ⟨v, er, rfl, hs⟩
              have HS := hidden hs
              clear hs
              go_wp2_with fail
              go_meet
              exact ⟨er, rfl, HS.out⟩
          case rest =>
          obtain ⟨er, rfl, hs⟩ := hcut
          have B6 := hidden hs.bel
          rcases hs.res with ⟨rfl, htw, Px, cx, rfl⟩ | ⟨rfl, htw, Pc, cc, cs, hcc, rfl, hil, hev⟩
          · obtain rfl : z = true := HT.out.2 htw
            have B9 := hidden (bl_trans BW5.out B6.out)
            clear hs htw
            generalize wc = w6 at *
            go_wp2_with fail
            refine bodyPost_ret (v := .bool true) (by simp [results, Try.results4, go_sem]) rfl ⟨rfl, B9.out⟩
          · obtain rfl : z = false := by
              cases z with
              | false => rfl
              | true => exact absurd (HT.out.1 rfl) htw
            have HTW := hidden htw
            have HIL := hidden hil
            have HEV := hidden hev
            have HCC := hidden hcc
            clear hs htw hil hev hcc HT
            generalize wc = w6 at *
            have IX6 := hidden (IX5.out.keep B6.out)
            have IY6 := hidden (IY5.out.keep B6.out)
            have BW6 := hidden (bl_trans BW5.out B6.out)
            clear IX5 IY5 BW5 B6
            go_upto_region 22 with fail
            go_wp2_with fail
            go_loopw [12, 13] (fun av iv w' => ∃ (i : Nat) (Pa : Option Addr) (ca : Nat) (G : Nat → Int), i ≤ n ∧ iv = .int .i64 i ∧ av = .slice Pa i ca ∧ Hid (w'.ownsRow w6.heap.size 27 1 (.slice Pa i ca) i (svl G i)) ∧ Hid (∀ k, k < i → Mx.C 7 (G k) (Mx.ev n Y (X k))) ∧ Hid (Below w6.heap.size w6 w')) (fun _ i _ => n - (intOf i).toNat)
            case atStart => exact ⟨0, none, 0, fun _ => 0, by omega, rfl, rfl, hidden (World.ownsRow_nil _ _ _ _), hidden (fun k hk => by omega), hidden (Below.refl _ _)⟩
            case round =>
              obtain ⟨i, Pa, ca, G, hi, rfl, rfl, how, hG, hbl⟩ := hrel
              by_cases hin : i < n
              · have i1' : (i : Int) < (n : Int) := by omega
                have i0' : (0 : Int) ≤ (i : Int) := by omega
                have w9 : IntKind.i64.wrap ((i : Int) + 1) = (i : Int) + 1 := IntWalk.i64_in _ (by have := N40.out; omega)
                obtain ⟨sb, so, hP, hcl⟩ := IX6.out.at (by omega)
                subst hP
                obtain ⟨tb, t0, hQ, hdl⟩ := IY6.out.at (by omega)
                subst hQ
                have HCL := hidden (fun w' hb => hcl w' hb i hin)
                have HDL := hidden (fun w' hb => hdl w' hb i hin)
                clear hcl hdl
                have EV2 : Hid (∀ w', Below w6.heap.size w6 w' → Calls Try.prog 13 #[.slice (some ⟨tb, t0, none⟩) n d1, sv (X i)] w' fun e w'' => ∃ k : Int, e = .returned (sv k) ∧ Mx.C 7 k (Mx.ev n Y (X i)) ∧ Below w'.heap.size w' w'') := hidden (fun w' hb => HEC.out _ n d1 Y (X i) w' N40.out ND.out (IY6.out.keep hb))
                obtain ⟨y, hy⟩ : ∃ y, Y i % 7 = y := ⟨_, rfl⟩
                have EV1 : Hid (∀ w', Below w6.heap.size w6 w' → Calls Try.prog 13 #[.slice Pc n cc, sv (X i)] w' fun e w'' => ∃ k : Int, e = .returned (sv k) ∧ k % 7 = y ∧ Below w'.heap.size w' w'') := hidden (fun w' hb => (HEC.out _ n cc cs (X i) w' N40.out HCC.out (HIL.out.keep hb)).mono fun e w'' ⟨k, he, hk, hb2⟩ => ⟨k, he, by rw [← hy]; exact (hk.trans (HEV.out i hin)).mod, hb2⟩)
                have RK : Hid (∀ (k : Int), k % 7 = y → ∀ w, Calls Try.prog 10 #[sv k] w fun e w' => e = .returned (.int .i64 y) ∧ Below w.heap.size w w') := hidden (fun k hk w => by rw [← hk]; exact r_any k w)
                have RY : Hid (∀ w, Calls Try.prog 10 #[sv (Y i)] w fun e w' => e = .returned (.int .i64 y) ∧ Below w.heap.size w w') := hidden (fun w => by rw [← hy]; exact r_any (Y i) w)
                have GI := hidden (fun (k2 : Int) (h : Mx.C 7 k2 (Mx.ev n Y (X i))) (k : Nat) (hk : k < i + 1) => (by
                  by_cases hki : k = i
                  · subst hki; rw [if_pos rfl]; exact h
                  · rw [if_neg hki]; exact hG.out k (by omega) : Mx.C 7 (if k = i then k2 else G k) (Mx.ev n Y (X k))))
                unfold sv at EV1 EV2 RK RY
                obtain ⟨xi, hxi⟩ : ∃ t, X i = t := ⟨_, rfl⟩
                obtain ⟨yi, hyi⟩ : ∃ t, Y i = t := ⟨_, rfl⟩
                rw [hxi] at HCL EV1 EV2 GI
                rw [hyi] at HDL RY
                have KS : Hid (∀ w', Below w6.heap.size w6 w' → (fun w' => Below w6.heap.size w6 w' ∧ w'.cell? ⟨sb, so + i, none⟩ = some (.int .i64 xi) ∧ w'.cell? ⟨tb, t0 + i, none⟩ = some (.int .i64 yi)) w') := hidden (fun w' h => ⟨h, HCL.out w' h, HDL.out w' h⟩)
                have K0 := hidden (KS.out _ (bl_trans hbl.out (bl_drew wr)))
                have HOW : Hid (∀ w', Below wr.heap.size wr w' → w'.ownsRow w6.heap.size 27 1 (.slice Pa i ca) i (svl G i)) := hidden (fun w' hb => own_keep7 how.out hb)
                clear hy hxi hyi hG
                go_upto_region 25 with fail
                go_cut [103] (fun v wx => v = .bool false ∧ Below wr.heap.size wr wx ∧ Below w6.heap.size w6 wx)
                case first =>
                  as_aux_lemma =>
                    have KB : Hid (∀ w', Below wr.heap.size wr w' → (fun w' => Below wr.heap.size wr w' ∧ Below w6.heap.size w6 w' ∧ w'.cell? ⟨sb, so + i, none⟩ = some (.int .i64 xi) ∧ w'.cell? ⟨tb, t0 + i, none⟩ = some (.int .i64 yi)) w') := hidden (fun w' h => ⟨h, KS.out _ (bl_trans hbl.out h)⟩)
                    have K1 := hidden (KB.out _ (bl_drew wr))
                    clear how
                    go_region_held3 (fun w' => Below wr.heap.size wr w' ∧ Below w6.heap.size w6 w' ∧ w'.cell? ⟨sb, so + i, none⟩ = some (.int .i64 xi) ∧ w'.cell? ⟨tb, t0 + i, none⟩ = some (.int .i64 yi)) (first | with_reducible exact K1.out | with_reducible exact hk.out)
                      (first | (go_at_call 13; have hA := (show Below wr.heap.size wr _ ∧ Below w6.heap.size w6 _ ∧ _ from (by assumption)); with_reducible refine (EV1.out _ hA.2.1).mono ?_; rintro e wn ⟨k, rfl, hk7, hb⟩; have HK7 := hidden hk7; have hk := hidden (KB.out _ (bl_trans hA.1 hb))) | (go_at_call 10; have hA := (show Below wr.heap.size wr _ ∧ Below w6.heap.size w6 _ ∧ _ from (by assumption)); with_reducible refine (RY.out _).mono ?_; rintro e wn ⟨rfl, hb⟩; have hk := hidden (KB.out _ (bl_trans hA.1 hb))) | (go_at_call 10; have hA := (show Below wr.heap.size wr _ ∧ Below w6.heap.size w6 _ ∧ _ from (by assumption)); with_reducible refine (RK.out _ HK7.out _).mono ?_; rintro e wn ⟨rfl, hb⟩; have hk := hidden (KB.out _ (bl_trans hA.1 hb))))
                    go_wp2_with fail
                    go_meet
                    exact ⟨rfl, hk.out.1, hk.out.2.1⟩
                case rest =>
                obtain ⟨rfl, hb3, hb4⟩ := hcut
                have OW := hidden (HOW.out _ hb3)
                have B3 := hidden hb4
                have CX := (KS.out _ hb4).2.1
                clear hb3 hb4 K0 KS EV1 RK RY HOW how hbl
                go_upto_region 27 with fail
                go_wp2_with fail
                refine (EV2.out _ B3.out).mono ?_
                rintro e w8 ⟨k2, rfl, hk2, hb8⟩
                have G2 := hidden (GI.out k2 hk2)
                have hsz := (bl_trans B3.out hb8).size
                have a1 := hidden ((own_keep7 OW.out hb8).alloc (.cells #[.int .i64 k2] 27))
                have a2 := hidden (cells_new w8 [.int .i64 k2] 27)
                have a3 : Hid (∀ u ∈ [Value.int .i64 k2], u.oneCell' = true) := hidden (by simp [Value.oneCell'])
                have a4 : Hid (i + 1 ≤ maxLen) := hidden (by have := N40.out; unfold maxLen; omega)
                have a5 : Hid ((i + 1) * 8 ≤ 140737488355328) := hidden (by have := N40.out; omega)
                have a6 : Hid (w6.heap.size ≤ (w8.alloc (.cells #[.int .i64 k2] 27)).heap.size) := hidden (by simp; omega)
                have b6 := hidden (bl_trans (bl_trans B3.out hb8) (bl_alloc w8 (.cells #[.int .i64 k2] 27)))
                clear hsz hk2 hb8 CX
                go_wp2_with (first | (at_builtin; refine wpList_append_own_at _ rfl _ _ 24 rfl w6.heap.size 27 i0 (.agg #[.int .i64 0]) 1 8 HU.out HI.out HZ0.out HZ1.out HZ2.out rfl (by decide) _ _ _ rfl a1.out ⟨w8.heap.size, 0, none⟩ 1 1 [.int .i64 k2] rfl rfl a2.out a3.out a4.out a5.out a6.out ?_; intro v' w9' hown hgr hnil hat; have HB := hidden (below_trans b6.out (below_grown hgr a6.out (fun k hk => (a1.out.lt k hk).1))); rw [← svl_put] at hown; obtain ⟨P', c', g', rfl, -⟩ := own_list hown; have HO := hidden hown; clear hown hgr hnil hat))
                go_roundw
                case rel => exact ⟨i + 1, P', c', _, by omega, by go_num, rfl, HO, G2, HB⟩
                case measure => simp [intOf]; omega
              · have hii : n = i := by omega
                subst hii
                have lq : ¬ (n : Int) < (n : Int) := by omega
                obtain ⟨P0, c0, g0, ee, hqc, -, -, il⟩ := own_list how.out
                obtain ⟨rfl, _, rfl⟩ := Value.slice.inj ee
                have IG := hidden il
                have NCA := hidden hqc
                have IX7 := hidden (IX6.out.keep hbl.out)
                have IY7 := hidden (IY6.out.keep hbl.out)
                have BW7 := hidden (bl_trans BW6.out hbl.out)
                clear ee hqc il how hbl hi hin
                go_upto_region 28 with fail
                clear lq
                generalize wr = w7 at *
                clear IX6 IY6 BW6
                go_cut [14, 11] (fun v ev wx => ∃ er : Int, ev = .int .i64 er ∧ IntA w7 wx n X G v er)
                case first =>
                  as_aux_lemma =>
                    go_wp2_with fail
                    refine (HNC.out P Pa n c ca X G w7 N40.out NCC.out NCA.out IX7.out IG.out).mono ?_
                    rintro e w8 ⟨v, er, rfl, hs⟩
                    have HS := hidden hs
                    clear hs
                    go_wp2_with fail
                    go_meet
                    exact ⟨er, rfl, HS.out⟩
                case rest =>
                obtain ⟨er, rfl, hs⟩ := hcut
                have B8 := hidden hs.bel
                rcases hs.res with ⟨_, htw, _⟩ | ⟨rfl, htw, Pb, cb, bs, hcb, rfl, hil, hev⟩
                · exact absurd htw HTW.out
                have BE := hidden (Mx.ev_only pm7 n bs Y X (fun a b ha hb hab h => HTW.out (by
                  by_cases hlt : b < a
                  · exact ⟨a, b, hlt, ha, h.mod⟩
                  · exact ⟨b, a, by omega, hb, h.mod.symm⟩)) (fun k hk => (hev k hk).trans (hG.out k hk)))
                have IB := hidden hil
                have IY8 := hidden (IY7.out.keep B8.out)
                have BW8 := hidden (bl_trans BW7.out B8.out)
                clear hs htw hil hev hcb hG IX7 IY7 BW7 IG
                generalize wc = w8 at *
                go_upto_region 31 with fail
                go_wp2_with fail
                go_loopw [15] (fun iv w' => ∃ i : Nat, i ≤ n ∧ iv = .int .i64 i ∧ Hid (Below w8.heap.size w8 w')) (fun i _ => n - (intOf i).toNat)
                case atStart => exact ⟨0, by omega, rfl, hidden (Below.refl _ _)⟩
                case round =>
                  obtain ⟨i, hi, rfl, hbl⟩ := hrel
                  by_cases hin : i < n
                  · have i1' : (i : Int) < (n : Int) := by omega
                    have i0' : (0 : Int) ≤ (i : Int) := by omega
                    have w9 : IntKind.i64.wrap ((i : Int) + 1) = (i : Int) + 1 := IntWalk.i64_in _ (by have := N40.out; omega)
                    obtain ⟨sb, so, hP, hcl⟩ := IB.out.at (by omega)
                    subst hP
                    obtain ⟨tb, t0, hQ, hdl⟩ := IY8.out.at (by omega)
                    subst hQ
                    have e1 := (BE.out i hin).mod
                    obtain ⟨y, hy⟩ : ∃ y, Y i % 7 = y := ⟨_, rfl⟩
                    have RB : Hid (∀ w, Calls Try.prog 10 #[sv (bs i)] w fun e w' => e = .returned (.int .i64 y) ∧ Below w.heap.size w w') := hidden (fun w => by rw [← hy, ← e1]; exact r_any (bs i) w)
                    have RY : Hid (∀ w, Calls Try.prog 10 #[sv (Y i)] w fun e w' => e = .returned (.int .i64 y) ∧ Below w.heap.size w w') := hidden (fun w => by rw [← hy]; exact r_any (Y i) w)
                    unfold sv at RB RY
                    have HCL := hidden (fun w' hb => hcl w' hb i hin)
                    have HDL := hidden (fun w' hb => hdl w' hb i hin)
                    obtain ⟨xi, hxi⟩ : ∃ t, bs i = t := ⟨_, rfl⟩
                    obtain ⟨yi, hyi⟩ : ∃ t, Y i = t := ⟨_, rfl⟩
                    rw [hxi] at HCL RB
                    rw [hyi] at HDL RY
                    have KS : Hid (∀ w', Below w8.heap.size w8 w' → (fun w' => Below w8.heap.size w8 w' ∧ w'.cell? ⟨sb, so + i, none⟩ = some (.int .i64 xi) ∧ w'.cell? ⟨tb, t0 + i, none⟩ = some (.int .i64 yi)) w') := hidden (fun w' h => ⟨h, HCL.out w' h, HDL.out w' h⟩)
                    have K0 := hidden (KS.out _ (bl_trans hbl.out (bl_drew wr)))
                    clear hcl hdl HCL HDL hy e1 hxi hyi hbl
                    go_upto_region 34 with fail
                    go_cut [144] (fun v wx => v = .bool false ∧ Below w8.heap.size w8 wx)
                    case first =>
                      as_aux_lemma =>
                        go_region_held3 (fun w' => Below w8.heap.size w8 w' ∧ w'.cell? ⟨sb, so + i, none⟩ = some (.int .i64 xi) ∧ w'.cell? ⟨tb, t0 + i, none⟩ = some (.int .i64 yi)) (first | with_reducible exact K0.out | with_reducible exact hk.out)
                          (first | (go_at_call 10; with_reducible refine (RB.out _).mono ?_; rintro e wn ⟨rfl, hb⟩; have hk := hidden (KS.out _ (bl_trans (show Below w8.heap.size w8 _ from And.left (by assumption)) hb))) | (go_at_call 10; with_reducible refine (RY.out _).mono ?_; rintro e wn ⟨rfl, hb⟩; have hk := hidden (KS.out _ (bl_trans (show Below w8.heap.size w8 _ from And.left (by assumption)) hb))))
                        go_wp2_with fail
                        go_meet
                        exact ⟨rfl, hk.out.1⟩
                    case rest =>
                    obtain ⟨rfl, hb3⟩ := hcut
                    have B3 := hidden hb3
                    clear hb3 K0 KS RB RY
                    go_wp2_with fail
                    go_roundw
                    case rel => exact ⟨i + 1, by omega, by go_num, B3⟩
                    case measure => simp [intOf]; omega
                  · have hii : n = i := by omega
                    subst hii
                    have lq : ¬ (n : Int) < (n : Int) := by omega
                    have B9 := hidden (bl_trans BW8.out hbl.out)
                    clear hbl hi
                    go_wp2_with fail
                    refine bodyPost_ret (v := .bool true) (by simp [results, Try.results4, go_sem]) rfl ⟨rfl, B9.out⟩
end Go.Proofs.Ythhcdjndfepbaaa
