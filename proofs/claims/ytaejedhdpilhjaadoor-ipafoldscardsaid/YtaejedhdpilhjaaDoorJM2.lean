import Derived.Test.YtaejedhdpilhjaaDoorJM1
namespace Go.Proofs.YtaejedhdpilhjaaDoor
open Go.RowKit
set_option linter.unusedVariables false
/-- the least limbs, so far -/
def lsi (f : Nat → E4) (i k : Nat) : E4 := if k < i then lst (f k).n else zero4
theorem lsi_next (f : Nat → E4) (i j : Nat) : (if j = i then lst (f i).n else lsi f i j) = lsi f (i + 1) j := by
  unfold lsi
  by_cases e : j = i
  · subst e; rw [if_pos rfl, if_pos (by omega)]
  · rw [if_neg e]
    by_cases hl : j < i
    · rw [if_pos hl, if_pos (by omega)]
    · rw [if_neg hl, if_neg (by omega)]
set_option maxRecDepth 100000 in
set_option maxHeartbeats 16000000 in
theorem remadeList_any (b o n c : Nat) (f : Nat → E4) (w : World) (hT : Tb w) (hf : ∀ k, k < n → (f k).ok) (h0 : 0 < n) (hl : n ≤ 1048576) (hR : Rl w b o n f) :
    Calls Tryd.prog 37 #[.slice (some ⟨b, o, none⟩) n c] w fun e w' => ∃ g : Nat, e = .returned (.slice (some ⟨g, 0, none⟩) n n) ∧ w.heap.size ≤ g ∧ Rws w' g n (fun k => lst (f k).n) ∧ Below w.heap.size w w' := by
  have HT := hidden hT
  have HR := hidden hR
  have HF := hidden hf
  have HL := hidden (And.intro h0 hl)
  have nn0 : (0 : Int) ≤ (n : Int) := by omega
  obtain ⟨i0, hi, hz0, hz1, hz2⟩ := info_parts linfoJ
  have hmk := fun w => run_make (P := Tryd.prog) w 29 33 i0 (.agg #[.int .u64 0, .int .u64 0, .int .u64 0, .int .u64 0]) (by kernel_rfl) hi hz0 .i64 .i64 (n : Int) (n : Int) (by omega) (Int.le_refl _) (by rw [hz2]; omega) (by omega)
  simp only [Int.toNat_natCast, hz1] at hmk
  clear hT hR hf h0 hl hi hz0 hz1 hz2
  have Z1 := hidden (Blc.new w zero4 33)
  have B1 := hidden (bl_alloc w (.cells #[.int .u64 0, .int .u64 0, .int .u64 0, .int .u64 0] 33))
  go_enter Tryd.func37, Tryd.ntmps37
  go_upto_region 2 with fail
  change Hid (Blc (w.alloc (.cells #[.int .u64 0, .int .u64 0, .int .u64 0, .int .u64 0] 33)) w.heap.size zero4) at Z1
  generalize hw1 : w.alloc (.cells #[.int .u64 0, .int .u64 0, .int .u64 0, .int .u64 0] 33) = w1 at *
  have SZ : Hid (w.heap.size < w1.heap.size) := hidden (by rw [← hw1]; simp)
  clear hw1
  go_cut [4] (fun vx wx => ∃ bl : Nat, vx = .slice (some ⟨bl, 0, none⟩) n n ∧ w1.heap.size ≤ bl ∧ Rws wx bl n (lsi f 0) ∧ Below w1.heap.size w1 wx)
  case first =>
    have R0 := hidden ((Rws.made w1 n 33).congr (f := lsi f 0) (fun k _ => by unfold lsi; rw [if_neg (by omega)]))
    have B0 := hidden (bl_alloc w1 (.cells (madeCells #[.int .u64 0, .int .u64 0, .int .u64 0, .int .u64 0] (n * 4)) 33))
    go_wp2_with fail
    go_meet
    exact ⟨_, rfl, Nat.le_refl _, R0.out, B0.out⟩
  case rest =>
  obtain ⟨bf, rfl, hbf, r0, b0⟩ := hcut
  have R0 := hidden r0
  have B4 := hidden (bl_trans B1.out b0)
  have Z4 := hidden (Z1.out.keep b0)
  have RL := hidden (HR.out.keep B4.out)
  have T4 := hidden (HT.out.keep B4.out)
  have NB : Hid (w.heap.size < bf ∧ b < w.heap.size) := hidden ⟨by have h1 := SZ.out; omega, World.block_lt_of_cell? w _ (HR.out.c0 0 (by have := HL.out; omega))⟩
  clear r0 b0 hmk Z1 B1 HR HT SZ
  generalize wc = w4 at *
  go_wp2_with fail
  go_loopw [12] (fun iv' w' => ∃ k : Nat, k ≤ n ∧ iv' = .int .i64 k ∧ Hid (Rws w' bf n (lsi f k)) ∧ Hid (w4.grownBy w' (some bf))) (fun i _ => n - (intOf i).toNat)
  case atStart => exact ⟨0, by omega, rfl, R0, hidden (World.grownBy.refl _ _)⟩
  case round =>
    clear R0
    obtain ⟨k, hk, rfl, hRk, hG⟩ := hrel
    by_cases hkn : k < n
    · have k0 : (0 : Int) ≤ (k : Int) := by omega
      have k1 : (k : Int) < (n : Int) := by omega
      have w9 : IntKind.i64.wrap ((k : Int) + 1) = (k : Int) + 1 := IntWalk.i64_in _ (by have := HL.out.2; omega)
      have nb : b ≠ bf := by have := NB.out; omega
      have n3 : w.heap.size ≠ bf := by have := NB.out; omega
      have rl := RL.out
      have gc : ∀ {a : Addr} {v : Value}, w4.cell? a = some v → a.block ≠ bf → wr.cell? a = some v := fun hc hn => hG.out.cell hc (fun e => hn (Option.some.inj e))
      have okp := HF.out k hkn
      obtain ⟨p, hp⟩ : ∃ p, f k = p := ⟨_, rfl⟩
      obtain ⟨z, hz⟩ : ∃ r, lst p.n = r := ⟨_, rfl⟩
      have EZ : Hid (lst (f k).n = z) := hidden (by rw [hp, hz])
      rw [hp] at okp
      have p0 := gc (rl.c0 k hkn) nb
      have p1 := gc (rl.c1 k hkn) nb
      have p2 := gc (rl.c2 k hkn) nb
      have p3 := gc (rl.c3 k hkn) nb
      rw [hp] at p0 p1 p2 p3
      have s0 := gc Z4.out.c0 n3
      have s1 := gc Z4.out.c1 n3
      have s2 := gc Z4.out.c2 n3
      have s3 := gc Z4.out.c3 n3
      have TW := hidden (T4.out.keep0 hG.out (by have := NB.out; omega))
      have m1 := mt_AddL zero4
      have LA : Hid (∀ v, Tb v → Calls Tryd.prog 65 #[.agg #[.int .u64 0, .int .u64 0, .int .u64 0, .int .u64 0], .agg #[.int .u64 p.x0, .int .u64 p.x1, .int .u64 p.x2, .int .u64 p.x3]] v fun e w' => e = .returned (.agg #[.int .u64 z.x0, .int .u64 z.x1, .int .u64 z.x2, .int .u64 z.x3]) ∧ Below v.heap.size v w') := hidden (fun v hv => by
        have := lAdd_any zero4 p (by rw [← zero_lst]; exact lst_ok _) okp v hv
        rw [show zero4.n = 0 from rfl, Int.zero_add, hz] at this
        exact this)
      have PN := hidden (Blc.new wr p 33)
      have BA := hidden (bl_alloc wr (.cells #[.int .u64 p.x0, .int .u64 p.x1, .int .u64 p.x2, .int .u64 p.x3] 33))
      have S6 := hidden (And.intro (cell_keep s0 BA.out) (And.intro (cell_keep s1 BA.out) (And.intro (cell_keep s2 BA.out) (cell_keep s3 BA.out))))
      have R6 := hidden (hRk.out.keep BA.out)
      have G6 := hidden (hG.out.trans (gbI BA.out (some bf)))
      have T6 := hidden (TW.out.keep BA.out)
      clear hp hz okp gc rl hRk hG s0 s1 s2 s3 BA
      go_upto_region 6 with fail
      generalize wr.alloc (.cells #[.int .u64 p.x0, .int .u64 p.x1, .int .u64 p.x2, .int .u64 p.x3] 33) = w6 at *
      clear p0 p1 p2 p3
      generalize wr.heap.size = T6b at *
      have s0 := S6.out.1
      have s1 := S6.out.2.1
      have s2 := S6.out.2.2.1
      have s3 := S6.out.2.2.2
      have q0 := PN.out.c0
      have q1 := PN.out.c1
      have q2 := PN.out.c2
      have q3 := PN.out.c3
      simp only [zero4] at s0 s1 s2 s3 m1
      go_wp2_with fail
      refine (LA.out _ T6.out).mono ?_
      rintro e w7 ⟨rfl, hb⟩
      have r7 := R6.out.keep hb
      have a0 := r7.c0 k hkn
      have a1 := r7.c1 k hkn
      have a2 := r7.c2 k hkn
      have a3 := r7.c3 k hkn
      rw [show lsi f k k = zero4 by unfold lsi; rw [if_neg (by omega)]] at a0 a1 a2 a3
      have f0 := r7.fr (k * 4) (by omega)
      have f1 := r7.fr (k * 4 + 1) (by omega)
      have f2 := r7.fr (k * 4 + 2) (by omega)
      have f3 := r7.fr (k * 4 + 3) (by omega)
      have RN := hidden ((r7.at k hkn z).congr (f := lsi f (k + 1)) (fun j _ => by rw [← EZ.out]; exact lsi_next f k j))
      have GN := hidden ((G6.out.trans (gbI hb _)).trans (gb_setS w7 bf (k * 4) z))
      unfold setS at RN GN
      clear r7 hb s0 s1 s2 s3 q0 q1 q2 q3 LA R6 G6 T6 S6 PN m1
      go_wp2_with fail
      go_roundw
      case rel => exact ⟨k + 1, by omega, by go_num, RN, GN⟩
      case measure => simp [intOf]; omega
    · obtain rfl : n = k := by omega
      have lq : ¬ (n : Int) < (n : Int) := by omega
      have RF := hidden (hRk.out.congr (f := fun k => lst (f k).n) (fun j hj => if_pos hj))
      have BF := hidden (B4.out.grown hG.out (B4.out.size) (fun j hj => by obtain rfl := Option.some.inj hj; have := NB.out; omega))
      have GE : Hid (w.heap.size ≤ bf) := hidden (by have := NB.out; omega)
      clear hRk hG
      go_wp2_with fail
      refine bodyPost_ret (v := .slice (some ⟨bf, 0, none⟩) n n) (by simp [results, Tryd.results37, go_sem]) rfl ⟨bf, rfl, GE.out, RF.out, BF.out⟩
end Go.Proofs.YtaejedhdpilhjaaDoor
namespace Go.Proofs.YtaejedhdpilhjaaDoor
open Go.RowKit
set_option linter.unusedVariables false
theorem gb_setCells (b : Nat) : ∀ (vs : List Value) (o : Nat) (w : World), w.grownBy (w.setCells b o vs) (some b)
  | [], _, w => World.grownBy.refl _ _
  | v :: vs, o, w => by
    rw [World.setCells]
    have h1 : w.grownBy (w.setCell ⟨b, o, none⟩ v) (some b) := ⟨rfl, rfl, rfl, by simp, fun k _ hk => heap_setCell_other w ⟨b, o, none⟩ k v (fun e => hk (by simp [e]))⟩
    exact h1.trans (gb_setCells b vs (o + 1) _)
theorem stinfo : (Tryd.prog.info? 35).map (·.size) = some 10 := by kernel_rfl
def fo2o : Array Oper := #[{ dst := some 12, op := Op.load 33 (Operand.tmp 5), type := 33, pos := "rounds.go:80", after := #[], guard := none },
  { dst := some 13, op := Op.makeInterface 33 (Operand.tmp 12), type := 20, pos := "rounds.go:80", after := #[{ on := 0, ground := Ground.data }], guard := none },
  { dst := some 14, op := Op.load 26 (Operand.tmp 7), type := 26, pos := "rounds.go:80", after := #[], guard := none },
  { dst := some 15, op := Op.load 26 (Operand.tmp 7), type := 26, pos := "rounds.go:80", after := #[], guard := none },
  { dst := some 16, op := Op.call { callee := Callee.value (Operand.func 10), args := #[Operand.tmp 14, Operand.tmp 15], argTypes := #[26, 26] }, type := 26, pos := "rounds.go:81", after := #[{ on := 2, ground := Ground.data }, { on := 3, ground := Ground.data }], guard := none },
  { dst := some 17, op := Op.call { callee := Callee.invoke (Operand.tmp 13) "Times", args := #[Operand.tmp 16], argTypes := #[26] }, type := 33, pos := "rounds.go:81", after := #[{ on := 1, ground := Ground.data }, { on := 4, ground := Ground.data }, { on := 4, ground := Ground.chain }], guard := none },
  { dst := some 18, op := Op.makeInterface 33 (Operand.tmp 17), type := 20, pos := "rounds.go:80", after := #[{ on := 5, ground := Ground.data }], guard := none },
  { dst := some 19, op := Op.fieldAddr 35 (Operand.tmp 4) 0, type := 0, pos := "rounds.go:80", after := #[], guard := none },
  { dst := some 20, op := Op.load 33 (Operand.tmp 19), type := 33, pos := "rounds.go:80", after := #[{ on := 7, ground := Ground.data }], guard := none },
  { dst := some 21, op := Op.call { callee := Callee.invoke (Operand.tmp 18) "Add", args := #[Operand.tmp 20], argTypes := #[33] }, type := 33, pos := "rounds.go:81", after := #[{ on := 6, ground := Ground.data }, { on := 8, ground := Ground.data }, { on := 5, ground := Ground.chain }], guard := none },
  { dst := some 22, op := Op.makeInterface 33 (Operand.tmp 21), type := 20, pos := "rounds.go:80", after := #[{ on := 9, ground := Ground.data }], guard := none },
  { dst := some 23, op := Op.load 33 (Operand.tmp 6), type := 33, pos := "rounds.go:80", after := #[], guard := none },
  { dst := some 24, op := Op.makeInterface 33 (Operand.tmp 23), type := 20, pos := "rounds.go:80", after := #[{ on := 11, ground := Ground.data }], guard := none },
  { dst := some 25, op := Op.load 26 (Operand.tmp 9), type := 26, pos := "rounds.go:80", after := #[], guard := none },
  { dst := some 26, op := Op.load 26 (Operand.tmp 9), type := 26, pos := "rounds.go:80", after := #[], guard := none },
  { dst := some 27, op := Op.call { callee := Callee.value (Operand.func 10), args := #[Operand.tmp 25, Operand.tmp 26], argTypes := #[26, 26] }, type := 26, pos := "rounds.go:81", after := #[{ on := 13, ground := Ground.data }, { on := 14, ground := Ground.data }, { on := 9, ground := Ground.chain }], guard := none },
  { dst := some 28, op := Op.call { callee := Callee.invoke (Operand.tmp 24) "Times", args := #[Operand.tmp 27], argTypes := #[26] }, type := 33, pos := "rounds.go:81", after := #[{ on := 12, ground := Ground.data }, { on := 15, ground := Ground.data }, { on := 15, ground := Ground.chain }], guard := none },
  { dst := some 29, op := Op.call { callee := Callee.invoke (Operand.tmp 22) "Add", args := #[Operand.tmp 28], argTypes := #[33] }, type := 33, pos := "rounds.go:81", after := #[{ on := 10, ground := Ground.data }, { on := 16, ground := Ground.data }, { on := 16, ground := Ground.chain }], guard := none },
  { dst := some 30, op := Op.fieldAddr 35 (Operand.tmp 4) 1, type := 0, pos := "rounds.go:80", after := #[], guard := none },
  { dst := some 31, op := Op.load 33 (Operand.tmp 30), type := 33, pos := "rounds.go:80", after := #[{ on := 18, ground := Ground.data }], guard := none },
  { dst := some 32, op := Op.load 26 (Operand.tmp 9), type := 26, pos := "rounds.go:80", after := #[], guard := none },
  { dst := some 33, op := Op.load 26 (Operand.tmp 7), type := 26, pos := "rounds.go:80", after := #[], guard := none },
  { dst := some 34, op := Op.fieldAddr 35 (Operand.tmp 4) 2, type := 0, pos := "rounds.go:80", after := #[], guard := none },
  { dst := some 35, op := Op.load 29 (Operand.tmp 34), type := 29, pos := "rounds.go:80", after := #[{ on := 22, ground := Ground.data }], guard := none },
  { dst := some 36, op := Op.call { callee := Callee.value (Operand.func 45), args := #[Operand.tmp 32, Operand.tmp 33, Operand.tmp 35], argTypes := #[26, 26, 29] }, type := 29, pos := "rounds.go:83", after := #[{ on := 20, ground := Ground.data }, { on := 21, ground := Ground.data }, { on := 23, ground := Ground.data }, { on := 17, ground := Ground.chain }], guard := none },
  { dst := some 37, op := Op.load 26 (Operand.tmp 7), type := 26, pos := "rounds.go:80", after := #[], guard := none },
  { dst := some 38, op := Op.load 26 (Operand.tmp 9), type := 26, pos := "rounds.go:80", after := #[], guard := none },
  { dst := some 39, op := Op.fieldAddr 35 (Operand.tmp 4) 3, type := 0, pos := "rounds.go:80", after := #[], guard := none },
  { dst := some 40, op := Op.load 29 (Operand.tmp 39), type := 29, pos := "rounds.go:80", after := #[{ on := 27, ground := Ground.data }], guard := none },
  { dst := some 41, op := Op.call { callee := Callee.value (Operand.func 45), args := #[Operand.tmp 37, Operand.tmp 38, Operand.tmp 40], argTypes := #[26, 26, 29] }, type := 29, pos := "rounds.go:84", after := #[{ on := 25, ground := Ground.data }, { on := 26, ground := Ground.data }, { on := 28, ground := Ground.data }, { on := 24, ground := Ground.chain }], guard := none },
  { dst := some 42, op := Op.build 35 #[(0, Operand.tmp 29), (1, Operand.tmp 31), (2, Operand.tmp 36), (3, Operand.tmp 41)], type := 35, pos := "rounds.go:80", after := #[{ on := 17, ground := Ground.data }, { on := 19, ground := Ground.data }, { on := 24, ground := Ground.data }, { on := 29, ground := Ground.data }], guard := none },
  { dst := none, op := Op.store 35 (Operand.tmp 8) (Operand.tmp 42), type := 0, pos := "rounds.go:80", after := #[{ on := 30, ground := Ground.data }, { on := 29, ground := Ground.chain }, { on := 0, ground := Ground.phase }, { on := 1, ground := Ground.phase }, { on := 2, ground := Ground.phase }, { on := 3, ground := Ground.phase }, { on := 4, ground := Ground.phase }, { on := 5, ground := Ground.phase }, { on := 6, ground := Ground.phase }, { on := 7, ground := Ground.phase }, { on := 8, ground := Ground.phase }, { on := 9, ground := Ground.phase }, { on := 10, ground := Ground.phase }, { on := 11, ground := Ground.phase }, { on := 12, ground := Ground.phase }, { on := 13, ground := Ground.phase }, { on := 14, ground := Ground.phase }, { on := 15, ground := Ground.phase }, { on := 16, ground := Ground.phase }, { on := 17, ground := Ground.phase }, { on := 18, ground := Ground.phase }, { on := 19, ground := Ground.phase }, { on := 20, ground := Ground.phase }, { on := 21, ground := Ground.phase }, { on := 22, ground := Ground.phase }, { on := 23, ground := Ground.phase }, { on := 24, ground := Ground.phase }, { on := 25, ground := Ground.phase }, { on := 26, ground := Ground.phase }, { on := 27, ground := Ground.phase }, { on := 28, ground := Ground.phase }, { on := 29, ground := Ground.phase }, { on := 30, ground := Ground.phase }], guard := none }]
set_option maxRecDepth 100000 in
set_option maxHeartbeats 32000000 in
theorem fo2 (Q : Exit → Act → World → Prop) (T4 T5 T6 T7 T8 T9 h gb go gc hb ho hc : Nat) (l r u v p q uu lu s1 vv rv z : E4) (fg fh : Nat → E4) (u0 u1 u2 u3 u10 u11 u12 u13 u14 u15 u16 u17 u18 u19 u20 u21 u22 u23 u24 u25 u26 u27 u28 u29 u30 u31 u32 u33 u34 u35 u36 u37 u38 u39 u40 u41 u42 : Value) (W : World) (n4 : T4 ≠ T8) (n5 : T5 ≠ T8) (n6 : T6 ≠ T8) (n7 : T7 ≠ T8) (n9 : T9 ≠ T8) (ht : W.there T8 0 10)
    (c40 : W.cell? ⟨T4, 0, none⟩ = some (.int .u64 p.x0)) (c41 : W.cell? ⟨T4, 1, none⟩ = some (.int .u64 p.x1)) (c42 : W.cell? ⟨T4, 2, none⟩ = some (.int .u64 p.x2)) (c43 : W.cell? ⟨T4, 3, none⟩ = some (.int .u64 p.x3)) (d40 : W.cell? ⟨T4, 4, none⟩ = some (.int .u64 q.x0)) (d41 : W.cell? ⟨T4, 5, none⟩ = some (.int .u64 q.x1)) (d42 : W.cell? ⟨T4, 6, none⟩ = some (.int .u64 q.x2)) (d43 : W.cell? ⟨T4, 7, none⟩ = some (.int .u64 q.x3)) (g4 : W.cell? ⟨T4, 8, none⟩ = some (.slice (some ⟨gb, go, none⟩) (2 * h) gc)) (k4 : W.cell? ⟨T4, 9, none⟩ = some (.slice (some ⟨hb, ho, none⟩) (2 * h) hc))
    (c50 : W.cell? ⟨T5, 0, none⟩ = some (.int .u64 l.x0)) (c51 : W.cell? ⟨T5, 1, none⟩ = some (.int .u64 l.x1)) (c52 : W.cell? ⟨T5, 2, none⟩ = some (.int .u64 l.x2)) (c53 : W.cell? ⟨T5, 3, none⟩ = some (.int .u64 l.x3)) (c60 : W.cell? ⟨T6, 0, none⟩ = some (.int .u64 r.x0)) (c61 : W.cell? ⟨T6, 1, none⟩ = some (.int .u64 r.x1)) (c62 : W.cell? ⟨T6, 2, none⟩ = some (.int .u64 r.x2)) (c63 : W.cell? ⟨T6, 3, none⟩ = some (.int .u64 r.x3)) (c70 : W.cell? ⟨T7, 0, none⟩ = some (.int .u64 u.x0)) (c71 : W.cell? ⟨T7, 1, none⟩ = some (.int .u64 u.x1)) (c72 : W.cell? ⟨T7, 2, none⟩ = some (.int .u64 u.x2)) (c73 : W.cell? ⟨T7, 3, none⟩ = some (.int .u64 u.x3)) (c90 : W.cell? ⟨T9, 0, none⟩ = some (.int .u64 v.x0)) (c91 : W.cell? ⟨T9, 1, none⟩ = some (.int .u64 v.x1)) (c92 : W.cell? ⟨T9, 2, none⟩ = some (.int .u64 v.x2)) (c93 : W.cell? ⟨T9, 3, none⟩ = some (.int .u64 v.x3))
    (C4 : Hid (∀ x, W.grownBy x (some T8) → Calls Tryd.prog 10 #[.agg #[.int .u64 u.x0, .int .u64 u.x1, .int .u64 u.x2, .int .u64 u.x3], .agg #[.int .u64 u.x0, .int .u64 u.x1, .int .u64 u.x2, .int .u64 u.x3]] x fun e w' => e = .returned (.agg #[.int .u64 uu.x0, .int .u64 uu.x1, .int .u64 uu.x2, .int .u64 uu.x3]) ∧ Below x.heap.size x w')) (C5 : Hid (∀ x, W.grownBy x (some T8) → Calls Tryd.prog 67 #[.agg #[.int .u64 l.x0, .int .u64 l.x1, .int .u64 l.x2, .int .u64 l.x3], .agg #[.int .u64 uu.x0, .int .u64 uu.x1, .int .u64 uu.x2, .int .u64 uu.x3]] x fun e w' => e = .returned (.agg #[.int .u64 lu.x0, .int .u64 lu.x1, .int .u64 lu.x2, .int .u64 lu.x3]) ∧ Below x.heap.size x w')) (C9 : Hid (∀ x, W.grownBy x (some T8) → Calls Tryd.prog 65 #[.agg #[.int .u64 lu.x0, .int .u64 lu.x1, .int .u64 lu.x2, .int .u64 lu.x3], .agg #[.int .u64 p.x0, .int .u64 p.x1, .int .u64 p.x2, .int .u64 p.x3]] x fun e w' => e = .returned (.agg #[.int .u64 s1.x0, .int .u64 s1.x1, .int .u64 s1.x2, .int .u64 s1.x3]) ∧ Below x.heap.size x w')) (C15 : Hid (∀ x, W.grownBy x (some T8) → Calls Tryd.prog 10 #[.agg #[.int .u64 v.x0, .int .u64 v.x1, .int .u64 v.x2, .int .u64 v.x3], .agg #[.int .u64 v.x0, .int .u64 v.x1, .int .u64 v.x2, .int .u64 v.x3]] x fun e w' => e = .returned (.agg #[.int .u64 vv.x0, .int .u64 vv.x1, .int .u64 vv.x2, .int .u64 vv.x3]) ∧ Below x.heap.size x w')) (C16 : Hid (∀ x, W.grownBy x (some T8) → Calls Tryd.prog 67 #[.agg #[.int .u64 r.x0, .int .u64 r.x1, .int .u64 r.x2, .int .u64 r.x3], .agg #[.int .u64 vv.x0, .int .u64 vv.x1, .int .u64 vv.x2, .int .u64 vv.x3]] x fun e w' => e = .returned (.agg #[.int .u64 rv.x0, .int .u64 rv.x1, .int .u64 rv.x2, .int .u64 rv.x3]) ∧ Below x.heap.size x w')) (C17 : Hid (∀ x, W.grownBy x (some T8) → Calls Tryd.prog 65 #[.agg #[.int .u64 s1.x0, .int .u64 s1.x1, .int .u64 s1.x2, .int .u64 s1.x3], .agg #[.int .u64 rv.x0, .int .u64 rv.x1, .int .u64 rv.x2, .int .u64 rv.x3]] x fun e w' => e = .returned (.agg #[.int .u64 z.x0, .int .u64 z.x1, .int .u64 z.x2, .int .u64 z.x3]) ∧ Below x.heap.size x w'))
    (C24 : Hid (∀ x, W.grownBy x (some T8) → Calls Tryd.prog 45 #[.agg #[.int .u64 v.x0, .int .u64 v.x1, .int .u64 v.x2, .int .u64 v.x3], .agg #[.int .u64 u.x0, .int .u64 u.x1, .int .u64 u.x2, .int .u64 u.x3], .slice (some ⟨gb, go, none⟩) (2 * h) gc] x fun e w' => ∃ g : Nat, e = .returned (.slice (some ⟨g, 0, none⟩) h h) ∧ x.heap.size ≤ g ∧ Rws w' g h fg ∧ Below x.heap.size x w'))
    (C29 : Hid (∀ x, W.grownBy x (some T8) → Calls Tryd.prog 45 #[.agg #[.int .u64 u.x0, .int .u64 u.x1, .int .u64 u.x2, .int .u64 u.x3], .agg #[.int .u64 v.x0, .int .u64 v.x1, .int .u64 v.x2, .int .u64 v.x3], .slice (some ⟨hb, ho, none⟩) (2 * h) hc] x fun e w' => ∃ g : Nat, e = .returned (.slice (some ⟨g, 0, none⟩) h h) ∧ x.heap.size ≤ g ∧ Rws w' g h fh ∧ Below x.heap.size x w'))
    (HQ : Hid (∀ g1 g2 wy, Below W.heap.size W wy → Rws wy g1 h fg → Rws wy g2 h fh → W.heap.size ≤ g1 → W.heap.size ≤ g2 → Q .normal ⟨#[u0, u1, u2, u3, .pointer (some ⟨T4, 0, none⟩), .pointer (some ⟨T5, 0, none⟩), .pointer (some ⟨T6, 0, none⟩), .pointer (some ⟨T7, 0, none⟩), .pointer (some ⟨T8, 0, none⟩), .pointer (some ⟨T9, 0, none⟩), u10, u11, .agg #[.int .u64 l.x0, .int .u64 l.x1, .int .u64 l.x2, .int .u64 l.x3], .iface 33 (.agg #[.int .u64 l.x0, .int .u64 l.x1, .int .u64 l.x2, .int .u64 l.x3]), .agg #[.int .u64 u.x0, .int .u64 u.x1, .int .u64 u.x2, .int .u64 u.x3], .agg #[.int .u64 u.x0, .int .u64 u.x1, .int .u64 u.x2, .int .u64 u.x3], .agg #[.int .u64 uu.x0, .int .u64 uu.x1, .int .u64 uu.x2, .int .u64 uu.x3], .agg #[.int .u64 lu.x0, .int .u64 lu.x1, .int .u64 lu.x2, .int .u64 lu.x3], .iface 33 (.agg #[.int .u64 lu.x0, .int .u64 lu.x1, .int .u64 lu.x2, .int .u64 lu.x3]), .pointer (some ⟨T4, 0, none⟩), .agg #[.int .u64 p.x0, .int .u64 p.x1, .int .u64 p.x2, .int .u64 p.x3], .agg #[.int .u64 s1.x0, .int .u64 s1.x1, .int .u64 s1.x2, .int .u64 s1.x3], .iface 33 (.agg #[.int .u64 s1.x0, .int .u64 s1.x1, .int .u64 s1.x2, .int .u64 s1.x3]), .agg #[.int .u64 r.x0, .int .u64 r.x1, .int .u64 r.x2, .int .u64 r.x3], .iface 33 (.agg #[.int .u64 r.x0, .int .u64 r.x1, .int .u64 r.x2, .int .u64 r.x3]), .agg #[.int .u64 v.x0, .int .u64 v.x1, .int .u64 v.x2, .int .u64 v.x3], .agg #[.int .u64 v.x0, .int .u64 v.x1, .int .u64 v.x2, .int .u64 v.x3], .agg #[.int .u64 vv.x0, .int .u64 vv.x1, .int .u64 vv.x2, .int .u64 vv.x3], .agg #[.int .u64 rv.x0, .int .u64 rv.x1, .int .u64 rv.x2, .int .u64 rv.x3], .agg #[.int .u64 z.x0, .int .u64 z.x1, .int .u64 z.x2, .int .u64 z.x3], .pointer (some ⟨T4, 4, none⟩), .agg #[.int .u64 q.x0, .int .u64 q.x1, .int .u64 q.x2, .int .u64 q.x3], .agg #[.int .u64 v.x0, .int .u64 v.x1, .int .u64 v.x2, .int .u64 v.x3], .agg #[.int .u64 u.x0, .int .u64 u.x1, .int .u64 u.x2, .int .u64 u.x3], .pointer (some ⟨T4, 8, none⟩), .slice (some ⟨gb, go, none⟩) (2 * h) gc, .slice (some ⟨g1, 0, none⟩) h h, .agg #[.int .u64 u.x0, .int .u64 u.x1, .int .u64 u.x2, .int .u64 u.x3], .agg #[.int .u64 v.x0, .int .u64 v.x1, .int .u64 v.x2, .int .u64 v.x3], .pointer (some ⟨T4, 9, none⟩), .slice (some ⟨hb, ho, none⟩) (2 * h) hc, .slice (some ⟨g2, 0, none⟩) h h, .agg [.int .u64 z.x0, .int .u64 z.x1, .int .u64 z.x2, .int .u64 z.x3, .int .u64 q.x0, .int .u64 q.x1, .int .u64 q.x2, .int .u64 q.x3, .slice (some ⟨g1, 0, none⟩) h h, .slice (some ⟨g2, 0, none⟩) h h].toArray], []⟩ (wy.setCells T8 0 [.int .u64 z.x0, .int .u64 z.x1, .int .u64 z.x2, .int .u64 z.x3, .int .u64 q.x0, .int .u64 q.x1, .int .u64 q.x2, .int .u64 q.x3, .slice (some ⟨g1, 0, none⟩) h h, .slice (some ⟨g2, 0, none⟩) h h]))) : (Code.region 2 fo2o true).wp Tryd.prog Q ⟨#[u0, u1, u2, u3, .pointer (some ⟨T4, 0, none⟩), .pointer (some ⟨T5, 0, none⟩), .pointer (some ⟨T6, 0, none⟩), .pointer (some ⟨T7, 0, none⟩), .pointer (some ⟨T8, 0, none⟩), .pointer (some ⟨T9, 0, none⟩), u10, u11, u12, u13, u14, u15, u16, u17, u18, u19, u20, u21, u22, u23, u24, u25, u26, u27, u28, u29, u30, u31, u32, u33, u34, u35, u36, u37, u38, u39, u40, u41, u42], []⟩ W := by
  have B0 := hidden (drew_blS W)
  have HT := hidden ht
  have m1 := mt_TimesL l
  have m2 := mt_AddL lu
  have m3 := mt_TimesL r
  have m4 := mt_AddL s1
  clear ht
  unfold fo2o
  refine wp_region_noPanic ?_
  refine wp_region_held_drew (S := fun x => W.grownBy x (some T8)) (by kernel_rfl) (gbI (drew_blS W) _) (fun hHeld => ?_)
  refine wpAnyH_take (i := 0) (oi := { dst := some 12, op := Op.load 33 (Operand.tmp 5), type := 33, pos := "rounds.go:80", after := #[], guard := none }) (v := .agg #[.int .u64 l.x0, .int .u64 l.x1, .int .u64 l.x2, .int .u64 l.x3]) rfl (by kernel_rfl) (by kernel_rfl) (by kernel_rfl) (fun _ _ _ h => h) (Or.inl ⟨by rfl, fun w0 hSw => ?_⟩) hHeld ?_
  · (have hS : W.grownBy w0 (some T8) := hSw; have a0 := hS.cell c50 (fun e => n5 (Option.some.inj e)); have a1 := hS.cell c51 (fun e => n5 (Option.some.inj e)); have a2 := hS.cell c52 (fun e => n5 (Option.some.inj e)); have a3 := hS.cell c53 (fun e => n5 (Option.some.inj e)); clear hS hSw; go_simp)
  simp only [Act.put, List.setIfInBounds_toArray, List.set_cons_zero, List.set_cons_succ]
  refine wpAnyH_take (i := 1) (oi := { dst := some 13, op := Op.makeInterface 33 (Operand.tmp 12), type := 20, pos := "rounds.go:80", after := #[{ on := 0, ground := Ground.data }], guard := none }) (v := .iface 33 (.agg #[.int .u64 l.x0, .int .u64 l.x1, .int .u64 l.x2, .int .u64 l.x3])) rfl (by kernel_rfl) (by kernel_rfl) (by kernel_rfl) (fun _ _ _ h => h) (Or.inl ⟨by rfl, fun w0 hSw => ?_⟩) hHeld ?_
  · (clear hSw; go_simp)
  simp only [Act.put, List.setIfInBounds_toArray, List.set_cons_zero, List.set_cons_succ]
  refine wpAnyH_take (i := 2) (oi := { dst := some 14, op := Op.load 26 (Operand.tmp 7), type := 26, pos := "rounds.go:80", after := #[], guard := none }) (v := .agg #[.int .u64 u.x0, .int .u64 u.x1, .int .u64 u.x2, .int .u64 u.x3]) rfl (by kernel_rfl) (by kernel_rfl) (by kernel_rfl) (fun _ _ _ h => h) (Or.inl ⟨by rfl, fun w0 hSw => ?_⟩) hHeld ?_
  · (have hS : W.grownBy w0 (some T8) := hSw; have a0 := hS.cell c70 (fun e => n7 (Option.some.inj e)); have a1 := hS.cell c71 (fun e => n7 (Option.some.inj e)); have a2 := hS.cell c72 (fun e => n7 (Option.some.inj e)); have a3 := hS.cell c73 (fun e => n7 (Option.some.inj e)); clear hS hSw; go_simp)
  simp only [Act.put, List.setIfInBounds_toArray, List.set_cons_zero, List.set_cons_succ]
  refine wpAnyH_take (i := 3) (oi := { dst := some 15, op := Op.load 26 (Operand.tmp 7), type := 26, pos := "rounds.go:80", after := #[], guard := none }) (v := .agg #[.int .u64 u.x0, .int .u64 u.x1, .int .u64 u.x2, .int .u64 u.x3]) rfl (by kernel_rfl) (by kernel_rfl) (by kernel_rfl) (fun _ _ _ h => h) (Or.inl ⟨by rfl, fun w0 hSw => ?_⟩) hHeld ?_
  · (have hS : W.grownBy w0 (some T8) := hSw; have a0 := hS.cell c70 (fun e => n7 (Option.some.inj e)); have a1 := hS.cell c71 (fun e => n7 (Option.some.inj e)); have a2 := hS.cell c72 (fun e => n7 (Option.some.inj e)); have a3 := hS.cell c73 (fun e => n7 (Option.some.inj e)); clear hS hSw; go_simp)
  simp only [Act.put, List.setIfInBounds_toArray, List.set_cons_zero, List.set_cons_succ]
  refine wpAnyH_take (i := 7) (oi := { dst := some 19, op := Op.fieldAddr 35 (Operand.tmp 4) 0, type := 0, pos := "rounds.go:80", after := #[], guard := none }) (v := .pointer (some ⟨T4, 0, none⟩)) rfl (by kernel_rfl) (by kernel_rfl) (by kernel_rfl) (fun _ _ _ h => h) (Or.inl ⟨by rfl, fun w0 hSw => ?_⟩) hHeld ?_
  · (clear hSw; go_simp)
  simp only [Act.put, List.setIfInBounds_toArray, List.set_cons_zero, List.set_cons_succ]
  refine wpAnyH_take (i := 8) (oi := { dst := some 20, op := Op.load 33 (Operand.tmp 19), type := 33, pos := "rounds.go:80", after := #[{ on := 7, ground := Ground.data }], guard := none }) (v := .agg #[.int .u64 p.x0, .int .u64 p.x1, .int .u64 p.x2, .int .u64 p.x3]) rfl (by kernel_rfl) (by kernel_rfl) (by kernel_rfl) (fun _ _ _ h => h) (Or.inl ⟨by rfl, fun w0 hSw => ?_⟩) hHeld ?_
  · (have hS : W.grownBy w0 (some T8) := hSw; have a0 := hS.cell c40 (fun e => n4 (Option.some.inj e)); have a1 := hS.cell c41 (fun e => n4 (Option.some.inj e)); have a2 := hS.cell c42 (fun e => n4 (Option.some.inj e)); have a3 := hS.cell c43 (fun e => n4 (Option.some.inj e)); clear hS hSw; go_simp)
  simp only [Act.put, List.setIfInBounds_toArray, List.set_cons_zero, List.set_cons_succ]
  refine wpAnyH_take (i := 11) (oi := { dst := some 23, op := Op.load 33 (Operand.tmp 6), type := 33, pos := "rounds.go:80", after := #[], guard := none }) (v := .agg #[.int .u64 r.x0, .int .u64 r.x1, .int .u64 r.x2, .int .u64 r.x3]) rfl (by kernel_rfl) (by kernel_rfl) (by kernel_rfl) (fun _ _ _ h => h) (Or.inl ⟨by rfl, fun w0 hSw => ?_⟩) hHeld ?_
  · (have hS : W.grownBy w0 (some T8) := hSw; have a0 := hS.cell c60 (fun e => n6 (Option.some.inj e)); have a1 := hS.cell c61 (fun e => n6 (Option.some.inj e)); have a2 := hS.cell c62 (fun e => n6 (Option.some.inj e)); have a3 := hS.cell c63 (fun e => n6 (Option.some.inj e)); clear hS hSw; go_simp)
  simp only [Act.put, List.setIfInBounds_toArray, List.set_cons_zero, List.set_cons_succ]
  refine wpAnyH_take (i := 12) (oi := { dst := some 24, op := Op.makeInterface 33 (Operand.tmp 23), type := 20, pos := "rounds.go:80", after := #[{ on := 11, ground := Ground.data }], guard := none }) (v := .iface 33 (.agg #[.int .u64 r.x0, .int .u64 r.x1, .int .u64 r.x2, .int .u64 r.x3])) rfl (by kernel_rfl) (by kernel_rfl) (by kernel_rfl) (fun _ _ _ h => h) (Or.inl ⟨by rfl, fun w0 hSw => ?_⟩) hHeld ?_
  · (clear hSw; go_simp)
  simp only [Act.put, List.setIfInBounds_toArray, List.set_cons_zero, List.set_cons_succ]
  refine wpAnyH_take (i := 13) (oi := { dst := some 25, op := Op.load 26 (Operand.tmp 9), type := 26, pos := "rounds.go:80", after := #[], guard := none }) (v := .agg #[.int .u64 v.x0, .int .u64 v.x1, .int .u64 v.x2, .int .u64 v.x3]) rfl (by kernel_rfl) (by kernel_rfl) (by kernel_rfl) (fun _ _ _ h => h) (Or.inl ⟨by rfl, fun w0 hSw => ?_⟩) hHeld ?_
  · (have hS : W.grownBy w0 (some T8) := hSw; have a0 := hS.cell c90 (fun e => n9 (Option.some.inj e)); have a1 := hS.cell c91 (fun e => n9 (Option.some.inj e)); have a2 := hS.cell c92 (fun e => n9 (Option.some.inj e)); have a3 := hS.cell c93 (fun e => n9 (Option.some.inj e)); clear hS hSw; go_simp)
  simp only [Act.put, List.setIfInBounds_toArray, List.set_cons_zero, List.set_cons_succ]
  refine wpAnyH_take (i := 14) (oi := { dst := some 26, op := Op.load 26 (Operand.tmp 9), type := 26, pos := "rounds.go:80", after := #[], guard := none }) (v := .agg #[.int .u64 v.x0, .int .u64 v.x1, .int .u64 v.x2, .int .u64 v.x3]) rfl (by kernel_rfl) (by kernel_rfl) (by kernel_rfl) (fun _ _ _ h => h) (Or.inl ⟨by rfl, fun w0 hSw => ?_⟩) hHeld ?_
  · (have hS : W.grownBy w0 (some T8) := hSw; have a0 := hS.cell c90 (fun e => n9 (Option.some.inj e)); have a1 := hS.cell c91 (fun e => n9 (Option.some.inj e)); have a2 := hS.cell c92 (fun e => n9 (Option.some.inj e)); have a3 := hS.cell c93 (fun e => n9 (Option.some.inj e)); clear hS hSw; go_simp)
  simp only [Act.put, List.setIfInBounds_toArray, List.set_cons_zero, List.set_cons_succ]
  refine wpAnyH_take (i := 18) (oi := { dst := some 30, op := Op.fieldAddr 35 (Operand.tmp 4) 1, type := 0, pos := "rounds.go:80", after := #[], guard := none }) (v := .pointer (some ⟨T4, 4, none⟩)) rfl (by kernel_rfl) (by kernel_rfl) (by kernel_rfl) (fun _ _ _ h => h) (Or.inl ⟨by rfl, fun w0 hSw => ?_⟩) hHeld ?_
  · (clear hSw; go_simp)
  simp only [Act.put, List.setIfInBounds_toArray, List.set_cons_zero, List.set_cons_succ]
  refine wpAnyH_take (i := 19) (oi := { dst := some 31, op := Op.load 33 (Operand.tmp 30), type := 33, pos := "rounds.go:80", after := #[{ on := 18, ground := Ground.data }], guard := none }) (v := .agg #[.int .u64 q.x0, .int .u64 q.x1, .int .u64 q.x2, .int .u64 q.x3]) rfl (by kernel_rfl) (by kernel_rfl) (by kernel_rfl) (fun _ _ _ h => h) (Or.inl ⟨by rfl, fun w0 hSw => ?_⟩) hHeld ?_
  · (have hS : W.grownBy w0 (some T8) := hSw; have a0 := hS.cell d40 (fun e => n4 (Option.some.inj e)); have a1 := hS.cell d41 (fun e => n4 (Option.some.inj e)); have a2 := hS.cell d42 (fun e => n4 (Option.some.inj e)); have a3 := hS.cell d43 (fun e => n4 (Option.some.inj e)); clear hS hSw; go_simp)
  simp only [Act.put, List.setIfInBounds_toArray, List.set_cons_zero, List.set_cons_succ]
  refine wpAnyH_take (i := 20) (oi := { dst := some 32, op := Op.load 26 (Operand.tmp 9), type := 26, pos := "rounds.go:80", after := #[], guard := none }) (v := .agg #[.int .u64 v.x0, .int .u64 v.x1, .int .u64 v.x2, .int .u64 v.x3]) rfl (by kernel_rfl) (by kernel_rfl) (by kernel_rfl) (fun _ _ _ h => h) (Or.inl ⟨by rfl, fun w0 hSw => ?_⟩) hHeld ?_
  · (have hS : W.grownBy w0 (some T8) := hSw; have a0 := hS.cell c90 (fun e => n9 (Option.some.inj e)); have a1 := hS.cell c91 (fun e => n9 (Option.some.inj e)); have a2 := hS.cell c92 (fun e => n9 (Option.some.inj e)); have a3 := hS.cell c93 (fun e => n9 (Option.some.inj e)); clear hS hSw; go_simp)
  simp only [Act.put, List.setIfInBounds_toArray, List.set_cons_zero, List.set_cons_succ]
  refine wpAnyH_take (i := 21) (oi := { dst := some 33, op := Op.load 26 (Operand.tmp 7), type := 26, pos := "rounds.go:80", after := #[], guard := none }) (v := .agg #[.int .u64 u.x0, .int .u64 u.x1, .int .u64 u.x2, .int .u64 u.x3]) rfl (by kernel_rfl) (by kernel_rfl) (by kernel_rfl) (fun _ _ _ h => h) (Or.inl ⟨by rfl, fun w0 hSw => ?_⟩) hHeld ?_
  · (have hS : W.grownBy w0 (some T8) := hSw; have a0 := hS.cell c70 (fun e => n7 (Option.some.inj e)); have a1 := hS.cell c71 (fun e => n7 (Option.some.inj e)); have a2 := hS.cell c72 (fun e => n7 (Option.some.inj e)); have a3 := hS.cell c73 (fun e => n7 (Option.some.inj e)); clear hS hSw; go_simp)
  simp only [Act.put, List.setIfInBounds_toArray, List.set_cons_zero, List.set_cons_succ]
  refine wpAnyH_take (i := 22) (oi := { dst := some 34, op := Op.fieldAddr 35 (Operand.tmp 4) 2, type := 0, pos := "rounds.go:80", after := #[], guard := none }) (v := .pointer (some ⟨T4, 8, none⟩)) rfl (by kernel_rfl) (by kernel_rfl) (by kernel_rfl) (fun _ _ _ h => h) (Or.inl ⟨by rfl, fun w0 hSw => ?_⟩) hHeld ?_
  · (clear hSw; go_simp)
  simp only [Act.put, List.setIfInBounds_toArray, List.set_cons_zero, List.set_cons_succ]
  refine wpAnyH_take (i := 23) (oi := { dst := some 35, op := Op.load 29 (Operand.tmp 34), type := 29, pos := "rounds.go:80", after := #[{ on := 22, ground := Ground.data }], guard := none }) (v := .slice (some ⟨gb, go, none⟩) (2 * h) gc) rfl (by kernel_rfl) (by kernel_rfl) (by kernel_rfl) (fun _ _ _ h => h) (Or.inl ⟨by rfl, fun w0 hSw => ?_⟩) hHeld ?_
  · (have hS : W.grownBy w0 (some T8) := hSw; have a0 := hS.cell g4 (fun e => n4 (Option.some.inj e)); clear hS hSw; go_simp)
  simp only [Act.put, List.setIfInBounds_toArray, List.set_cons_zero, List.set_cons_succ]
  refine wpAnyH_take (i := 25) (oi := { dst := some 37, op := Op.load 26 (Operand.tmp 7), type := 26, pos := "rounds.go:80", after := #[], guard := none }) (v := .agg #[.int .u64 u.x0, .int .u64 u.x1, .int .u64 u.x2, .int .u64 u.x3]) rfl (by kernel_rfl) (by kernel_rfl) (by kernel_rfl) (fun _ _ _ h => h) (Or.inl ⟨by rfl, fun w0 hSw => ?_⟩) hHeld ?_
  · (have hS : W.grownBy w0 (some T8) := hSw; have a0 := hS.cell c70 (fun e => n7 (Option.some.inj e)); have a1 := hS.cell c71 (fun e => n7 (Option.some.inj e)); have a2 := hS.cell c72 (fun e => n7 (Option.some.inj e)); have a3 := hS.cell c73 (fun e => n7 (Option.some.inj e)); clear hS hSw; go_simp)
  simp only [Act.put, List.setIfInBounds_toArray, List.set_cons_zero, List.set_cons_succ]
  refine wpAnyH_take (i := 26) (oi := { dst := some 38, op := Op.load 26 (Operand.tmp 9), type := 26, pos := "rounds.go:80", after := #[], guard := none }) (v := .agg #[.int .u64 v.x0, .int .u64 v.x1, .int .u64 v.x2, .int .u64 v.x3]) rfl (by kernel_rfl) (by kernel_rfl) (by kernel_rfl) (fun _ _ _ h => h) (Or.inl ⟨by rfl, fun w0 hSw => ?_⟩) hHeld ?_
  · (have hS : W.grownBy w0 (some T8) := hSw; have a0 := hS.cell c90 (fun e => n9 (Option.some.inj e)); have a1 := hS.cell c91 (fun e => n9 (Option.some.inj e)); have a2 := hS.cell c92 (fun e => n9 (Option.some.inj e)); have a3 := hS.cell c93 (fun e => n9 (Option.some.inj e)); clear hS hSw; go_simp)
  simp only [Act.put, List.setIfInBounds_toArray, List.set_cons_zero, List.set_cons_succ]
  refine wpAnyH_take (i := 27) (oi := { dst := some 39, op := Op.fieldAddr 35 (Operand.tmp 4) 3, type := 0, pos := "rounds.go:80", after := #[], guard := none }) (v := .pointer (some ⟨T4, 9, none⟩)) rfl (by kernel_rfl) (by kernel_rfl) (by kernel_rfl) (fun _ _ _ h => h) (Or.inl ⟨by rfl, fun w0 hSw => ?_⟩) hHeld ?_
  · (clear hSw; go_simp)
  simp only [Act.put, List.setIfInBounds_toArray, List.set_cons_zero, List.set_cons_succ]
  refine wpAnyH_take (i := 28) (oi := { dst := some 40, op := Op.load 29 (Operand.tmp 39), type := 29, pos := "rounds.go:80", after := #[{ on := 27, ground := Ground.data }], guard := none }) (v := .slice (some ⟨hb, ho, none⟩) (2 * h) hc) rfl (by kernel_rfl) (by kernel_rfl) (by kernel_rfl) (fun _ _ _ h => h) (Or.inl ⟨by rfl, fun w0 hSw => ?_⟩) hHeld ?_
  · (have hS : W.grownBy w0 (some T8) := hSw; have a0 := hS.cell k4 (fun e => n4 (Option.some.inj e)); clear hS hSw; go_simp)
  simp only [Act.put, List.setIfInBounds_toArray, List.set_cons_zero, List.set_cons_succ]
  refine wpAnyH_ready (rs := [4]) (by kernel_rfl) (by simp) ?_
  refine AllReadyH.cons (o := { dst := some 16, op := Op.call { callee := Callee.value (Operand.func 10), args := #[Operand.tmp 14, Operand.tmp 15], argTypes := #[26, 26] }, type := 26, pos := "rounds.go:81", after := #[{ on := 2, ground := Ground.data }, { on := 3, ground := Ground.data }], guard := none }) rfl (fun K hK => ?_) AllReadyH.nil
  have HH := hidden hHeld
  clear hHeld
  go_simp
  refine (C4.out _ HH.out).mono ?_
  rintro e wn1 ⟨rfl, hb⟩
  replace B0 := hidden (bl_trans B0.out hb)
  have SN := hidden (HH.out.trans (gbI hb _))
  clear HH hb C4
  go_wp2_with fail
  refine hK.out _ _ SN.out (fun hHeld1 => ?_)
  clear hK K SN
  refine wpAnyH_ready (rs := [5]) (by kernel_rfl) (by simp) ?_
  refine AllReadyH.cons (o := { dst := some 17, op := Op.call { callee := Callee.invoke (Operand.tmp 13) "Times", args := #[Operand.tmp 16], argTypes := #[26] }, type := 33, pos := "rounds.go:81", after := #[{ on := 1, ground := Ground.data }, { on := 4, ground := Ground.data }, { on := 4, ground := Ground.chain }], guard := none }) rfl (fun K hK => ?_) AllReadyH.nil
  have HH := hidden hHeld1
  clear hHeld1
  go_simp
  refine (C5.out _ HH.out).mono ?_
  rintro e wn2 ⟨rfl, hb⟩
  replace B0 := hidden (bl_trans B0.out hb)
  have SN := hidden (HH.out.trans (gbI hb _))
  clear HH hb C5
  go_wp2_with fail
  refine hK.out _ _ SN.out (fun hHeld2 => ?_)
  clear hK K SN
  refine wpAnyH_take (i := 6) (oi := { dst := some 18, op := Op.makeInterface 33 (Operand.tmp 17), type := 20, pos := "rounds.go:80", after := #[{ on := 5, ground := Ground.data }], guard := none }) (v := .iface 33 (.agg #[.int .u64 lu.x0, .int .u64 lu.x1, .int .u64 lu.x2, .int .u64 lu.x3])) rfl (by kernel_rfl) (by kernel_rfl) (by kernel_rfl) (fun _ _ _ h => h) (Or.inl ⟨by rfl, fun w0 hSw => ?_⟩) hHeld2 ?_
  · (clear hSw; go_simp)
  simp only [Act.put, List.setIfInBounds_toArray, List.set_cons_zero, List.set_cons_succ]
  refine wpAnyH_ready (rs := [9]) (by kernel_rfl) (by simp) ?_
  refine AllReadyH.cons (o := { dst := some 21, op := Op.call { callee := Callee.invoke (Operand.tmp 18) "Add", args := #[Operand.tmp 20], argTypes := #[33] }, type := 33, pos := "rounds.go:81", after := #[{ on := 6, ground := Ground.data }, { on := 8, ground := Ground.data }, { on := 5, ground := Ground.chain }], guard := none }) rfl (fun K hK => ?_) AllReadyH.nil
  have HH := hidden hHeld2
  clear hHeld2
  go_simp
  refine (C9.out _ HH.out).mono ?_
  rintro e wn3 ⟨rfl, hb⟩
  replace B0 := hidden (bl_trans B0.out hb)
  have SN := hidden (HH.out.trans (gbI hb _))
  clear HH hb C9
  go_wp2_with fail
  refine hK.out _ _ SN.out (fun hHeld3 => ?_)
  clear hK K SN
  refine wpAnyH_take (i := 10) (oi := { dst := some 22, op := Op.makeInterface 33 (Operand.tmp 21), type := 20, pos := "rounds.go:80", after := #[{ on := 9, ground := Ground.data }], guard := none }) (v := .iface 33 (.agg #[.int .u64 s1.x0, .int .u64 s1.x1, .int .u64 s1.x2, .int .u64 s1.x3])) rfl (by kernel_rfl) (by kernel_rfl) (by kernel_rfl) (fun _ _ _ h => h) (Or.inl ⟨by rfl, fun w0 hSw => ?_⟩) hHeld3 ?_
  · (clear hSw; go_simp)
  simp only [Act.put, List.setIfInBounds_toArray, List.set_cons_zero, List.set_cons_succ]
  refine wpAnyH_ready (rs := [15]) (by kernel_rfl) (by simp) ?_
  refine AllReadyH.cons (o := { dst := some 27, op := Op.call { callee := Callee.value (Operand.func 10), args := #[Operand.tmp 25, Operand.tmp 26], argTypes := #[26, 26] }, type := 26, pos := "rounds.go:81", after := #[{ on := 13, ground := Ground.data }, { on := 14, ground := Ground.data }, { on := 9, ground := Ground.chain }], guard := none }) rfl (fun K hK => ?_) AllReadyH.nil
  have HH := hidden hHeld3
  clear hHeld3
  go_simp
  refine (C15.out _ HH.out).mono ?_
  rintro e wn4 ⟨rfl, hb⟩
  replace B0 := hidden (bl_trans B0.out hb)
  have SN := hidden (HH.out.trans (gbI hb _))
  clear HH hb C15
  go_wp2_with fail
  refine hK.out _ _ SN.out (fun hHeld4 => ?_)
  clear hK K SN
  refine wpAnyH_ready (rs := [16]) (by kernel_rfl) (by simp) ?_
  refine AllReadyH.cons (o := { dst := some 28, op := Op.call { callee := Callee.invoke (Operand.tmp 24) "Times", args := #[Operand.tmp 27], argTypes := #[26] }, type := 33, pos := "rounds.go:81", after := #[{ on := 12, ground := Ground.data }, { on := 15, ground := Ground.data }, { on := 15, ground := Ground.chain }], guard := none }) rfl (fun K hK => ?_) AllReadyH.nil
  have HH := hidden hHeld4
  clear hHeld4
  go_simp
  refine (C16.out _ HH.out).mono ?_
  rintro e wn5 ⟨rfl, hb⟩
  replace B0 := hidden (bl_trans B0.out hb)
  have SN := hidden (HH.out.trans (gbI hb _))
  clear HH hb C16
  go_wp2_with fail
  refine hK.out _ _ SN.out (fun hHeld5 => ?_)
  clear hK K SN
  refine wpAnyH_ready (rs := [17]) (by kernel_rfl) (by simp) ?_
  refine AllReadyH.cons (o := { dst := some 29, op := Op.call { callee := Callee.invoke (Operand.tmp 22) "Add", args := #[Operand.tmp 28], argTypes := #[33] }, type := 33, pos := "rounds.go:81", after := #[{ on := 10, ground := Ground.data }, { on := 16, ground := Ground.data }, { on := 16, ground := Ground.chain }], guard := none }) rfl (fun K hK => ?_) AllReadyH.nil
  have HH := hidden hHeld5
  clear hHeld5
  go_simp
  refine (C17.out _ HH.out).mono ?_
  rintro e wn6 ⟨rfl, hb⟩
  replace B0 := hidden (bl_trans B0.out hb)
  have SN := hidden (HH.out.trans (gbI hb _))
  clear HH hb C17
  go_wp2_with fail
  refine hK.out _ _ SN.out (fun hHeld6 => ?_)
  clear hK K SN
  refine wpAnyH_ready (rs := [24]) (by kernel_rfl) (by simp) ?_
  refine AllReadyH.cons (o := { dst := some 36, op := Op.call { callee := Callee.value (Operand.func 45), args := #[Operand.tmp 32, Operand.tmp 33, Operand.tmp 35], argTypes := #[26, 26, 29] }, type := 29, pos := "rounds.go:83", after := #[{ on := 20, ground := Ground.data }, { on := 21, ground := Ground.data }, { on := 23, ground := Ground.data }, { on := 17, ground := Ground.chain }], guard := none }) rfl (fun K hK => ?_) AllReadyH.nil
  have HH := hidden hHeld6
  clear hHeld6
  go_simp
  refine (C24.out _ HH.out).mono ?_
  rintro e wn7 ⟨g1, rfl, hg1, hr1, hb⟩
  have R1 := hidden hr1
  have N1 := hidden (Nat.le_trans B0.out.size hg1)
  clear hr1 hg1
  replace B0 := hidden (bl_trans B0.out hb)
  have SN := hidden (HH.out.trans (gbI hb _))
  clear HH hb C24
  go_wp2_with fail
  refine hK.out _ _ SN.out (fun hHeld7 => ?_)
  clear hK K SN
  refine wpAnyH_ready (rs := [29]) (by kernel_rfl) (by simp) ?_
  refine AllReadyH.cons (o := { dst := some 41, op := Op.call { callee := Callee.value (Operand.func 45), args := #[Operand.tmp 37, Operand.tmp 38, Operand.tmp 40], argTypes := #[26, 26, 29] }, type := 29, pos := "rounds.go:84", after := #[{ on := 25, ground := Ground.data }, { on := 26, ground := Ground.data }, { on := 28, ground := Ground.data }, { on := 24, ground := Ground.chain }], guard := none }) rfl (fun K hK => ?_) AllReadyH.nil
  have HH := hidden hHeld7
  clear hHeld7
  go_simp
  refine (C29.out _ HH.out).mono ?_
  rintro e wn8 ⟨g2, rfl, hg2, hr2, hb⟩
  have R2 := hidden hr2
  have N2 := hidden (Nat.le_trans B0.out.size hg2)
  replace R1 := hidden (R1.out.keep hb)
  clear hr2 hg2
  replace B0 := hidden (bl_trans B0.out hb)
  have SN := hidden (HH.out.trans (gbI hb _))
  clear HH hb C29
  go_wp2_with fail
  refine hK.out _ _ SN.out (fun hHeld8 => ?_)
  clear hK K SN
  refine wpAnyH_take (i := 30) (oi := { dst := some 42, op := Op.build 35 #[(0, Operand.tmp 29), (1, Operand.tmp 31), (2, Operand.tmp 36), (3, Operand.tmp 41)], type := 35, pos := "rounds.go:80", after := #[{ on := 17, ground := Ground.data }, { on := 19, ground := Ground.data }, { on := 24, ground := Ground.data }, { on := 29, ground := Ground.data }], guard := none }) (v := .agg [.int .u64 z.x0, .int .u64 z.x1, .int .u64 z.x2, .int .u64 z.x3, .int .u64 q.x0, .int .u64 q.x1, .int .u64 q.x2, .int .u64 q.x3, .slice (some ⟨g1, 0, none⟩) h h, .slice (some ⟨g2, 0, none⟩) h h].toArray) rfl (by kernel_rfl) (by kernel_rfl) (by kernel_rfl) (fun _ _ _ h => h) (Or.inl ⟨by rfl, fun w0 hSw => by kernel_rfl⟩) hHeld8 ?_
  simp only [Act.put, List.setIfInBounds_toArray, List.set_cons_zero, List.set_cons_succ]
  refine wpAnyH_ready (rs := [31]) (by kernel_rfl) (by simp) ?_
  refine AllReadyH.cons (o := { dst := none, op := Op.store 35 (Operand.tmp 8) (Operand.tmp 42), type := 0, pos := "rounds.go:80", after := #[{ on := 30, ground := Ground.data }, { on := 29, ground := Ground.chain }, { on := 0, ground := Ground.phase }, { on := 1, ground := Ground.phase }, { on := 2, ground := Ground.phase }, { on := 3, ground := Ground.phase }, { on := 4, ground := Ground.phase }, { on := 5, ground := Ground.phase }, { on := 6, ground := Ground.phase }, { on := 7, ground := Ground.phase }, { on := 8, ground := Ground.phase }, { on := 9, ground := Ground.phase }, { on := 10, ground := Ground.phase }, { on := 11, ground := Ground.phase }, { on := 12, ground := Ground.phase }, { on := 13, ground := Ground.phase }, { on := 14, ground := Ground.phase }, { on := 15, ground := Ground.phase }, { on := 16, ground := Ground.phase }, { on := 17, ground := Ground.phase }, { on := 18, ground := Ground.phase }, { on := 19, ground := Ground.phase }, { on := 20, ground := Ground.phase }, { on := 21, ground := Ground.phase }, { on := 22, ground := Ground.phase }, { on := 23, ground := Ground.phase }, { on := 24, ground := Ground.phase }, { on := 25, ground := Ground.phase }, { on := 26, ground := Ground.phase }, { on := 27, ground := Ground.phase }, { on := 28, ground := Ground.phase }, { on := 29, ground := Ground.phase }, { on := 30, ground := Ground.phase }], guard := none }) rfl (fun K hK => ?_) AllReadyH.nil
  have HH := hidden hHeld8
  clear hHeld8
  have TH := hidden (there_keepM HT.out B0.out)
  refine wp_store_mid 35 _ _ rfl T8 0 [.int .u64 z.x0, .int .u64 z.x1, .int .u64 z.x2, .int .u64 z.x3, .int .u64 q.x0, .int .u64 q.x1, .int .u64 q.x2, .int .u64 q.x3, .slice (some ⟨g1, 0, none⟩) h h, .slice (some ⟨g2, 0, none⟩) h h].toArray (by rfl) (by rfl) TH.out stinfo (by simp [Value.oneCell']) ?_
  have FQ := hidden (HQ.out g1 g2 _ B0.out R1.out R2.out N1.out N2.out)
  refine hK.out _ _ (HH.out.trans (gb_setCells T8 _ 0 _)) (fun _ => ?_)
  refine wpAnyH_done (by kernel_rfl) ?_ _
  refine NoPanic.normal ?_
  exact FQ.out
end Go.Proofs.YtaejedhdpilhjaaDoor
namespace Go.Proofs.YtaejedhdpilhjaaDoor
open Go.RowKit
set_option linter.unusedVariables false
theorem Rws.grow {w w' : World} {b n c : Nat} {g : Nat → E4} (h : Rws w b n g) (hg : w.grownBy w' (some c)) (hne : b ≠ c) : Rws w' b n g := by
  have hb := hg.block b h.lt (fun e => hne (Option.some.inj e))
  have k : ∀ j, w'.cell? ⟨b, j, none⟩ = w.cell? ⟨b, j, none⟩ := fun j => World.cell?_of_block hb
  exact ⟨fun j hj => (k _).trans (h.c0 j hj), fun j hj => (k _).trans (h.c1 j hj), fun j hj => (k _).trans (h.c2 j hj), fun j hj => (k _).trans (h.c3 j hj), fun j hj => (World.frozen?_of_block hb).trans (h.fr j hj), Nat.lt_of_lt_of_le h.lt hg.size⟩
/-- a statement's cells -/
def sc (p q : E4) (G H : Value) : List Value := [.int .u64 p.x0, .int .u64 p.x1, .int .u64 p.x2, .int .u64 p.x3, .int .u64 q.x0, .int .u64 q.x1, .int .u64 q.x2, .int .u64 q.x3, G, H]
/-- a folded statement's P -/
def fp (p l r u : E4) : E4 := lst ((lst ((lst (l.n * (lst (u.n * u.n)).n)).n + p.n)).n + (lst (r.n * (lst ((iv u.n).n * (iv u.n).n)).n)).n)
set_option maxRecDepth 100000 in
set_option maxHeartbeats 32000000 in
theorem fold_any (p q l r u : E4) (gb go gc hb ho hc h : Nat) (fg fh : Nat → E4) (w : World) (hT : Tb w) (op : p.ok) (oq : q.ok) (ol : l.ok) (or : r.ok) (ou : u.ok) (og : ∀ k, k < 2 * h → (fg k).ok) (oh : ∀ k, k < 2 * h → (fh k).ok) (h0 : 0 < h) (hl : h ≤ 1048576) (cg : 2 * h ≤ gc) (ch : 2 * h ≤ hc) (rg : Rl w gb go (2 * h) fg) (rh : Rl w hb ho (2 * h) fh) :
    Calls Tryd.prog 36 #[.agg (sc p q (.slice (some ⟨gb, go, none⟩) (2 * h) gc) (.slice (some ⟨hb, ho, none⟩) (2 * h) hc)).toArray, l.v, r.v, u.v] w fun e w' => ∃ g1 g2 : Nat, e = .returned (.agg (sc (fp p l r u) q (.slice (some ⟨g1, 0, none⟩) h h) (.slice (some ⟨g2, 0, none⟩) h h)).toArray) ∧ w.heap.size ≤ g1 ∧ w.heap.size ≤ g2 ∧ Rws w' g1 h (bd (iv u.n) u h fg) ∧ Rws w' g2 h (bd u (iv u.n) h fh) ∧ Below w.heap.size w w' := by
  have M0 := ((((Mw.start w).new (sc p q (.slice (some ⟨gb, go, none⟩) (2 * h) gc) (.slice (some ⟨hb, ho, none⟩) (2 * h) hc)) 35).new [.int .u64 l.x0, .int .u64 l.x1, .int .u64 l.x2, .int .u64 l.x3] 33).new [.int .u64 r.x0, .int .u64 r.x1, .int .u64 r.x2, .int .u64 r.x3] 33).new [.int .u64 u.x0, .int .u64 u.x1, .int .u64 u.x2, .int .u64 u.x3] 26
  have M1 := M0.new [.int .u64 0, .int .u64 0, .int .u64 0, .int .u64 0, .int .u64 0, .int .u64 0, .int .u64 0, .int .u64 0, .slice none 0 0, .slice none 0 0] 35
  clear M0
  simp only [World.size_alloc] at M1
  have MM := hidden M1
  have IN := hidden (fun x T => fix (R := iv u.n) (Invert_any u x T ou) rfl)
  simp only [E4.v] at IN
  have HT := hidden hT
  clear M1
  unfold E4.v
  go_enter Tryd.func36, Tryd.ntmps36
  go_upto_region 1 with fail
  generalize ((((w.alloc (.cells (sc p q (.slice (some ⟨gb, go, none⟩) (2 * h) gc) (.slice (some ⟨hb, ho, none⟩) (2 * h) hc)).toArray 35)).alloc (.cells #[.int .u64 l.x0, .int .u64 l.x1, .int .u64 l.x2, .int .u64 l.x3] 33)).alloc (.cells #[.int .u64 r.x0, .int .u64 r.x1, .int .u64 r.x2, .int .u64 r.x3] 33)).alloc (.cells #[.int .u64 u.x0, .int .u64 u.x1, .int .u64 u.x2, .int .u64 u.x3] 26)).alloc (.cells #[.int .u64 0, .int .u64 0, .int .u64 0, .int .u64 0, .int .u64 0, .int .u64 0, .int .u64 0, .int .u64 0, .slice none 0 0, .slice none 0 0] 35) = w5 at MM ⊢
  have x0 := (MM.out.r (w.heap.size + 1 + 1 + 1, [.int .u64 u.x0, .int .u64 u.x1, .int .u64 u.x2, .int .u64 u.x3]) (by simp)).1 0 _ rfl
  have x1 := (MM.out.r (w.heap.size + 1 + 1 + 1, [.int .u64 u.x0, .int .u64 u.x1, .int .u64 u.x2, .int .u64 u.x3]) (by simp)).1 1 _ rfl
  have x2 := (MM.out.r (w.heap.size + 1 + 1 + 1, [.int .u64 u.x0, .int .u64 u.x1, .int .u64 u.x2, .int .u64 u.x3]) (by simp)).1 2 _ rfl
  have x3 := (MM.out.r (w.heap.size + 1 + 1 + 1, [.int .u64 u.x0, .int .u64 u.x1, .int .u64 u.x2, .int .u64 u.x3]) (by simp)).1 3 _ rfl
  simp only [Nat.zero_add] at x0 x1 x2 x3
  have T5 := hidden (HT.out.keep MM.out.bel)
  obtain ⟨v, hv⟩ : ∃ v, iv u.n = v := ⟨_, rfl⟩
  have HV := hidden hv
  rw [hv] at IN
  clear hv
  go_upto_region 2 with (first | (go_at_call 11; refine (IN.out _ T5.out).mono ?_; rintro e wa ⟨rfl, hb⟩; have HB := hidden hb; clear hb))
  have MN := hidden ((MM.out.keep HB.out).new [.int .u64 v.x0, .int .u64 v.x1, .int .u64 v.x2, .int .u64 v.x3] 26)
  have W5 : Hid (w.heap.size + 1 + 1 + 1 + 1 < wa.heap.size) := hidden (Nat.lt_of_lt_of_le (MM.out.r (w.heap.size + 1 + 1 + 1 + 1, [.int .u64 0, .int .u64 0, .int .u64 0, .int .u64 0, .int .u64 0, .int .u64 0, .int .u64 0, .int .u64 0, .slice none 0 0, .slice none 0 0]) (by simp)).2.2.2 HB.out.size)
  clear x0 x1 x2 x3 MM T5 IN
  generalize hwx : wa.alloc (.cells #[.int .u64 v.x0, .int .u64 v.x1, .int .u64 v.x2, .int .u64 v.x3] 26) = wx at *
  generalize wa.heap.size = T9 at *
  have rP := (MN.out.r (w.heap.size, sc p q (.slice (some ⟨gb, go, none⟩) (2 * h) gc) (.slice (some ⟨hb, ho, none⟩) (2 * h) hc)) (by simp)).1
  have rL := (MN.out.r (w.heap.size + 1, [.int .u64 l.x0, .int .u64 l.x1, .int .u64 l.x2, .int .u64 l.x3]) (by simp)).1
  have rR := (MN.out.r (w.heap.size + 1 + 1, [.int .u64 r.x0, .int .u64 r.x1, .int .u64 r.x2, .int .u64 r.x3]) (by simp)).1
  have rU := (MN.out.r (w.heap.size + 1 + 1 + 1, [.int .u64 u.x0, .int .u64 u.x1, .int .u64 u.x2, .int .u64 u.x3]) (by simp)).1
  have rV := (MN.out.r (T9, [.int .u64 v.x0, .int .u64 v.x1, .int .u64 v.x2, .int .u64 v.x3]) (by simp)).1
  have tZ := (MN.out.r (w.heap.size + 1 + 1 + 1 + 1, [.int .u64 0, .int .u64 0, .int .u64 0, .int .u64 0, .int .u64 0, .int .u64 0, .int .u64 0, .int .u64 0, .slice none 0 0, .slice none 0 0]) (by simp)).2.1
  have c40 := rP 0 _ rfl
  have c41 := rP 1 _ rfl
  have c42 := rP 2 _ rfl
  have c43 := rP 3 _ rfl
  have d40 := rP 4 _ rfl
  have d41 := rP 5 _ rfl
  have d42 := rP 6 _ rfl
  have d43 := rP 7 _ rfl
  have c50 := rL 0 _ rfl
  have c51 := rL 1 _ rfl
  have c52 := rL 2 _ rfl
  have c53 := rL 3 _ rfl
  have c60 := rR 0 _ rfl
  have c61 := rR 1 _ rfl
  have c62 := rR 2 _ rfl
  have c63 := rR 3 _ rfl
  have c70 := rU 0 _ rfl
  have c71 := rU 1 _ rfl
  have c72 := rU 2 _ rfl
  have c73 := rU 3 _ rfl
  have c90 := rV 0 _ rfl
  have c91 := rV 1 _ rfl
  have c92 := rV 2 _ rfl
  have c93 := rV 3 _ rfl
  have g4 := rP 8 _ rfl
  have k4 := rP 9 _ rfl
  simp only [Nat.zero_add] at c40 c41 c42 c43 d40 d41 d42 d43 c50 c51 c52 c53 c60 c61 c62 c63 c70 c71 c72 c73 c90 c91 c92 c93 g4 k4
  have BX := MN.out.bel
  have okv : v.ok := by rw [← HV.out]; exact lst_ok _
  have TT : ∀ y, wx.grownBy y (some (w.heap.size + 1 + 1 + 1 + 1)) → Tb y := fun y hy => (hT.keep BX).keep0 hy (by have h9 := World.block_lt_of_cell? w _ hT.1; simp only at h9; omega)
  have RR : ∀ {y : World} {b o : Nat} {f : Nat → E4}, wx.grownBy y (some (w.heap.size + 1 + 1 + 1 + 1)) → Rl w b o (2 * h) f → Rl y b o (2 * h) f := fun {y b o f} hy hr => by
    have hb := World.block_lt_of_cell? w _ (hr.c0 0 (by omega))
    have r2 := hr.keep BX
    have ne : ∀ j, some (⟨b, j, none⟩ : Addr).block ≠ some (w.heap.size + 1 + 1 + 1 + 1) := fun j e => by have := Option.some.inj e; simp only at this hb; omega
    exact ⟨fun k hk => hy.cell (r2.c0 k hk) (ne _), fun k hk => hy.cell (r2.c1 k hk) (ne _), fun k hk => hy.cell (r2.c2 k hk) (ne _), fun k hk => hy.cell (r2.c3 k hk) (ne _)⟩
  have MU := fun (a b c : E4) (oa : a.ok) (ob : b.ok) (e : lst (a.n * b.n) = c) y hy => (fix (Mul_any a b y (TT y hy) oa ob) e)
  have TI := fun (a b c : E4) (oa : a.ok) (ob : b.ok) (e : lst (a.n * b.n) = c) y hy => (show Calls Tryd.prog 67 #[a.v, b.v] y fun e w' => e = .returned c.v ∧ Below y.heap.size y w' by rw [← e]; exact lTimes_any a b oa ob y (TT y hy))
  have AD := fun (a b c : E4) (oa : a.ok) (ob : b.ok) (e : lst (a.n + b.n) = c) y hy => (show Calls Tryd.prog 65 #[a.v, b.v] y fun e w' => e = .returned c.v ∧ Below y.heap.size y w' by rw [← e]; exact lAdd_any a b oa ob y (TT y hy))
  refine fo2 _ (w.heap.size) (w.heap.size + 1) (w.heap.size + 1 + 1) (w.heap.size + 1 + 1 + 1) (w.heap.size + 1 + 1 + 1 + 1) T9 h gb go gc hb ho hc l r u v p q (lst (u.n * u.n)) (lst (l.n * (lst (u.n * u.n)).n)) (lst ((lst (l.n * (lst (u.n * u.n)).n)).n + p.n)) (lst (v.n * v.n)) (lst (r.n * (lst (v.n * v.n)).n)) _ (bd v u h fg) (bd u v h fh) _ _ _ _ _ _ _ _ _ _ _ _ _ _ _ _ _ _ _ _ _ _ _ _ _ _ _ _ _ _ _ _ _ _ _ _ _ wx (by omega) (by omega) (by omega) (by omega) (by have := W5.out; omega) tZ c40 c41 c42 c43 d40 d41 d42 d43 g4 k4 c50 c51 c52 c53 c60 c61 c62 c63 c70 c71 c72 c73 c90 c91 c92 c93
    (hidden (MU u u _ ou ou rfl)) (hidden (TI l _ _ ol (lst_ok _) rfl)) (hidden (AD _ p _ (lst_ok _) op rfl)) (hidden (MU v v _ okv okv rfl)) (hidden (TI r _ _ or (lst_ok _) rfl)) (hidden (AD _ _ _ (lst_ok _) (lst_ok _) rfl))
    (hidden (fun y hy => blend_any v u gb go h gc fg y (TT y hy) okv ou og h0 hl cg (RR hy rg))) (hidden (fun y hy => blend_any u v hb ho h hc fh y (TT y hy) ou okv oh h0 hl ch (RR hy rh))) (hidden ?_)
  intro g1 g2 wy hby r1 r2 n1 n2
  have TH : wy.there (w.heap.size + 1 + 1 + 1 + 1) 0 10 := there_keepM tZ hby
  obtain ⟨z, hz⟩ : ∃ z, lst ((lst ((lst (l.n * (lst (u.n * u.n)).n)).n + p.n)).n + (lst (r.n * (lst (v.n * v.n)).n)).n) = z := ⟨_, rfl⟩
  have FZ : Hid (fp p l r u = z) := hidden (by unfold fp; rw [HV.out, hz])
  rw [hz]
  have hlt : w.heap.size + 1 + 1 + 1 + 1 < wx.heap.size := (MN.out.r (w.heap.size + 1 + 1 + 1 + 1, [.int .u64 0, .int .u64 0, .int .u64 0, .int .u64 0, .int .u64 0, .int .u64 0, .int .u64 0, .int .u64 0, .slice none 0 0, .slice none 0 0]) (by simp)).2.2.2
  have GS := gb_setCells (w.heap.size + 1 + 1 + 1 + 1) (sc z q (.slice (some ⟨g1, 0, none⟩) h h) (.slice (some ⟨g2, 0, none⟩) h h)) 0 wy
  have LD := hidden (run_loadVar_mid (P := Tryd.prog) (wy.setCells (w.heap.size + 1 + 1 + 1 + 1) 0 (sc z q (.slice (some ⟨g1, 0, none⟩) h h) (.slice (some ⟨g2, 0, none⟩) h h))) (w.heap.size + 1 + 1 + 1 + 1) 0 35 (sc z q (.slice (some ⟨g1, 0, none⟩) h h) (.slice (some ⟨g2, 0, none⟩) h h)) _ (World.rangeAt_setCells_same wy _ 0 _ TH) Tryd.underlying35 rfl stinfo)
  have R1 := hidden (r1.grow GS (by omega))
  have R2 := hidden (r2.grow GS (by omega))
  have BF := hidden ((bl_trans BX hby).grown GS ((bl_trans BX hby).size) (fun j hj => by obtain rfl := Option.some.inj hj; omega))
  have NN := hidden (show w.heap.size ≤ g1 ∧ w.heap.size ≤ g2 from ⟨by omega, by omega⟩)
  unfold sc at LD R1 R2 BF
  generalize wy.setCells (w.heap.size + 1 + 1 + 1 + 1) 0 [.int .u64 z.x0, .int .u64 z.x1, .int .u64 z.x2, .int .u64 z.x3, .int .u64 q.x0, .int .u64 q.x1, .int .u64 q.x2, .int .u64 q.x3, .slice (some ⟨g1, 0, none⟩) h h, .slice (some ⟨g2, 0, none⟩) h h] = wz at LD R1 R2 BF ⊢
  clear GS TH c40 c41 c42 c43 d40 d41 d42 d43 g4 k4 c50 c51 c52 c53 c60 c61 c62 c63 c70 c71 c72 c73 c90 c91 c92 c93 rP rL rR rU rV tZ MU TI AD TT RR r1 r2 hby BX
  go_wp2_with fail
  refine bodyPost_ret (v := .agg [.int .u64 z.x0, .int .u64 z.x1, .int .u64 z.x2, .int .u64 z.x3, .int .u64 q.x0, .int .u64 q.x1, .int .u64 q.x2, .int .u64 q.x3, .slice (some ⟨g1, 0, none⟩) h h, .slice (some ⟨g2, 0, none⟩) h h].toArray) (results_cellM Tryd.results36 _ _ _ _ _ (by rfl) LD.out) rfl ?_
  refine ⟨g1, g2, by rw [FZ.out]; rfl, NN.out.1, NN.out.2, by rw [HV.out]; exact R1.out, by rw [HV.out]; exact R2.out, BF.out⟩
end Go.Proofs.YtaejedhdpilhjaaDoor
