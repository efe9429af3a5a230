import Derived.Test.YtlijigolfggcfaaDoorHn
import Derived.Deep.RegionLaw
namespace Go.Proofs.YtlijigolfggcfaaDoor
open Go.RowKit
set_option linter.unusedVariables false
theorem step_append_E {P : Program} {ops : Array Oper} {o : Oper} {a : Act} {w : World} {K : Act → World → Prop} {Q : Exit → Act → World → Prop} {E : Prop}
    (hg : o.guard = none) (s x : Operand) (t : TypeId) (hop : o.op = Op.call { callee := Callee.builtin Builtin.append, args := #[s, x], argTypes := #[t, t] })
    (e : TypeId) (i : TypeInfo) (z : Value) (size bytes : Nat) (ht : P.underlying t = some (.slice e)) (hi : P.info? e = some i) (hz : i.zero = some z)
    (hsize : i.size = size) (hby : i.bytes = bytes) (hzs : z.cells.size = size) (hsz : 0 < size)
    (hs : a.eval s = .slice none 0 0)
    (ad : Addr) (m c : Nat) (news : List Value) (hx : a.eval x = .slice (some ad) m c) (hl : news.length = m * size) (hnews : ∀ j u, news[j]? = some u → w.cell? (ad.add j) = some u) (h1 : ∀ u ∈ news, u.oneCell' = true)
    (h63 : m ≤ maxLen) (hbytes : m * bytes ≤ 140737488355328)
    (h : ∀ v' w', w'.ownsRow w.heap.size e size v' m news → Below w.heap.size w w' → K (a.put o.dst v') w') :
    if Region.wanted o (yielded ops a.tmps) = true then Oper.wp P o a w K Q else E := by
  have hw : Region.wanted o (yielded ops a.tmps) = true := by simp [Region.wanted, hg]
  rw [if_pos hw]
  have ho := World.ownsRow_nil w w.heap.size e size
  obtain ⟨v', w', hr, h2, h3, _, _⟩ := run_append_own_at (P := P) w w.heap.size t o.type e i z size bytes ht hi hz hsize hby hzs hsz _ 0 [] ho ad m c news hl hnews h1 (by omega) (by rw [Nat.zero_add]; exact hbytes) (Nat.le_refl _)
  unfold Oper.wp
  simp only [execOp, hop, resolve, invoke, builtin, Sem.run_bind, Sem.run_pure, Result.andThen_ok, List.map_toArray, List.map_cons, List.map_nil, hs, hx, hr]
  rw [Nat.zero_add, List.nil_append] at h2
  exact h v' w' h2 (below_grown h3 (Nat.le_refl _) (fun k hk => (ho.lt k hk).1))
theorem step_append_N {P : Program} {ops : Array Oper} {o : Oper} {a : Act} {w : World} {K : Act → World → Prop} {Q : Exit → Act → World → Prop} {E : Prop}
    (hg : o.guard = none) (s x : Operand) (t : TypeId) (hop : o.op = Op.call { callee := Callee.builtin Builtin.append, args := #[s, x], argTypes := #[t, t] })
    (e : TypeId) (i : TypeInfo) (size : Nat) (ht : P.underlying t = some (.slice e)) (hi : P.info? e = some i) (hsize : i.size = size)
    (hs : a.eval s = .slice none 0 0) (hx : a.eval x = .slice none 0 0)
    (h : K (a.put o.dst (.slice none 0 0)) w) :
    if Region.wanted o (yielded ops a.tmps) = true then Oper.wp P o a w K Q else E := by
  have hw : Region.wanted o (yielded ops a.tmps) = true := by simp [Region.wanted, hg]
  rw [if_pos hw]
  have hr := run_append_owned_none (P := P) w w.heap.size t o.type e i size ht hi _ _ _ (World.ownsRow_nil w w.heap.size e size)
  unfold Oper.wp
  simp only [execOp, hop, resolve, invoke, builtin, Sem.run_bind, Sem.run_pure, Result.andThen_ok, List.map_toArray, List.map_cons, List.map_nil, hs, hx, hr]
  exact h
theorem frozen_keepE {w w' : World} {a : Addr} (h : w.frozen? a = false) (hb : Below w.heap.size w w') (hl : a.block < w.heap.size) : w'.frozen? a = false := by
  have := hb.block _ hl
  simp only [World.frozen?] at h ⊢
  rw [this]
  exact h
theorem own_shapeG' {w : World} {base n s c : Nat} {e : TypeId} {ad : Addr} {xs : List Value} (h : w.ownsRow base e s (.slice (some ad) n c) n xs) : ∃ g cc : Nat, Value.slice (some ad) n c = .slice (some ⟨g, 0, none⟩) n cc ∧ n ≤ cc ∧ base ≤ g ∧ g < w.heap.size := by
  have hl := h.lt
  rcases h.2 with ⟨h0, _⟩ | ⟨g, cap, cur, h1, hB, _, hnc, _⟩
  · simp at h0
  · rw [h1] at hl
    exact ⟨g, cap, h1, hnc, hB, (hl g rfl).2⟩
theorem evs_off {w : World} {B L g c F M : Nat} {f : Nat → E4} (h : w.ownsRow B 44 26 (.slice (some ⟨g, 0, none⟩) L c) L (evs L f)) (hm : F + M ≤ L) : ∀ j u, (evs M fun k => f (F + k))[j]? = some u → w.cell? ((⟨g, F * 26, none⟩ : Addr).add j) = some u := fun j u hu => by
  have hj : j < M * 26 := by have := (List.getElem?_eq_some_iff.1 hu).1; rw [evs_len] at this; exact this
  have e1 : j = (j / 26) * 26 + j % 26 := by omega
  have hk : j / 26 < M := by omega
  rw [e1, evs_get hk (by omega)] at hu
  rw [Addr.add_lit, show F * 26 + j = (F + j / 26) * 26 + j % 26 by omega, h.cellAt _ (by omega), evs_get (by omega) (by omega)]
  exact hu
def rp6o : Array Oper := #[{ dst := some 56, op := Op.fieldAddr 47 (Operand.tmp 8) 4, type := 0, pos := "ref.go:130", after := #[], guard := none },
  { dst := some 57, op := Op.load 45 (Operand.tmp 56), type := 45, pos := "ref.go:130", after := #[{ on := 0, ground := Ground.data }], guard := none },
  { dst := some 58, op := Op.fieldAddr 47 (Operand.tmp 3) 4, type := 0, pos := "ref.go:130", after := #[], guard := none },
  { dst := some 59, op := Op.load 45 (Operand.tmp 58), type := 45, pos := "ref.go:130", after := #[{ on := 2, ground := Ground.data }], guard := none },
  { dst := some 60, op := Op.move (Operand.tmp 1), type := 3, pos := "ref.go:130", after := #[], guard := none },
  { dst := some 61, op := Op.move (Operand.tmp 1), type := 3, pos := "ref.go:130", after := #[], guard := none },
  { dst := some 62, op := Op.move (Operand.tmp 2), type := 3, pos := "ref.go:130", after := #[], guard := none },
  { dst := some 63, op := Op.binOp BinOp.add 3 (Operand.tmp 61) (Operand.tmp 62) 3, type := 3, pos := "ref.go:130", after := #[{ on := 5, ground := Ground.data }, { on := 6, ground := Ground.data }], guard := none },
  { dst := some 64, op := Op.slice 45 (Operand.tmp 59) (some (Operand.tmp 60)) (some (Operand.tmp 63)) none, type := 45, pos := "ref.go:130", after := #[{ on := 3, ground := Ground.data }, { on := 4, ground := Ground.data }, { on := 7, ground := Ground.data }], guard := none },
  { dst := some 65, op := Op.call { callee := Callee.builtin Builtin.append, args := #[Operand.tmp 57, Operand.tmp 64], argTypes := #[45, 45] }, type := 45, pos := "ref.go:130", after := #[{ on := 1, ground := Ground.data }, { on := 8, ground := Ground.data }], guard := none },
  { dst := some 66, op := Op.fieldAddr 47 (Operand.tmp 8) 4, type := 0, pos := "ref.go:130", after := #[{ on := 0, ground := Ground.phase }, { on := 1, ground := Ground.phase }, { on := 2, ground := Ground.phase }, { on := 3, ground := Ground.phase }, { on := 4, ground := Ground.phase }, { on := 5, ground := Ground.phase }, { on := 6, ground := Ground.phase }, { on := 7, ground := Ground.phase }, { on := 8, ground := Ground.phase }, { on := 9, ground := Ground.phase }], guard := none },
  { dst := none, op := Op.store 45 (Operand.tmp 66) (Operand.tmp 65), type := 0, pos := "ref.go:130", after := #[{ on := 10, ground := Ground.data }, { on := 9, ground := Ground.data }, { on := 9, ground := Ground.chain }, { on := 0, ground := Ground.phase }, { on := 1, ground := Ground.phase }, { on := 2, ground := Ground.phase }, { on := 3, ground := Ground.phase }, { on := 4, ground := Ground.phase }, { on := 5, ground := Ground.phase }, { on := 6, ground := Ground.phase }, { on := 7, ground := Ground.phase }, { on := 8, ground := Ground.phase }, { on := 9, ground := Ground.phase }], guard := none }]
theorem rp6 (Q : Exit → Act → World → Prop) (T3 T8 F M L c B : Nat) (P : Option Addr) (f : Nat → E4) (x0 x4 x5 x6 x7 x9 x10 x11 x12 x13 x14 x15 x16 x17 x18 x19 x20 x21 x22 x23 x24 x25 x26 x27 x28 x29 x30 x31 x32 x33 x34 x35 x36 x37 x38 x39 x40 x41 x42 x43 x44 x45 x46 x47 x48 x49 x50 x51 x52 x53 x54 x55 x56 x57 x58 x59 x60 x61 x62 x63 x64 x65 x66 x67 x68 x69 x70 x71 x72 x73 x74 x75 x76 x77 x78 : Value) (w : World) (hL : L ≤ 1048576) (hF : F + M ≤ L) (ho : w.ownsRow B 44 26 (.slice P L c) L (evs L f))
    (c3 : w.cell? ⟨T3, 79, none⟩ = some (.slice P L c)) (c8 : w.cell? ⟨T8, 79, none⟩ = some (.slice none 0 0)) (f8 : w.frozen? ⟨T8, 79, none⟩ = false)
    (HQ : Hid (∀ (z56 z57 z58 z59 z60 z61 z62 z63 z64 z65 z66 v' : Value) (w5 : World), w5.ownsRow w.heap.size 44 26 v' M (evs M fun k => f (F + k)) → Below w.heap.size w w5 → Q .normal ⟨#[x0, .int .i64 (F : Int), .int .i64 (M : Int), .pointer (some ⟨T3, 0, none⟩), x4, x5, x6, x7, .pointer (some ⟨T8, 0, none⟩), x9, x10, x11, x12, x13, x14, x15, x16, x17, x18, x19, x20, x21, x22, x23, x24, x25, x26, x27, x28, x29, x30, x31, x32, x33, x34, x35, x36, x37, x38, x39, x40, x41, x42, x43, x44, x45, x46, x47, x48, x49, x50, x51, x52, x53, x54, x55, z56, z57, z58, z59, z60, z61, z62, z63, z64, z65, z66, x67, x68, x69, x70, x71, x72, x73, x74, x75, x76, x77, x78], []⟩ (w5.setCell ⟨T8, 79, none⟩ v'))) : (Code.region 6 rp6o true).wp Tryd.prog Q ⟨#[x0, .int .i64 (F : Int), .int .i64 (M : Int), .pointer (some ⟨T3, 0, none⟩), x4, x5, x6, x7, .pointer (some ⟨T8, 0, none⟩), x9, x10, x11, x12, x13, x14, x15, x16, x17, x18, x19, x20, x21, x22, x23, x24, x25, x26, x27, x28, x29, x30, x31, x32, x33, x34, x35, x36, x37, x38, x39, x40, x41, x42, x43, x44, x45, x46, x47, x48, x49, x50, x51, x52, x53, x54, x55, x56, x57, x58, x59, x60, x61, x62, x63, x64, x65, x66, x67, x68, x69, x70, x71, x72, x73, x74, x75, x76, x77, x78], []⟩ w := by
  have L8 : Hid (T8 < w.heap.size) := hidden (World.block_lt_of_cell? w _ c8)
  obtain ⟨i0, hi, hz0, hz1, hz2⟩ := info_parts einfoZ
  have HI := hidden hi
  have HZ0 := hidden hz0
  have HZ1 := hidden hz1
  have HZ2 := hidden hz2
  have HU : Hid (Tryd.prog.underlying 45 = some (.slice 44)) := hidden (by kernel_rfl)
  have n1 : IntKind.i64.wrap ((F : Int) + (M : Int)) = (F : Int) + (M : Int) := IntWalk.i64_in _ (by omega)
  have n2 : (0 : Int) ≤ (F : Int) := by omega
  have n3 : F ≤ ((F : Int) + (M : Int)).toNat := by omega
  have n5 : ((F : Int) + (M : Int)).toNat - F = M := by omega
  have c3d : w.drew.cell? ⟨T3, 79, none⟩ = some (.slice P L c) := c3
  have c8d : w.drew.cell? ⟨T8, 79, none⟩ = some (.slice none 0 0) := c8
  clear hi hz0 hz1 hz2
  unfold rp6o
  refine wp_region_noPanic ?_
  cases P with
  | none =>
    have h00 : L = 0 ∧ c = 0 := by
      rcases ho.2 with ⟨h0, _⟩ | ⟨g, cap, cur, h1, _⟩
      · simp only [Value.slice.injEq, true_and] at h0; exact h0
      · simp at h1
    obtain ⟨rfl, rfl⟩ := h00
    obtain ⟨rfl, rfl⟩ : F = 0 ∧ M = 0 := by omega
    have HO := hidden (World.ownsRow_nil w w.heap.size 44 26)
    have p0 : IntKind.i64.wrap 0 = 0 := rfl
    have f8d : w.drew.frozen? ⟨T8, 79, none⟩ = false := f8
    go_region_law (first | (refine step_append_N rfl (.tmp 57) (.tmp 64) 45 rfl 44 i0 26 HU.out HI.out HZ1.out rfl rfl ?_))
    all_goals exact HQ.out _ _ _ _ _ _ _ _ _ _ _ _ _ HO.out.drew (drew_blW w)
  | some ad =>
    obtain ⟨gg, cc, e1, hcc, _, _⟩ := own_shapeG' ho
    simp only [Value.slice.injEq, Option.some.injEq] at e1
    obtain ⟨rfl, -, rfl⟩ := e1
    have n4 : (0 : Int) ≤ (F : Int) + (M : Int) ∧ (F : Int) + (M : Int) ≤ (c : Int) := by omega
    by_cases hcF : c = F
    · subst hcF
      obtain rfl : M = 0 := by omega
      have p1 : IntKind.i64.wrap (c : Int) = (c : Int) := IntWalk.i64_in _ (by omega)
      go_region_law (first | (refine step_append_E rfl (.tmp 57) (.tmp 64) 45 rfl 44 i0 _ 26 224 HU.out HI.out HZ0.out HZ1.out HZ2.out rfl (by decide) rfl ⟨gg, 0, none⟩ 0 0 (evs 0 fun k => f (c + k)) rfl (evs_len _ _) (fun j u hu => by simp [evs] at hu) (evs_one _ _) (by unfold maxLen; omega) (by omega) ?_; intro v5 w5 ho hb; obtain ⟨P5, c5, rfl⟩ := own_shapeP8 ho; have HO := hidden ho; have HB := hidden (bl_trans (drew_blW w) hb); have y0 := cell_keep c8 HB.out; have g0 := frozen_keepE f8 HB.out L8.out; clear ho hb))
      all_goals exact HQ.out _ _ _ _ _ _ _ _ _ _ _ _ _ HO.out HB.out
    · have HN := hidden (evs_off (w := w.drew) (f := f) (F := F) (M := M) ho.drew hF)
      go_region_law (first | (refine step_append_E rfl (.tmp 57) (.tmp 64) 45 rfl 44 i0 _ 26 224 HU.out HI.out HZ0.out HZ1.out HZ2.out rfl (by decide) rfl ⟨gg, F * 26, none⟩ M (c - F) (evs M fun k => f (F + k)) rfl (evs_len _ _) HN.out (evs_one _ _) (by unfold maxLen; omega) (by omega) ?_; intro v5 w5 ho hb; obtain ⟨P5, c5, rfl⟩ := own_shapeP8 ho; have HO := hidden ho; have HB := hidden (bl_trans (drew_blW w) hb); have y0 := cell_keep c8 HB.out; have g0 := frozen_keepE f8 HB.out L8.out; clear ho hb))
      all_goals exact HQ.out _ _ _ _ _ _ _ _ _ _ _ _ _ HO.out HB.out
def rp7o : Array Oper := #[{ dst := some 67, op := Op.fieldAddr 47 (Operand.tmp 8) 5, type := 0, pos := "ref.go:131", after := #[], guard := none },
  { dst := some 68, op := Op.load 45 (Operand.tmp 67), type := 45, pos := "ref.go:131", after := #[{ on := 0, ground := Ground.data }], guard := none },
  { dst := some 69, op := Op.fieldAddr 47 (Operand.tmp 3) 5, type := 0, pos := "ref.go:131", after := #[], guard := none },
  { dst := some 70, op := Op.load 45 (Operand.tmp 69), type := 45, pos := "ref.go:131", after := #[{ on := 2, ground := Ground.data }], guard := none },
  { dst := some 71, op := Op.move (Operand.tmp 1), type := 3, pos := "ref.go:131", after := #[], guard := none },
  { dst := some 72, op := Op.move (Operand.tmp 1), type := 3, pos := "ref.go:131", after := #[], guard := none },
  { dst := some 73, op := Op.move (Operand.tmp 2), type := 3, pos := "ref.go:131", after := #[], guard := none },
  { dst := some 74, op := Op.binOp BinOp.add 3 (Operand.tmp 72) (Operand.tmp 73) 3, type := 3, pos := "ref.go:131", after := #[{ on := 5, ground := Ground.data }, { on := 6, ground := Ground.data }], guard := none },
  { dst := some 75, op := Op.slice 45 (Operand.tmp 70) (some (Operand.tmp 71)) (some (Operand.tmp 74)) none, type := 45, pos := "ref.go:131", after := #[{ on := 3, ground := Ground.data }, { on := 4, ground := Ground.data }, { on := 7, ground := Ground.data }], guard := none },
  { dst := some 76, op := Op.call { callee := Callee.builtin Builtin.append, args := #[Operand.tmp 68, Operand.tmp 75], argTypes := #[45, 45] }, type := 45, pos := "ref.go:131", after := #[{ on := 1, ground := Ground.data }, { on := 8, ground := Ground.data }], guard := none },
  { dst := some 77, op := Op.fieldAddr 47 (Operand.tmp 8) 5, type := 0, pos := "ref.go:131", after := #[{ on := 0, ground := Ground.phase }, { on := 1, ground := Ground.phase }, { on := 2, ground := Ground.phase }, { on := 3, ground := Ground.phase }, { on := 4, ground := Ground.phase }, { on := 5, ground := Ground.phase }, { on := 6, ground := Ground.phase }, { on := 7, ground := Ground.phase }, { on := 8, ground := Ground.phase }, { on := 9, ground := Ground.phase }], guard := none },
  { dst := none, op := Op.store 45 (Operand.tmp 77) (Operand.tmp 76), type := 0, pos := "ref.go:131", after := #[{ on := 10, ground := Ground.data }, { on := 9, ground := Ground.data }, { on := 9, ground := Ground.chain }, { on := 0, ground := Ground.phase }, { on := 1, ground := Ground.phase }, { on := 2, ground := Ground.phase }, { on := 3, ground := Ground.phase }, { on := 4, ground := Ground.phase }, { on := 5, ground := Ground.phase }, { on := 6, ground := Ground.phase }, { on := 7, ground := Ground.phase }, { on := 8, ground := Ground.phase }, { on := 9, ground := Ground.phase }], guard := none }]
theorem rp7 (Q : Exit → Act → World → Prop) (T3 T8 F M L c B : Nat) (P : Option Addr) (f : Nat → E4) (x0 x4 x5 x6 x7 x9 x10 x11 x12 x13 x14 x15 x16 x17 x18 x19 x20 x21 x22 x23 x24 x25 x26 x27 x28 x29 x30 x31 x32 x33 x34 x35 x36 x37 x38 x39 x40 x41 x42 x43 x44 x45 x46 x47 x48 x49 x50 x51 x52 x53 x54 x55 x56 x57 x58 x59 x60 x61 x62 x63 x64 x65 x66 x67 x68 x69 x70 x71 x72 x73 x74 x75 x76 x77 x78 : Value) (w : World) (hL : L ≤ 1048576) (hF : F + M ≤ L) (ho : w.ownsRow B 44 26 (.slice P L c) L (evs L f))
    (c3 : w.cell? ⟨T3, 80, none⟩ = some (.slice P L c)) (c8 : w.cell? ⟨T8, 80, none⟩ = some (.slice none 0 0)) (f8 : w.frozen? ⟨T8, 80, none⟩ = false)
    (HQ : Hid (∀ (z67 z68 z69 z70 z71 z72 z73 z74 z75 z76 z77 v' : Value) (w5 : World), w5.ownsRow w.heap.size 44 26 v' M (evs M fun k => f (F + k)) → Below w.heap.size w w5 → Q .normal ⟨#[x0, .int .i64 (F : Int), .int .i64 (M : Int), .pointer (some ⟨T3, 0, none⟩), x4, x5, x6, x7, .pointer (some ⟨T8, 0, none⟩), x9, x10, x11, x12, x13, x14, x15, x16, x17, x18, x19, x20, x21, x22, x23, x24, x25, x26, x27, x28, x29, x30, x31, x32, x33, x34, x35, x36, x37, x38, x39, x40, x41, x42, x43, x44, x45, x46, x47, x48, x49, x50, x51, x52, x53, x54, x55, x56, x57, x58, x59, x60, x61, x62, x63, x64, x65, x66, z67, z68, z69, z70, z71, z72, z73, z74, z75, z76, z77, x78], []⟩ (w5.setCell ⟨T8, 80, none⟩ v'))) : (Code.region 7 rp7o true).wp Tryd.prog Q ⟨#[x0, .int .i64 (F : Int), .int .i64 (M : Int), .pointer (some ⟨T3, 0, none⟩), x4, x5, x6, x7, .pointer (some ⟨T8, 0, none⟩), x9, x10, x11, x12, x13, x14, x15, x16, x17, x18, x19, x20, x21, x22, x23, x24, x25, x26, x27, x28, x29, x30, x31, x32, x33, x34, x35, x36, x37, x38, x39, x40, x41, x42, x43, x44, x45, x46, x47, x48, x49, x50, x51, x52, x53, x54, x55, x56, x57, x58, x59, x60, x61, x62, x63, x64, x65, x66, x67, x68, x69, x70, x71, x72, x73, x74, x75, x76, x77, x78], []⟩ w := by
  have L8 : Hid (T8 < w.heap.size) := hidden (World.block_lt_of_cell? w _ c8)
  obtain ⟨i0, hi, hz0, hz1, hz2⟩ := info_parts einfoZ
  have HI := hidden hi
  have HZ0 := hidden hz0
  have HZ1 := hidden hz1
  have HZ2 := hidden hz2
  have HU : Hid (Tryd.prog.underlying 45 = some (.slice 44)) := hidden (by kernel_rfl)
  have n1 : IntKind.i64.wrap ((F : Int) + (M : Int)) = (F : Int) + (M : Int) := IntWalk.i64_in _ (by omega)
  have n2 : (0 : Int) ≤ (F : Int) := by omega
  have n3 : F ≤ ((F : Int) + (M : Int)).toNat := by omega
  have n5 : ((F : Int) + (M : Int)).toNat - F = M := by omega
  have c3d : w.drew.cell? ⟨T3, 80, none⟩ = some (.slice P L c) := c3
  have c8d : w.drew.cell? ⟨T8, 80, none⟩ = some (.slice none 0 0) := c8
  clear hi hz0 hz1 hz2
  unfold rp7o
  refine wp_region_noPanic ?_
  cases P with
  | none =>
    have h00 : L = 0 ∧ c = 0 := by
      rcases ho.2 with ⟨h0, _⟩ | ⟨g, cap, cur, h1, _⟩
      · simp only [Value.slice.injEq, true_and] at h0; exact h0
      · simp at h1
    obtain ⟨rfl, rfl⟩ := h00
    obtain ⟨rfl, rfl⟩ : F = 0 ∧ M = 0 := by omega
    have HO := hidden (World.ownsRow_nil w w.heap.size 44 26)
    have p0 : IntKind.i64.wrap 0 = 0 := rfl
    have f8d : w.drew.frozen? ⟨T8, 80, none⟩ = false := f8
    go_region_law (first | (refine step_append_N rfl (.tmp 68) (.tmp 75) 45 rfl 44 i0 26 HU.out HI.out HZ1.out rfl rfl ?_))
    all_goals exact HQ.out _ _ _ _ _ _ _ _ _ _ _ _ _ HO.out.drew (drew_blW w)
  | some ad =>
    obtain ⟨gg, cc, e1, hcc, _, _⟩ := own_shapeG' ho
    simp only [Value.slice.injEq, Option.some.injEq] at e1
    obtain ⟨rfl, -, rfl⟩ := e1
    have n4 : (0 : Int) ≤ (F : Int) + (M : Int) ∧ (F : Int) + (M : Int) ≤ (c : Int) := by omega
    by_cases hcF : c = F
    · subst hcF
      obtain rfl : M = 0 := by omega
      have p1 : IntKind.i64.wrap (c : Int) = (c : Int) := IntWalk.i64_in _ (by omega)
      go_region_law (first | (refine step_append_E rfl (.tmp 68) (.tmp 75) 45 rfl 44 i0 _ 26 224 HU.out HI.out HZ0.out HZ1.out HZ2.out rfl (by decide) rfl ⟨gg, 0, none⟩ 0 0 (evs 0 fun k => f (c + k)) rfl (evs_len _ _) (fun j u hu => by simp [evs] at hu) (evs_one _ _) (by unfold maxLen; omega) (by omega) ?_; intro v5 w5 ho hb; obtain ⟨P5, c5, rfl⟩ := own_shapeP8 ho; have HO := hidden ho; have HB := hidden (bl_trans (drew_blW w) hb); have y0 := cell_keep c8 HB.out; have g0 := frozen_keepE f8 HB.out L8.out; clear ho hb))
      all_goals exact HQ.out _ _ _ _ _ _ _ _ _ _ _ _ _ HO.out HB.out
    · have HN := hidden (evs_off (w := w.drew) (f := f) (F := F) (M := M) ho.drew hF)
      go_region_law (first | (refine step_append_E rfl (.tmp 68) (.tmp 75) 45 rfl 44 i0 _ 26 224 HU.out HI.out HZ0.out HZ1.out HZ2.out rfl (by decide) rfl ⟨gg, F * 26, none⟩ M (c - F) (evs M fun k => f (F + k)) rfl (evs_len _ _) HN.out (evs_one _ _) (by unfold maxLen; omega) (by omega) ?_; intro v5 w5 ho hb; obtain ⟨P5, c5, rfl⟩ := own_shapeP8 ho; have HO := hidden ho; have HB := hidden (bl_trans (drew_blW w) hb); have y0 := cell_keep c8 HB.out; have g0 := frozen_keepE f8 HB.out L8.out; clear ho hb))
      all_goals exact HQ.out _ _ _ _ _ _ _ _ _ _ _ _ _ HO.out HB.out
end Go.Proofs.YtlijigolfggcfaaDoor
