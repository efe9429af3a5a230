import Derived.Test.YtjfffeolkellgaaDoorGj
namespace Go.Proofs.YtjfffeolkellgaaDoor
open Go.RowKit
theorem wp_append_own_atG {P : Program} {w : World} {o : Oper} {a : Act} {K : Act → World → Prop} {Q : Exit → Act → World → Prop} (s x : Operand) (t : TypeId)
    (ho : o.op = .call { callee := .builtin .append, args := #[s, x], argTypes := #[t, t] })
    (base : Nat) (e : TypeId) (i : TypeInfo) (z : Value) (size bytes : Nat) (ht : P.underlying t = some (.slice e)) (hi : P.info? e = some i) (hz : i.zero = some z)
    (hsize : i.size = size) (hby : i.bytes = bytes) (hzs : z.cells.size = size) (hsz : 0 < size)
    (v : Value) (n : Nat) (xs : List Value) (hs : a.eval s = v) (hown : w.ownsRow base e size v n xs)
    (ad : Addr) (m c : Nat) (news : List Value) (hx : a.eval x = .slice (some ad) m c) (hl : news.length = m * size) (hnews : ∀ j u, news[j]? = some u → w.cell? (ad.add j) = some u) (h1 : ∀ u ∈ news, u.oneCell' = true)
    (h63 : n + m ≤ maxLen) (hbytes : (n + m) * bytes ≤ 140737488355328) (hbase : base ≤ w.heap.size)
    (h : ∀ v' w', w'.ownsRow base e size v' (n + m) (xs ++ news) → w.grownBy w' v.ownBlock → (v'.ownBlock = v.ownBlock ∨ v'.ownBlock = some w.heap.size) → K (a.put o.dst v') w') : o.wp P a w K Q := by
  obtain ⟨v', w', hr, h2, h3, h4, h5⟩ := run_append_own_at (P := P) w base t o.type e i z size bytes ht hi hz hsize hby hzs hsz v n xs hown ad m c news hl hnews h1 h63 hbytes hbase
  unfold Oper.wp execOp
  simp only [ho, resolve, invoke, builtin, Sem.run_bind, Sem.run_pure, Result.andThen_ok, List.map_toArray, List.map_cons, List.map_nil, hs, hx, hr]
  exact h v' w' h2 h3 h5
theorem wp_buildE {w : World} {o : Oper} {a : Act} {K : Act → World → Prop} {Q : Exit → Act → World → Prop} (x : Operand) (ho : o.op = .buildSlice 43 1 #[(0, x)]) (P : Option Addr) (n c : Nat) (hx : a.eval x = .agg (fe (.slice P n c)).toArray)
    (h : K (a.put o.dst (.slice (some ⟨w.heap.size, 0, none⟩) 1 1)) (w.alloc (.cells (fe (.slice P n c)).toArray 42))) : o.wp Tryd.prog a w K Q := by
  have hb := buildE P n c w
  generalize fe (.slice P n c) = z at hb hx h
  unfold Oper.wp execOp
  simp only [ho, Sem.run_bind, Sem.run_pure, Result.andThen_ok, List.map_toArray, List.map_cons, List.map_nil, hx, hb]
  exact h
theorem fe_oneL (P : Option Addr) (n c : Nat) : ∀ u ∈ fe (.slice P n c), u.oneCell' = true := by simp [fe, Value.oneCell']
/-- the operations of region 7 -/
def rb7 : Array Oper := #[{ dst := some 22, op := Op.fieldAddr 45 (Operand.tmp 4) 4, type := 0, pos := "ref.go:115", after := #[], guard := none },
  { dst := some 23, op := Op.load 43 (Operand.tmp 22), type := 43, pos := "ref.go:115", after := #[{ on := 0, ground := Ground.data }], guard := none },
  { dst := some 24, op := Op.move (Operand.tmp 5), type := 3, pos := "ref.go:115", after := #[], guard := none },
  { dst := some 25, op := Op.binOp BinOp.add 3 (Operand.const (Value.int IntKind.i64 3)) (Operand.tmp 24) 3, type := 3, pos := "ref.go:115", after := #[{ on := 2, ground := Ground.data }], guard := none },
  { dst := some 26, op := Op.call { callee := Callee.value (Operand.func 21), args := #[Operand.tmp 25], argTypes := #[3] }, type := 42, pos := "ref.go:115", after := #[{ on := 3, ground := Ground.data }], guard := none },
  { dst := some 27, op := Op.buildSlice 43 1 #[(0, Operand.tmp 26)], type := 43, pos := "ref.go:115", after := #[{ on := 4, ground := Ground.data }], guard := none },
  { dst := some 28, op := Op.call { callee := Callee.builtin Builtin.append, args := #[Operand.tmp 23, Operand.tmp 27], argTypes := #[43, 43] }, type := 43, pos := "ref.go:115", after := #[{ on := 1, ground := Ground.data }, { on := 5, ground := Ground.data }, { on := 4, ground := Ground.chain }], guard := none },
  { dst := some 29, op := Op.fieldAddr 45 (Operand.tmp 4) 4, type := 0, pos := "ref.go:115", after := #[{ on := 0, ground := Ground.phase }, { on := 1, ground := Ground.phase }, { on := 2, ground := Ground.phase }, { on := 3, ground := Ground.phase }, { on := 4, ground := Ground.phase }, { on := 5, ground := Ground.phase }, { on := 6, ground := Ground.phase }], guard := none },
  { dst := none, op := Op.store 43 (Operand.tmp 29) (Operand.tmp 28), type := 0, pos := "ref.go:115", after := #[{ on := 7, ground := Ground.data }, { on := 6, ground := Ground.data }, { on := 6, ground := Ground.chain }, { on := 0, ground := Ground.phase }, { on := 1, ground := Ground.phase }, { on := 2, ground := Ground.phase }, { on := 3, ground := Ground.phase }, { on := 4, ground := Ground.phase }, { on := 5, ground := Ground.phase }, { on := 6, ground := Ground.phase }], guard := none }]
set_option maxRecDepth 100000 in
set_option maxHeartbeats 8000000 in
theorem rb7_fin (Q : Exit → Act → World → Prop) (n k s : Nat) (x1 x2 x3 x6 x7 x8 x9 x10 x11 x12 x13 x14 x15 x16 x17 x18 x19 x20 x21 x28 x29 x30 x31 x32 x33 x34 x35 x36 x37 x38 x39 x40 L0 L1 L2 Gv Hv : Value) (w : World) (PP : ∀ d v c a w, Q (.panic c) (a.put d v) w → Q (.panic c) a w) (HQ : Hid (∀ (y cy eb : Nat) (v' : Value) (wz : World), Sr w.heap.size n wz s L0 L1 L2 (k + 1) k v' Hv → Below w.heap.size w wz → Q .normal ⟨#[.int .i64 (n : Int), x1, x2, x3, .pointer (some ⟨s, 0, none⟩), .int .i64 (k : Int), x6, x7, x8, x9, x10, x11, x12, x13, x14, x15, x16, x17, x18, x19, x20, x21, .pointer (some ⟨s, 79, none⟩), Gv, .int .i64 (k : Int), .int .i64 (3 + (k : Int)), .agg (fe (.slice (some ⟨y, 0, none⟩) (3 + k + 1) cy)).toArray, .slice (some ⟨eb, 0, none⟩) 1 1, v', .pointer (some ⟨s, 79, none⟩), x30, x31, x32, x33, x34, x35, x36, x37, x38, x39, x40], []⟩ wz)) (hk : k < n) (hn : n ≤ 64) (y cy eb : Nat) (wx : World) (hS : Below w.heap.size w wx) (hR : Sr w.heap.size n wx s L0 L1 L2 k k Gv Hv) (hL : wx.ownsRow w.heap.size 39 4 (.slice (some ⟨y, 0, none⟩) (3 + k + 1) cy) (3 + k + 1) (svs (3 + k + 1) (uf (3 + k)))) (hE : ∀ j u, (fe (.slice (some ⟨y, 0, none⟩) (3 + k + 1) cy))[j]? = some u → wx.cell? ((⟨eb, 0, none⟩ : Addr).add j) = some u) :
    wpAnyH Tryd.prog .any rb7 Q (fun w' => Below w.heap.size w w') 3 #[true, true, true, true, true, true, false, false, false] ⟨#[.int .i64 (n : Int), x1, x2, x3, .pointer (some ⟨s, 0, none⟩), .int .i64 (k : Int), x6, x7, x8, x9, x10, x11, x12, x13, x14, x15, x16, x17, x18, x19, x20, x21, .pointer (some ⟨s, 79, none⟩), Gv, .int .i64 (k : Int), .int .i64 (3 + (k : Int)), .agg (fe (.slice (some ⟨y, 0, none⟩) (3 + k + 1) cy)).toArray, .slice (some ⟨eb, 0, none⟩) 1 1, x28, x29, x30, x31, x32, x33, x34, x35, x36, x37, x38, x39, x40], []⟩ wx := by
  obtain ⟨f, hG, hf⟩ := hR.g
  obtain ⟨i0, hi, hz0, hz1, hz2⟩ := info_parts einfoZ
  refine wpAnyH_ready (rs := [6]) (by kernel_rfl) (by simp) ?_
  refine AllReadyH.cons (o := { dst := some 28, op := Op.call { callee := Callee.builtin Builtin.append, args := #[Operand.tmp 23, Operand.tmp 27], argTypes := #[43, 43] }, type := 43, pos := "ref.go:115", after := #[{ on := 1, ground := Ground.data }, { on := 5, ground := Ground.data }, { on := 4, ground := Ground.chain }], guard := none }) rfl (fun K hK => ?_) AllReadyH.nil
  refine Eq.mpr (if_pos (by rfl)) ?_
  refine wp_append_own_atG _ _ 43 rfl w.heap.size 42 i0 (.agg ze.toArray) 26 224 (by kernel_rfl) hi hz0 hz1 hz2 rfl (by decide) Gv k (fvs k f) rfl hG ⟨eb, 0, none⟩ 1 1 (fe (.slice (some ⟨y, 0, none⟩) (3 + k + 1) cy)) rfl rfl hE (fe_oneL _ _ _) (by unfold maxLen; omega) (by omega) hS.size ?_
  intro v' w' ho hg hat
  obtain ⟨gz, cz, rfl, _, _, _⟩ := own_shapeG ho (by omega)
  obtain ⟨R2, c1, f1⟩ := hR.addG hL f hf hG ho hg hat
  have hB := below_trans hS (below_grown hg hS.size (fun b hb => (hG.lt b hb).1))
  refine hK.out _ _ hB (fun _ => ?_)
  have B3 : Hid (Below w.heap.size w (w'.setCell ⟨s, 79, none⟩ (.slice (some ⟨gz, 0, none⟩) (k + 1) cz))) := hidden (hB.setCell hR.lt _)
  have R3 := hidden (HQ.out y cy eb _ _ R2 B3.out)
  clear hK K R2 hR hL hE hG hf ho hg hat hi hz0 hz1 hz2
  refine wpAnyH_take (i := 7) (oi := { dst := some 29, op := Op.fieldAddr 45 (Operand.tmp 4) 4, type := 0, pos := "ref.go:115", after := #[{ on := 0, ground := Ground.phase }, { on := 1, ground := Ground.phase }, { on := 2, ground := Ground.phase }, { on := 3, ground := Ground.phase }, { on := 4, ground := Ground.phase }, { on := 5, ground := Ground.phase }, { on := 6, ground := Ground.phase }], guard := none }) (v := .pointer (some ⟨s, 79, none⟩)) rfl (by kernel_rfl) (by kernel_rfl) (by kernel_rfl) (PP _ _) (Or.inl ⟨by rfl, fun w0 hSw => by go_simp⟩) hB ?_
  refine wpAnyH_ready (rs := [8]) (by kernel_rfl) (by simp) ?_
  refine AllReadyH.cons (o := { dst := none, op := Op.store 43 (Operand.tmp 29) (Operand.tmp 28), type := 0, pos := "ref.go:115", after := #[{ on := 7, ground := Ground.data }, { on := 6, ground := Ground.data }, { on := 6, ground := Ground.chain }, { on := 0, ground := Ground.phase }, { on := 1, ground := Ground.phase }, { on := 2, ground := Ground.phase }, { on := 3, ground := Ground.phase }, { on := 4, ground := Ground.phase }, { on := 5, ground := Ground.phase }, { on := 6, ground := Ground.phase }], guard := none }) rfl (fun K hK => ?_) AllReadyH.nil
  go_wp2_with fail
  refine hK.out _ _ B3.out (fun _ => ?_)
  exact wpAnyH_done (by kernel_rfl) R3.out _
set_option maxRecDepth 100000 in
set_option maxHeartbeats 8000000 in
theorem rb7_cl (Q : Exit → Act → World → Prop) (n k s : Nat) (x1 x2 x3 x6 x7 x8 x9 x10 x11 x12 x13 x14 x15 x16 x17 x18 x19 x20 x21 x27 x28 x29 x30 x31 x32 x33 x34 x35 x36 x37 x38 x39 x40 L0 L1 L2 Gv Hv : Value) (w : World) (PP : ∀ d v c a w, Q (.panic c) (a.put d v) w → Q (.panic c) a w) (HQ : Hid (∀ (y cy eb : Nat) (v' : Value) (wz : World), Sr w.heap.size n wz s L0 L1 L2 (k + 1) k v' Hv → Below w.heap.size w wz → Q .normal ⟨#[.int .i64 (n : Int), x1, x2, x3, .pointer (some ⟨s, 0, none⟩), .int .i64 (k : Int), x6, x7, x8, x9, x10, x11, x12, x13, x14, x15, x16, x17, x18, x19, x20, x21, .pointer (some ⟨s, 79, none⟩), Gv, .int .i64 (k : Int), .int .i64 (3 + (k : Int)), .agg (fe (.slice (some ⟨y, 0, none⟩) (3 + k + 1) cy)).toArray, .slice (some ⟨eb, 0, none⟩) 1 1, v', .pointer (some ⟨s, 79, none⟩), x30, x31, x32, x33, x34, x35, x36, x37, x38, x39, x40], []⟩ wz)) (hk : k < n) (hn : n ≤ 64) (y cy : Nat) (w1 : World) (hS : Below w.heap.size w w1) (hR : Sr w.heap.size n w1 s L0 L1 L2 k k Gv Hv) (hL : w1.ownsRow w.heap.size 39 4 (.slice (some ⟨y, 0, none⟩) (3 + k + 1) cy) (3 + k + 1) (svs (3 + k + 1) (uf (3 + k)))) :
    wpAnyH Tryd.prog .any rb7 Q (fun w' => Below w.heap.size w w') 4 #[true, true, true, true, true, false, false, false, false] ⟨#[.int .i64 (n : Int), x1, x2, x3, .pointer (some ⟨s, 0, none⟩), .int .i64 (k : Int), x6, x7, x8, x9, x10, x11, x12, x13, x14, x15, x16, x17, x18, x19, x20, x21, .pointer (some ⟨s, 79, none⟩), Gv, .int .i64 (k : Int), .int .i64 (3 + (k : Int)), .agg (fe (.slice (some ⟨y, 0, none⟩) (3 + k + 1) cy)).toArray, x27, x28, x29, x30, x31, x32, x33, x34, x35, x36, x37, x38, x39, x40], []⟩ w1 := by
  refine wpAnyH_ready (rs := [5]) (by kernel_rfl) (by simp) ?_
  refine AllReadyH.cons (o := { dst := some 27, op := Op.buildSlice 43 1 #[(0, Operand.tmp 26)], type := 43, pos := "ref.go:115", after := #[{ on := 4, ground := Ground.data }], guard := none }) rfl (fun K hK => ?_) AllReadyH.nil
  refine Eq.mpr (if_pos (by rfl)) ?_
  refine wp_buildE _ rfl (some ⟨y, 0, none⟩) (3 + k + 1) cy rfl ?_
  have hb := bl_alloc w1 (.cells (fe (.slice (some ⟨y, 0, none⟩) (3 + k + 1) cy)).toArray 42)
  refine hK.out _ _ (bl_trans hS hb) (fun _ => ?_)
  have hE := cells_new w1 (fe (.slice (some ⟨y, 0, none⟩) (3 + k + 1) cy)) 42
  have hL2 := hL.alloc (.cells (fe (.slice (some ⟨y, 0, none⟩) (3 + k + 1) cy)).toArray 42)
  have hR2 := hR.keep hb
  exact rb7_fin Q n k s x1 x2 x3 x6 x7 x8 x9 x10 x11 x12 x13 x14 x15 x16 x17 x18 x19 x20 x21 x28 x29 x30 x31 x32 x33 x34 x35 x36 x37 x38 x39 x40 L0 L1 L2 Gv Hv w PP HQ hk hn y cy _ _ (bl_trans hS hb) hR2 hL2 hE
set_option maxRecDepth 100000 in
set_option maxHeartbeats 8000000 in
theorem rb7_cb (Q : Exit → Act → World → Prop) (n k s : Nat) (x1 x2 x3 x6 x7 x8 x9 x10 x11 x12 x13 x14 x15 x16 x17 x18 x19 x20 x21 x23 x28 x29 x30 x31 x32 x33 x34 x35 x36 x37 x38 x39 x40 L0 L1 L2 Gv Hv : Value) (w : World) (PP : ∀ d v c a w, Q (.panic c) (a.put d v) w → Q (.panic c) a w) (HQ : Hid (∀ (y cy eb : Nat) (v' : Value) (wz : World), Sr w.heap.size n wz s L0 L1 L2 (k + 1) k v' Hv → Below w.heap.size w wz → Q .normal ⟨#[.int .i64 (n : Int), x1, x2, x3, .pointer (some ⟨s, 0, none⟩), .int .i64 (k : Int), x6, x7, x8, x9, x10, x11, x12, x13, x14, x15, x16, x17, x18, x19, x20, x21, .pointer (some ⟨s, 79, none⟩), Gv, .int .i64 (k : Int), .int .i64 (3 + (k : Int)), .agg (fe (.slice (some ⟨y, 0, none⟩) (3 + k + 1) cy)).toArray, .slice (some ⟨eb, 0, none⟩) 1 1, v', .pointer (some ⟨s, 79, none⟩), x30, x31, x32, x33, x34, x35, x36, x37, x38, x39, x40], []⟩ wz)) (hk : k < n) (hn : n ≤ 64) (y cy eb : Nat) (wx : World) (hS : Below w.heap.size w wx) (hR : Sr w.heap.size n wx s L0 L1 L2 k k Gv Hv) (hL : wx.ownsRow w.heap.size 39 4 (.slice (some ⟨y, 0, none⟩) (3 + k + 1) cy) (3 + k + 1) (svs (3 + k + 1) (uf (3 + k)))) (hE : ∀ j u, (fe (.slice (some ⟨y, 0, none⟩) (3 + k + 1) cy))[j]? = some u → wx.cell? ((⟨eb, 0, none⟩ : Addr).add j) = some u) :
    wpAnyH Tryd.prog .any rb7 Q (fun w' => Below w.heap.size w w') 4 #[true, false, true, true, true, true, false, false, false] ⟨#[.int .i64 (n : Int), x1, x2, x3, .pointer (some ⟨s, 0, none⟩), .int .i64 (k : Int), x6, x7, x8, x9, x10, x11, x12, x13, x14, x15, x16, x17, x18, x19, x20, x21, .pointer (some ⟨s, 79, none⟩), x23, .int .i64 (k : Int), .int .i64 (3 + (k : Int)), .agg (fe (.slice (some ⟨y, 0, none⟩) (3 + k + 1) cy)).toArray, .slice (some ⟨eb, 0, none⟩) 1 1, x28, x29, x30, x31, x32, x33, x34, x35, x36, x37, x38, x39, x40], []⟩ wx := by
  have c1 := hR.c79
  refine wpAnyH_ready (rs := [1]) (by kernel_rfl) (by simp) ?_
  refine AllReadyH.cons (o := { dst := some 23, op := Op.load 43 (Operand.tmp 22), type := 43, pos := "ref.go:115", after := #[{ on := 0, ground := Ground.data }], guard := none }) rfl (fun K hK => ?_) AllReadyH.nil
  have HE := hidden hE
  clear hE
  go_wp2_with fail
  refine hK.out _ _ hS (fun _ => ?_)
  exact rb7_fin Q n k s x1 x2 x3 x6 x7 x8 x9 x10 x11 x12 x13 x14 x15 x16 x17 x18 x19 x20 x21 x28 x29 x30 x31 x32 x33 x34 x35 x36 x37 x38 x39 x40 L0 L1 L2 Gv Hv w PP HQ hk hn y cy eb _ hS hR hL HE.out
set_option maxRecDepth 100000 in
set_option maxHeartbeats 8000000 in
theorem rb7_c (Q : Exit → Act → World → Prop) (n k s : Nat) (x1 x2 x3 x6 x7 x8 x9 x10 x11 x12 x13 x14 x15 x16 x17 x18 x19 x20 x21 x23 x27 x28 x29 x30 x31 x32 x33 x34 x35 x36 x37 x38 x39 x40 L0 L1 L2 Gv Hv : Value) (w : World) (PP : ∀ d v c a w, Q (.panic c) (a.put d v) w → Q (.panic c) a w) (HQ : Hid (∀ (y cy eb : Nat) (v' : Value) (wz : World), Sr w.heap.size n wz s L0 L1 L2 (k + 1) k v' Hv → Below w.heap.size w wz → Q .normal ⟨#[.int .i64 (n : Int), x1, x2, x3, .pointer (some ⟨s, 0, none⟩), .int .i64 (k : Int), x6, x7, x8, x9, x10, x11, x12, x13, x14, x15, x16, x17, x18, x19, x20, x21, .pointer (some ⟨s, 79, none⟩), Gv, .int .i64 (k : Int), .int .i64 (3 + (k : Int)), .agg (fe (.slice (some ⟨y, 0, none⟩) (3 + k + 1) cy)).toArray, .slice (some ⟨eb, 0, none⟩) 1 1, v', .pointer (some ⟨s, 79, none⟩), x30, x31, x32, x33, x34, x35, x36, x37, x38, x39, x40], []⟩ wz)) (hk : k < n) (hn : n ≤ 64) (y cy : Nat) (w1 : World) (hS : Below w.heap.size w w1) (hR : Sr w.heap.size n w1 s L0 L1 L2 k k Gv Hv) (hL : w1.ownsRow w.heap.size 39 4 (.slice (some ⟨y, 0, none⟩) (3 + k + 1) cy) (3 + k + 1) (svs (3 + k + 1) (uf (3 + k)))) :
    wpAnyH Tryd.prog .any rb7 Q (fun w' => Below w.heap.size w w') 5 #[true, false, true, true, true, false, false, false, false] ⟨#[.int .i64 (n : Int), x1, x2, x3, .pointer (some ⟨s, 0, none⟩), .int .i64 (k : Int), x6, x7, x8, x9, x10, x11, x12, x13, x14, x15, x16, x17, x18, x19, x20, x21, .pointer (some ⟨s, 79, none⟩), x23, .int .i64 (k : Int), .int .i64 (3 + (k : Int)), .agg (fe (.slice (some ⟨y, 0, none⟩) (3 + k + 1) cy)).toArray, x27, x28, x29, x30, x31, x32, x33, x34, x35, x36, x37, x38, x39, x40], []⟩ w1 := by
  have c1 := hidden hR.c79
  refine wpAnyH_ready (rs := [1, 5]) (by kernel_rfl) (by simp) ?_
  refine AllReadyH.cons (o := { dst := some 23, op := Op.load 43 (Operand.tmp 22), type := 43, pos := "ref.go:115", after := #[{ on := 0, ground := Ground.data }], guard := none }) rfl (fun K hK => ?_) ?_
  · have c2 := c1.out
    go_wp2_with fail
    refine hK.out _ _ hS (fun _ => ?_)
    exact rb7_cl Q n k s x1 x2 x3 x6 x7 x8 x9 x10 x11 x12 x13 x14 x15 x16 x17 x18 x19 x20 x21 x27 x28 x29 x30 x31 x32 x33 x34 x35 x36 x37 x38 x39 x40 L0 L1 L2 Gv Hv w PP HQ hk hn y cy _ hS hR hL
  refine AllReadyH.cons (o := { dst := some 27, op := Op.buildSlice 43 1 #[(0, Operand.tmp 26)], type := 43, pos := "ref.go:115", after := #[{ on := 4, ground := Ground.data }], guard := none }) rfl (fun K hK => ?_) AllReadyH.nil
  refine Eq.mpr (if_pos (by rfl)) ?_
  refine wp_buildE _ rfl (some ⟨y, 0, none⟩) (3 + k + 1) cy rfl ?_
  have hb := bl_alloc w1 (.cells (fe (.slice (some ⟨y, 0, none⟩) (3 + k + 1) cy)).toArray 42)
  refine hK.out _ _ (bl_trans hS hb) (fun _ => ?_)
  have hE := cells_new w1 (fe (.slice (some ⟨y, 0, none⟩) (3 + k + 1) cy)) 42
  have hL2 := hL.alloc (.cells (fe (.slice (some ⟨y, 0, none⟩) (3 + k + 1) cy)).toArray 42)
  have hR2 := hR.keep hb
  exact rb7_cb Q n k s x1 x2 x3 x6 x7 x8 x9 x10 x11 x12 x13 x14 x15 x16 x17 x18 x19 x20 x21 x23 x28 x29 x30 x31 x32 x33 x34 x35 x36 x37 x38 x39 x40 L0 L1 L2 Gv Hv w PP HQ hk hn y cy _ _ (bl_trans hS hb) hR2 hL2 hE
set_option maxRecDepth 100000 in
set_option maxHeartbeats 8000000 in
theorem rb7_l (Q : Exit → Act → World → Prop) (n k s : Nat) (x1 x2 x3 x6 x7 x8 x9 x10 x11 x12 x13 x14 x15 x16 x17 x18 x19 x20 x21 x26 x27 x28 x29 x30 x31 x32 x33 x34 x35 x36 x37 x38 x39 x40 L0 L1 L2 Gv Hv : Value) (w : World) (PP : ∀ d v c a w, Q (.panic c) (a.put d v) w → Q (.panic c) a w) (HQ : Hid (∀ (y cy eb : Nat) (v' : Value) (wz : World), Sr w.heap.size n wz s L0 L1 L2 (k + 1) k v' Hv → Below w.heap.size w wz → Q .normal ⟨#[.int .i64 (n : Int), x1, x2, x3, .pointer (some ⟨s, 0, none⟩), .int .i64 (k : Int), x6, x7, x8, x9, x10, x11, x12, x13, x14, x15, x16, x17, x18, x19, x20, x21, .pointer (some ⟨s, 79, none⟩), Gv, .int .i64 (k : Int), .int .i64 (3 + (k : Int)), .agg (fe (.slice (some ⟨y, 0, none⟩) (3 + k + 1) cy)).toArray, .slice (some ⟨eb, 0, none⟩) 1 1, v', .pointer (some ⟨s, 79, none⟩), x30, x31, x32, x33, x34, x35, x36, x37, x38, x39, x40], []⟩ wz)) (hk : k < n) (hn : n ≤ 64) (wr : World) (hS : Below w.heap.size w wr) (hR : Sr w.heap.size n wr s L0 L1 L2 k k Gv Hv) :
    wpAnyH Tryd.prog .any rb7 Q (fun w' => Below w.heap.size w w') 5 #[true, true, true, true, false, false, false, false, false] ⟨#[.int .i64 (n : Int), x1, x2, x3, .pointer (some ⟨s, 0, none⟩), .int .i64 (k : Int), x6, x7, x8, x9, x10, x11, x12, x13, x14, x15, x16, x17, x18, x19, x20, x21, .pointer (some ⟨s, 79, none⟩), Gv, .int .i64 (k : Int), .int .i64 (3 + (k : Int)), x26, x27, x28, x29, x30, x31, x32, x33, x34, x35, x36, x37, x38, x39, x40], []⟩ wr := by
  refine wpAnyH_ready (rs := [4]) (by kernel_rfl) (by simp) ?_
  refine AllReadyH.cons (o := { dst := some 26, op := Op.call { callee := Callee.value (Operand.func 21), args := #[Operand.tmp 25], argTypes := #[3] }, type := 42, pos := "ref.go:115", after := #[{ on := 3, ground := Ground.data }], guard := none }) rfl (fun K hK => ?_) AllReadyH.nil
  have C := runit_any (3 + k) wr (by omega)
  rw [show ((3 + k : Nat) : Int) = 3 + (k : Int) by omega] at C
  have CC := hidden C
  clear C
  go_simp
  refine (CC.out).mono ?_
  rintro e w1 ⟨L, rfl, hL, hb⟩
  obtain ⟨y, cy, rfl, _, _, _⟩ := own_shapeG hL (by omega)
  go_wp2_with fail
  refine hK.out _ _ (bl_trans hS hb) (fun _ => ?_)
  exact rb7_cl Q n k s x1 x2 x3 x6 x7 x8 x9 x10 x11 x12 x13 x14 x15 x16 x17 x18 x19 x20 x21 x27 x28 x29 x30 x31 x32 x33 x34 x35 x36 x37 x38 x39 x40 L0 L1 L2 Gv Hv w PP HQ hk hn y cy _ (bl_trans hS hb) (hR.keep hb) (own_less hL hS.size)
set_option maxRecDepth 100000 in
set_option maxHeartbeats 8000000 in
theorem rb7_0 (Q : Exit → Act → World → Prop) (n k s : Nat) (x1 x2 x3 x6 x7 x8 x9 x10 x11 x12 x13 x14 x15 x16 x17 x18 x19 x20 x21 x23 x26 x27 x28 x29 x30 x31 x32 x33 x34 x35 x36 x37 x38 x39 x40 L0 L1 L2 Gv Hv : Value) (w : World) (PP : ∀ d v c a w, Q (.panic c) (a.put d v) w → Q (.panic c) a w) (HQ : Hid (∀ (y cy eb : Nat) (v' : Value) (wz : World), Sr w.heap.size n wz s L0 L1 L2 (k + 1) k v' Hv → Below w.heap.size w wz → Q .normal ⟨#[.int .i64 (n : Int), x1, x2, x3, .pointer (some ⟨s, 0, none⟩), .int .i64 (k : Int), x6, x7, x8, x9, x10, x11, x12, x13, x14, x15, x16, x17, x18, x19, x20, x21, .pointer (some ⟨s, 79, none⟩), Gv, .int .i64 (k : Int), .int .i64 (3 + (k : Int)), .agg (fe (.slice (some ⟨y, 0, none⟩) (3 + k + 1) cy)).toArray, .slice (some ⟨eb, 0, none⟩) 1 1, v', .pointer (some ⟨s, 79, none⟩), x30, x31, x32, x33, x34, x35, x36, x37, x38, x39, x40], []⟩ wz)) (hk : k < n) (hn : n ≤ 64) (wr : World) (hS : Below w.heap.size w wr) (hR : Sr w.heap.size n wr s L0 L1 L2 k k Gv Hv) :
    wpAnyH Tryd.prog .any rb7 Q (fun w' => Below w.heap.size w w') 6 #[true, false, true, true, false, false, false, false, false] ⟨#[.int .i64 (n : Int), x1, x2, x3, .pointer (some ⟨s, 0, none⟩), .int .i64 (k : Int), x6, x7, x8, x9, x10, x11, x12, x13, x14, x15, x16, x17, x18, x19, x20, x21, .pointer (some ⟨s, 79, none⟩), x23, .int .i64 (k : Int), .int .i64 (3 + (k : Int)), x26, x27, x28, x29, x30, x31, x32, x33, x34, x35, x36, x37, x38, x39, x40], []⟩ wr := by
  have c1 := hidden hR.c79
  refine wpAnyH_ready (rs := [1, 4]) (by kernel_rfl) (by simp) ?_
  refine AllReadyH.cons (o := { dst := some 23, op := Op.load 43 (Operand.tmp 22), type := 43, pos := "ref.go:115", after := #[{ on := 0, ground := Ground.data }], guard := none }) rfl (fun K hK => ?_) ?_
  · have c2 := c1.out
    go_wp2_with fail
    refine hK.out _ _ hS (fun _ => ?_)
    exact rb7_l Q n k s x1 x2 x3 x6 x7 x8 x9 x10 x11 x12 x13 x14 x15 x16 x17 x18 x19 x20 x21 x26 x27 x28 x29 x30 x31 x32 x33 x34 x35 x36 x37 x38 x39 x40 L0 L1 L2 Gv Hv w PP HQ hk hn _ hS hR
  refine AllReadyH.cons (o := { dst := some 26, op := Op.call { callee := Callee.value (Operand.func 21), args := #[Operand.tmp 25], argTypes := #[3] }, type := 42, pos := "ref.go:115", after := #[{ on := 3, ground := Ground.data }], guard := none }) rfl (fun K hK => ?_) AllReadyH.nil
  have C := runit_any (3 + k) wr (by omega)
  rw [show ((3 + k : Nat) : Int) = 3 + (k : Int) by omega] at C
  have CC := hidden C
  clear C
  go_simp
  refine (CC.out).mono ?_
  rintro e w1 ⟨L, rfl, hL, hb⟩
  obtain ⟨y, cy, rfl, _, _, _⟩ := own_shapeG hL (by omega)
  go_wp2_with fail
  refine hK.out _ _ (bl_trans hS hb) (fun _ => ?_)
  exact rb7_c Q n k s x1 x2 x3 x6 x7 x8 x9 x10 x11 x12 x13 x14 x15 x16 x17 x18 x19 x20 x21 x23 x27 x28 x29 x30 x31 x32 x33 x34 x35 x36 x37 x38 x39 x40 L0 L1 L2 Gv Hv w PP HQ hk hn y cy _ (bl_trans hS hb) (hR.keep hb) (own_less hL hS.size)
set_option maxRecDepth 100000 in
set_option maxHeartbeats 8000000 in
theorem rb7_any (Q : Exit → Act → World → Prop) (n k s : Nat) (x1 x2 x3 x6 x7 x8 x9 x10 x11 x12 x13 x14 x15 x16 x17 x18 x19 x20 x21 x22 x23 x24 x25 x26 x27 x28 x29 x30 x31 x32 x33 x34 x35 x36 x37 x38 x39 x40 L0 L1 L2 Gv Hv : Value) (w : World) (HQ : Hid (∀ (y cy eb : Nat) (v' : Value) (wz : World), Sr w.heap.size n wz s L0 L1 L2 (k + 1) k v' Hv → Below w.heap.size w wz → Q .normal ⟨#[.int .i64 (n : Int), x1, x2, x3, .pointer (some ⟨s, 0, none⟩), .int .i64 (k : Int), x6, x7, x8, x9, x10, x11, x12, x13, x14, x15, x16, x17, x18, x19, x20, x21, .pointer (some ⟨s, 79, none⟩), Gv, .int .i64 (k : Int), .int .i64 (3 + (k : Int)), .agg (fe (.slice (some ⟨y, 0, none⟩) (3 + k + 1) cy)).toArray, .slice (some ⟨eb, 0, none⟩) 1 1, v', .pointer (some ⟨s, 79, none⟩), x30, x31, x32, x33, x34, x35, x36, x37, x38, x39, x40], []⟩ wz)) (hk : k < n) (hn : n ≤ 64) (wr : World) (hS : Below w.heap.size w wr) (hR : Sr w.heap.size n wr s L0 L1 L2 k k Gv Hv) :
    (Code.region 7 rb7 true).wp Tryd.prog Q ⟨#[.int .i64 (n : Int), x1, x2, x3, .pointer (some ⟨s, 0, none⟩), .int .i64 (k : Int), x6, x7, x8, x9, x10, x11, x12, x13, x14, x15, x16, x17, x18, x19, x20, x21, x22, x23, x24, x25, x26, x27, x28, x29, x30, x31, x32, x33, x34, x35, x36, x37, x38, x39, x40], []⟩ wr := by
  refine wp_region_noPanic ?_
  refine wp_region_held_drew (S := (fun w' => Below w.heap.size w w')) (by kernel_rfl) (bl_trans hS (drew_blW wr)) (fun hHeld => ?_)
  change wpAnyH Tryd.prog .any rb7 _ _ 9 #[false, false, false, false, false, false, false, false, false] _ _
  have w1 : IntKind.i64.wrap (3 + (k : Int)) = 3 + (k : Int) := IntWalk.i64_in _ (by omega)
  refine wpAnyH_take (i := 0) (oi := { dst := some 22, op := Op.fieldAddr 45 (Operand.tmp 4) 4, type := 0, pos := "ref.go:115", after := #[], guard := none }) (v := ?_) rfl (by kernel_rfl) (by kernel_rfl) (by kernel_rfl) (fun _ _ _ h => h) (Or.inl ⟨by rfl, ?_⟩) hHeld ?_
  rotate_left 1
  · (intro w0 hSw; (try dsimp only at hSw); go_simp; try with_reducible rfl)
  simp only [Act.put, List.setIfInBounds_toArray, List.set_cons_zero, List.set_cons_succ]
  refine wpAnyH_take (i := 2) (oi := { dst := some 24, op := Op.move (Operand.tmp 5), type := 3, pos := "ref.go:115", after := #[], guard := none }) (v := ?_) rfl (by kernel_rfl) (by kernel_rfl) (by kernel_rfl) (fun _ _ _ h => h) (Or.inl ⟨by rfl, ?_⟩) hHeld ?_
  rotate_left 1
  · (intro w0 hSw; (try dsimp only at hSw); go_simp; try with_reducible rfl)
  simp only [Act.put, List.setIfInBounds_toArray, List.set_cons_zero, List.set_cons_succ]
  refine wpAnyH_take (i := 3) (oi := { dst := some 25, op := Op.binOp BinOp.add 3 (Operand.const (Value.int IntKind.i64 3)) (Operand.tmp 24) 3, type := 3, pos := "ref.go:115", after := #[{ on := 2, ground := Ground.data }], guard := none }) (v := ?_) rfl (by kernel_rfl) (by kernel_rfl) (by kernel_rfl) (fun _ _ _ h => h) (Or.inl ⟨by rfl, ?_⟩) hHeld ?_
  rotate_left 1
  · (intro w0 hSw; (try dsimp only at hSw); go_simp; try with_reducible rfl)
  simp only [Act.put, List.setIfInBounds_toArray, List.set_cons_zero, List.set_cons_succ]
  exact rb7_0 (NoPanic Q) n k s _ _ _ _ _ _ _ _ _ _ _ _ _ _ _ _ _ _ _ _ _ _ _ _ _ _ _ _ _ _ _ _ _ _ _ L0 L1 L2 Gv Hv w (fun _ _ _ _ _ h => h) HQ hk hn _ hHeld (hR.keep (drew_blW wr))
/-- the operations of region 8 -/
def rb8 : Array Oper := #[{ dst := some 30, op := Op.fieldAddr 45 (Operand.tmp 4) 5, type := 0, pos := "ref.go:116", after := #[], guard := none },
  { dst := some 31, op := Op.load 43 (Operand.tmp 30), type := 43, pos := "ref.go:116", after := #[{ on := 0, ground := Ground.data }], guard := none },
  { dst := some 32, op := Op.move (Operand.tmp 0), type := 3, pos := "ref.go:116", after := #[], guard := none },
  { dst := some 33, op := Op.binOp BinOp.add 3 (Operand.const (Value.int IntKind.i64 3)) (Operand.tmp 32) 3, type := 3, pos := "ref.go:116", after := #[{ on := 2, ground := Ground.data }], guard := none },
  { dst := some 34, op := Op.move (Operand.tmp 5), type := 3, pos := "ref.go:116", after := #[], guard := none },
  { dst := some 35, op := Op.binOp BinOp.add 3 (Operand.tmp 33) (Operand.tmp 34) 3, type := 3, pos := "ref.go:116", after := #[{ on := 3, ground := Ground.data }, { on := 4, ground := Ground.data }], guard := none },
  { dst := some 36, op := Op.call { callee := Callee.value (Operand.func 21), args := #[Operand.tmp 35], argTypes := #[3] }, type := 42, pos := "ref.go:116", after := #[{ on := 5, ground := Ground.data }], guard := none },
  { dst := some 37, op := Op.buildSlice 43 1 #[(0, Operand.tmp 36)], type := 43, pos := "ref.go:116", after := #[{ on := 6, ground := Ground.data }], guard := none },
  { dst := some 38, op := Op.call { callee := Callee.builtin Builtin.append, args := #[Operand.tmp 31, Operand.tmp 37], argTypes := #[43, 43] }, type := 43, pos := "ref.go:116", after := #[{ on := 1, ground := Ground.data }, { on := 7, ground := Ground.data }, { on := 6, ground := Ground.chain }], guard := none },
  { dst := some 39, op := Op.fieldAddr 45 (Operand.tmp 4) 5, type := 0, pos := "ref.go:116", after := #[{ on := 0, ground := Ground.phase }, { on := 1, ground := Ground.phase }, { on := 2, ground := Ground.phase }, { on := 3, ground := Ground.phase }, { on := 4, ground := Ground.phase }, { on := 5, ground := Ground.phase }, { on := 6, ground := Ground.phase }, { on := 7, ground := Ground.phase }, { on := 8, ground := Ground.phase }], guard := none },
  { dst := none, op := Op.store 43 (Operand.tmp 39) (Operand.tmp 38), type := 0, pos := "ref.go:116", after := #[{ on := 9, ground := Ground.data }, { on := 8, ground := Ground.data }, { on := 8, ground := Ground.chain }, { on := 0, ground := Ground.phase }, { on := 1, ground := Ground.phase }, { on := 2, ground := Ground.phase }, { on := 3, ground := Ground.phase }, { on := 4, ground := Ground.phase }, { on := 5, ground := Ground.phase }, { on := 6, ground := Ground.phase }, { on := 7, ground := Ground.phase }, { on := 8, ground := Ground.phase }], guard := none }]
set_option maxRecDepth 100000 in
set_option maxHeartbeats 8000000 in
theorem rb8_fin (Q : Exit → Act → World → Prop) (n k s : Nat) (x1 x2 x3 x6 x7 x8 x9 x10 x11 x12 x13 x14 x15 x16 x17 x18 x19 x20 x21 x22 x23 x24 x25 x26 x27 x28 x29 x38 x39 x40 L0 L1 L2 Gv Hv : Value) (w : World) (PP : ∀ d v c a w, Q (.panic c) (a.put d v) w → Q (.panic c) a w) (HQ : Hid (∀ (y cy eb : Nat) (v' : Value) (wz : World), Sr w.heap.size n wz s L0 L1 L2 (k + 1) (k + 1) Gv v' → Below w.heap.size w wz → Q .normal ⟨#[.int .i64 (n : Int), x1, x2, x3, .pointer (some ⟨s, 0, none⟩), .int .i64 (k : Int), x6, x7, x8, x9, x10, x11, x12, x13, x14, x15, x16, x17, x18, x19, x20, x21, x22, x23, x24, x25, x26, x27, x28, x29, .pointer (some ⟨s, 80, none⟩), Hv, .int .i64 (n : Int), .int .i64 (3 + (n : Int)), .int .i64 (k : Int), .int .i64 (3 + (n : Int) + (k : Int)), .agg (fe (.slice (some ⟨y, 0, none⟩) (3 + n + k + 1) cy)).toArray, .slice (some ⟨eb, 0, none⟩) 1 1, v', .pointer (some ⟨s, 80, none⟩), x40], []⟩ wz)) (hk : k < n) (hn : n ≤ 64) (y cy eb : Nat) (wx : World) (hS : Below w.heap.size w wx) (hR : Sr w.heap.size n wx s L0 L1 L2 (k + 1) k Gv Hv) (hL : wx.ownsRow w.heap.size 39 4 (.slice (some ⟨y, 0, none⟩) (3 + n + k + 1) cy) (3 + n + k + 1) (svs (3 + n + k + 1) (uf (3 + n + k)))) (hE : ∀ j u, (fe (.slice (some ⟨y, 0, none⟩) (3 + n + k + 1) cy))[j]? = some u → wx.cell? ((⟨eb, 0, none⟩ : Addr).add j) = some u) :
    wpAnyH Tryd.prog .any rb8 Q (fun w' => Below w.heap.size w w') 3 #[true, true, true, true, true, true, true, true, false, false, false] ⟨#[.int .i64 (n : Int), x1, x2, x3, .pointer (some ⟨s, 0, none⟩), .int .i64 (k : Int), x6, x7, x8, x9, x10, x11, x12, x13, x14, x15, x16, x17, x18, x19, x20, x21, x22, x23, x24, x25, x26, x27, x28, x29, .pointer (some ⟨s, 80, none⟩), Hv, .int .i64 (n : Int), .int .i64 (3 + (n : Int)), .int .i64 (k : Int), .int .i64 (3 + (n : Int) + (k : Int)), .agg (fe (.slice (some ⟨y, 0, none⟩) (3 + n + k + 1) cy)).toArray, .slice (some ⟨eb, 0, none⟩) 1 1, x38, x39, x40], []⟩ wx := by
  obtain ⟨f, hG, hf⟩ := hR.h
  obtain ⟨i0, hi, hz0, hz1, hz2⟩ := info_parts einfoZ
  refine wpAnyH_ready (rs := [8]) (by kernel_rfl) (by simp) ?_
  refine AllReadyH.cons (o := { dst := some 38, op := Op.call { callee := Callee.builtin Builtin.append, args := #[Operand.tmp 31, Operand.tmp 37], argTypes := #[43, 43] }, type := 43, pos := "ref.go:116", after := #[{ on := 1, ground := Ground.data }, { on := 7, ground := Ground.data }, { on := 6, ground := Ground.chain }], guard := none }) rfl (fun K hK => ?_) AllReadyH.nil
  refine Eq.mpr (if_pos (by rfl)) ?_
  refine wp_append_own_atG _ _ 43 rfl w.heap.size 42 i0 (.agg ze.toArray) 26 224 (by kernel_rfl) hi hz0 hz1 hz2 rfl (by decide) Hv k (fvs k f) rfl hG ⟨eb, 0, none⟩ 1 1 (fe (.slice (some ⟨y, 0, none⟩) (3 + n + k + 1) cy)) rfl rfl hE (fe_oneL _ _ _) (by unfold maxLen; omega) (by omega) hS.size ?_
  intro v' w' ho hg hat
  obtain ⟨gz, cz, rfl, _, _, _⟩ := own_shapeG ho (by omega)
  obtain ⟨R2, c1, f1⟩ := hR.addH hL f hf hG ho hg hat
  have hB := below_trans hS (below_grown hg hS.size (fun b hb => (hG.lt b hb).1))
  refine hK.out _ _ hB (fun _ => ?_)
  have B3 : Hid (Below w.heap.size w (w'.setCell ⟨s, 80, none⟩ (.slice (some ⟨gz, 0, none⟩) (k + 1) cz))) := hidden (hB.setCell hR.lt _)
  have R3 := hidden (HQ.out y cy eb _ _ R2 B3.out)
  clear hK K R2 hR hL hE hG hf ho hg hat hi hz0 hz1 hz2
  refine wpAnyH_take (i := 9) (oi := { dst := some 39, op := Op.fieldAddr 45 (Operand.tmp 4) 5, type := 0, pos := "ref.go:116", after := #[{ on := 0, ground := Ground.phase }, { on := 1, ground := Ground.phase }, { on := 2, ground := Ground.phase }, { on := 3, ground := Ground.phase }, { on := 4, ground := Ground.phase }, { on := 5, ground := Ground.phase }, { on := 6, ground := Ground.phase }, { on := 7, ground := Ground.phase }, { on := 8, ground := Ground.phase }], guard := none }) (v := .pointer (some ⟨s, 80, none⟩)) rfl (by kernel_rfl) (by kernel_rfl) (by kernel_rfl) (PP _ _) (Or.inl ⟨by rfl, fun w0 hSw => by go_simp⟩) hB ?_
  refine wpAnyH_ready (rs := [10]) (by kernel_rfl) (by simp) ?_
  refine AllReadyH.cons (o := { dst := none, op := Op.store 43 (Operand.tmp 39) (Operand.tmp 38), type := 0, pos := "ref.go:116", after := #[{ on := 9, ground := Ground.data }, { on := 8, ground := Ground.data }, { on := 8, ground := Ground.chain }, { on := 0, ground := Ground.phase }, { on := 1, ground := Ground.phase }, { on := 2, ground := Ground.phase }, { on := 3, ground := Ground.phase }, { on := 4, ground := Ground.phase }, { on := 5, ground := Ground.phase }, { on := 6, ground := Ground.phase }, { on := 7, ground := Ground.phase }, { on := 8, ground := Ground.phase }], guard := none }) rfl (fun K hK => ?_) AllReadyH.nil
  go_wp2_with fail
  refine hK.out _ _ B3.out (fun _ => ?_)
  exact wpAnyH_done (by kernel_rfl) R3.out _
set_option maxRecDepth 100000 in
set_option maxHeartbeats 8000000 in
theorem rb8_cl (Q : Exit → Act → World → Prop) (n k s : Nat) (x1 x2 x3 x6 x7 x8 x9 x10 x11 x12 x13 x14 x15 x16 x17 x18 x19 x20 x21 x22 x23 x24 x25 x26 x27 x28 x29 x37 x38 x39 x40 L0 L1 L2 Gv Hv : Value) (w : World) (PP : ∀ d v c a w, Q (.panic c) (a.put d v) w → Q (.panic c) a w) (HQ : Hid (∀ (y cy eb : Nat) (v' : Value) (wz : World), Sr w.heap.size n wz s L0 L1 L2 (k + 1) (k + 1) Gv v' → Below w.heap.size w wz → Q .normal ⟨#[.int .i64 (n : Int), x1, x2, x3, .pointer (some ⟨s, 0, none⟩), .int .i64 (k : Int), x6, x7, x8, x9, x10, x11, x12, x13, x14, x15, x16, x17, x18, x19, x20, x21, x22, x23, x24, x25, x26, x27, x28, x29, .pointer (some ⟨s, 80, none⟩), Hv, .int .i64 (n : Int), .int .i64 (3 + (n : Int)), .int .i64 (k : Int), .int .i64 (3 + (n : Int) + (k : Int)), .agg (fe (.slice (some ⟨y, 0, none⟩) (3 + n + k + 1) cy)).toArray, .slice (some ⟨eb, 0, none⟩) 1 1, v', .pointer (some ⟨s, 80, none⟩), x40], []⟩ wz)) (hk : k < n) (hn : n ≤ 64) (y cy : Nat) (w1 : World) (hS : Below w.heap.size w w1) (hR : Sr w.heap.size n w1 s L0 L1 L2 (k + 1) k Gv Hv) (hL : w1.ownsRow w.heap.size 39 4 (.slice (some ⟨y, 0, none⟩) (3 + n + k + 1) cy) (3 + n + k + 1) (svs (3 + n + k + 1) (uf (3 + n + k)))) :
    wpAnyH Tryd.prog .any rb8 Q (fun w' => Below w.heap.size w w') 4 #[true, true, true, true, true, true, true, false, false, false, false] ⟨#[.int .i64 (n : Int), x1, x2, x3, .pointer (some ⟨s, 0, none⟩), .int .i64 (k : Int), x6, x7, x8, x9, x10, x11, x12, x13, x14, x15, x16, x17, x18, x19, x20, x21, x22, x23, x24, x25, x26, x27, x28, x29, .pointer (some ⟨s, 80, none⟩), Hv, .int .i64 (n : Int), .int .i64 (3 + (n : Int)), .int .i64 (k : Int), .int .i64 (3 + (n : Int) + (k : Int)), .agg (fe (.slice (some ⟨y, 0, none⟩) (3 + n + k + 1) cy)).toArray, x37, x38, x39, x40], []⟩ w1 := by
  refine wpAnyH_ready (rs := [7]) (by kernel_rfl) (by simp) ?_
  refine AllReadyH.cons (o := { dst := some 37, op := Op.buildSlice 43 1 #[(0, Operand.tmp 36)], type := 43, pos := "ref.go:116", after := #[{ on := 6, ground := Ground.data }], guard := none }) rfl (fun K hK => ?_) AllReadyH.nil
  refine Eq.mpr (if_pos (by rfl)) ?_
  refine wp_buildE _ rfl (some ⟨y, 0, none⟩) (3 + n + k + 1) cy rfl ?_
  have hb := bl_alloc w1 (.cells (fe (.slice (some ⟨y, 0, none⟩) (3 + n + k + 1) cy)).toArray 42)
  refine hK.out _ _ (bl_trans hS hb) (fun _ => ?_)
  have hE := cells_new w1 (fe (.slice (some ⟨y, 0, none⟩) (3 + n + k + 1) cy)) 42
  have hL2 := hL.alloc (.cells (fe (.slice (some ⟨y, 0, none⟩) (3 + n + k + 1) cy)).toArray 42)
  have hR2 := hR.keep hb
  exact rb8_fin Q n k s x1 x2 x3 x6 x7 x8 x9 x10 x11 x12 x13 x14 x15 x16 x17 x18 x19 x20 x21 x22 x23 x24 x25 x26 x27 x28 x29 x38 x39 x40 L0 L1 L2 Gv Hv w PP HQ hk hn y cy _ _ (bl_trans hS hb) hR2 hL2 hE
set_option maxRecDepth 100000 in
set_option maxHeartbeats 8000000 in
theorem rb8_cb (Q : Exit → Act → World → Prop) (n k s : Nat) (x1 x2 x3 x6 x7 x8 x9 x10 x11 x12 x13 x14 x15 x16 x17 x18 x19 x20 x21 x22 x23 x24 x25 x26 x27 x28 x29 x31 x38 x39 x40 L0 L1 L2 Gv Hv : Value) (w : World) (PP : ∀ d v c a w, Q (.panic c) (a.put d v) w → Q (.panic c) a w) (HQ : Hid (∀ (y cy eb : Nat) (v' : Value) (wz : World), Sr w.heap.size n wz s L0 L1 L2 (k + 1) (k + 1) Gv v' → Below w.heap.size w wz → Q .normal ⟨#[.int .i64 (n : Int), x1, x2, x3, .pointer (some ⟨s, 0, none⟩), .int .i64 (k : Int), x6, x7, x8, x9, x10, x11, x12, x13, x14, x15, x16, x17, x18, x19, x20, x21, x22, x23, x24, x25, x26, x27, x28, x29, .pointer (some ⟨s, 80, none⟩), Hv, .int .i64 (n : Int), .int .i64 (3 + (n : Int)), .int .i64 (k : Int), .int .i64 (3 + (n : Int) + (k : Int)), .agg (fe (.slice (some ⟨y, 0, none⟩) (3 + n + k + 1) cy)).toArray, .slice (some ⟨eb, 0, none⟩) 1 1, v', .pointer (some ⟨s, 80, none⟩), x40], []⟩ wz)) (hk : k < n) (hn : n ≤ 64) (y cy eb : Nat) (wx : World) (hS : Below w.heap.size w wx) (hR : Sr w.heap.size n wx s L0 L1 L2 (k + 1) k Gv Hv) (hL : wx.ownsRow w.heap.size 39 4 (.slice (some ⟨y, 0, none⟩) (3 + n + k + 1) cy) (3 + n + k + 1) (svs (3 + n + k + 1) (uf (3 + n + k)))) (hE : ∀ j u, (fe (.slice (some ⟨y, 0, none⟩) (3 + n + k + 1) cy))[j]? = some u → wx.cell? ((⟨eb, 0, none⟩ : Addr).add j) = some u) :
    wpAnyH Tryd.prog .any rb8 Q (fun w' => Below w.heap.size w w') 4 #[true, false, true, true, true, true, true, true, false, false, false] ⟨#[.int .i64 (n : Int), x1, x2, x3, .pointer (some ⟨s, 0, none⟩), .int .i64 (k : Int), x6, x7, x8, x9, x10, x11, x12, x13, x14, x15, x16, x17, x18, x19, x20, x21, x22, x23, x24, x25, x26, x27, x28, x29, .pointer (some ⟨s, 80, none⟩), x31, .int .i64 (n : Int), .int .i64 (3 + (n : Int)), .int .i64 (k : Int), .int .i64 (3 + (n : Int) + (k : Int)), .agg (fe (.slice (some ⟨y, 0, none⟩) (3 + n + k + 1) cy)).toArray, .slice (some ⟨eb, 0, none⟩) 1 1, x38, x39, x40], []⟩ wx := by
  have c1 := hR.c80
  refine wpAnyH_ready (rs := [1]) (by kernel_rfl) (by simp) ?_
  refine AllReadyH.cons (o := { dst := some 31, op := Op.load 43 (Operand.tmp 30), type := 43, pos := "ref.go:116", after := #[{ on := 0, ground := Ground.data }], guard := none }) rfl (fun K hK => ?_) AllReadyH.nil
  have HE := hidden hE
  clear hE
  go_wp2_with fail
  refine hK.out _ _ hS (fun _ => ?_)
  exact rb8_fin Q n k s x1 x2 x3 x6 x7 x8 x9 x10 x11 x12 x13 x14 x15 x16 x17 x18 x19 x20 x21 x22 x23 x24 x25 x26 x27 x28 x29 x38 x39 x40 L0 L1 L2 Gv Hv w PP HQ hk hn y cy eb _ hS hR hL HE.out
set_option maxRecDepth 100000 in
set_option maxHeartbeats 8000000 in
theorem rb8_c (Q : Exit → Act → World → Prop) (n k s : Nat) (x1 x2 x3 x6 x7 x8 x9 x10 x11 x12 x13 x14 x15 x16 x17 x18 x19 x20 x21 x22 x23 x24 x25 x26 x27 x28 x29 x31 x37 x38 x39 x40 L0 L1 L2 Gv Hv : Value) (w : World) (PP : ∀ d v c a w, Q (.panic c) (a.put d v) w → Q (.panic c) a w) (HQ : Hid (∀ (y cy eb : Nat) (v' : Value) (wz : World), Sr w.heap.size n wz s L0 L1 L2 (k + 1) (k + 1) Gv v' → Below w.heap.size w wz → Q .normal ⟨#[.int .i64 (n : Int), x1, x2, x3, .pointer (some ⟨s, 0, none⟩), .int .i64 (k : Int), x6, x7, x8, x9, x10, x11, x12, x13, x14, x15, x16, x17, x18, x19, x20, x21, x22, x23, x24, x25, x26, x27, x28, x29, .pointer (some ⟨s, 80, none⟩), Hv, .int .i64 (n : Int), .int .i64 (3 + (n : Int)), .int .i64 (k : Int), .int .i64 (3 + (n : Int) + (k : Int)), .agg (fe (.slice (some ⟨y, 0, none⟩) (3 + n + k + 1) cy)).toArray, .slice (some ⟨eb, 0, none⟩) 1 1, v', .pointer (some ⟨s, 80, none⟩), x40], []⟩ wz)) (hk : k < n) (hn : n ≤ 64) (y cy : Nat) (w1 : World) (hS : Below w.heap.size w w1) (hR : Sr w.heap.size n w1 s L0 L1 L2 (k + 1) k Gv Hv) (hL : w1.ownsRow w.heap.size 39 4 (.slice (some ⟨y, 0, none⟩) (3 + n + k + 1) cy) (3 + n + k + 1) (svs (3 + n + k + 1) (uf (3 + n + k)))) :
    wpAnyH Tryd.prog .any rb8 Q (fun w' => Below w.heap.size w w') 5 #[true, false, true, true, true, true, true, false, false, false, false] ⟨#[.int .i64 (n : Int), x1, x2, x3, .pointer (some ⟨s, 0, none⟩), .int .i64 (k : Int), x6, x7, x8, x9, x10, x11, x12, x13, x14, x15, x16, x17, x18, x19, x20, x21, x22, x23, x24, x25, x26, x27, x28, x29, .pointer (some ⟨s, 80, none⟩), x31, .int .i64 (n : Int), .int .i64 (3 + (n : Int)), .int .i64 (k : Int), .int .i64 (3 + (n : Int) + (k : Int)), .agg (fe (.slice (some ⟨y, 0, none⟩) (3 + n + k + 1) cy)).toArray, x37, x38, x39, x40], []⟩ w1 := by
  have c1 := hidden hR.c80
  refine wpAnyH_ready (rs := [1, 7]) (by kernel_rfl) (by simp) ?_
  refine AllReadyH.cons (o := { dst := some 31, op := Op.load 43 (Operand.tmp 30), type := 43, pos := "ref.go:116", after := #[{ on := 0, ground := Ground.data }], guard := none }) rfl (fun K hK => ?_) ?_
  · have c2 := c1.out
    go_wp2_with fail
    refine hK.out _ _ hS (fun _ => ?_)
    exact rb8_cl Q n k s x1 x2 x3 x6 x7 x8 x9 x10 x11 x12 x13 x14 x15 x16 x17 x18 x19 x20 x21 x22 x23 x24 x25 x26 x27 x28 x29 x37 x38 x39 x40 L0 L1 L2 Gv Hv w PP HQ hk hn y cy _ hS hR hL
  refine AllReadyH.cons (o := { dst := some 37, op := Op.buildSlice 43 1 #[(0, Operand.tmp 36)], type := 43, pos := "ref.go:116", after := #[{ on := 6, ground := Ground.data }], guard := none }) rfl (fun K hK => ?_) AllReadyH.nil
  refine Eq.mpr (if_pos (by rfl)) ?_
  refine wp_buildE _ rfl (some ⟨y, 0, none⟩) (3 + n + k + 1) cy rfl ?_
  have hb := bl_alloc w1 (.cells (fe (.slice (some ⟨y, 0, none⟩) (3 + n + k + 1) cy)).toArray 42)
  refine hK.out _ _ (bl_trans hS hb) (fun _ => ?_)
  have hE := cells_new w1 (fe (.slice (some ⟨y, 0, none⟩) (3 + n + k + 1) cy)) 42
  have hL2 := hL.alloc (.cells (fe (.slice (some ⟨y, 0, none⟩) (3 + n + k + 1) cy)).toArray 42)
  have hR2 := hR.keep hb
  exact rb8_cb Q n k s x1 x2 x3 x6 x7 x8 x9 x10 x11 x12 x13 x14 x15 x16 x17 x18 x19 x20 x21 x22 x23 x24 x25 x26 x27 x28 x29 x31 x38 x39 x40 L0 L1 L2 Gv Hv w PP HQ hk hn y cy _ _ (bl_trans hS hb) hR2 hL2 hE
set_option maxRecDepth 100000 in
set_option maxHeartbeats 8000000 in
theorem rb8_l (Q : Exit → Act → World → Prop) (n k s : Nat) (x1 x2 x3 x6 x7 x8 x9 x10 x11 x12 x13 x14 x15 x16 x17 x18 x19 x20 x21 x22 x23 x24 x25 x26 x27 x28 x29 x36 x37 x38 x39 x40 L0 L1 L2 Gv Hv : Value) (w : World) (PP : ∀ d v c a w, Q (.panic c) (a.put d v) w → Q (.panic c) a w) (HQ : Hid (∀ (y cy eb : Nat) (v' : Value) (wz : World), Sr w.heap.size n wz s L0 L1 L2 (k + 1) (k + 1) Gv v' → Below w.heap.size w wz → Q .normal ⟨#[.int .i64 (n : Int), x1, x2, x3, .pointer (some ⟨s, 0, none⟩), .int .i64 (k : Int), x6, x7, x8, x9, x10, x11, x12, x13, x14, x15, x16, x17, x18, x19, x20, x21, x22, x23, x24, x25, x26, x27, x28, x29, .pointer (some ⟨s, 80, none⟩), Hv, .int .i64 (n : Int), .int .i64 (3 + (n : Int)), .int .i64 (k : Int), .int .i64 (3 + (n : Int) + (k : Int)), .agg (fe (.slice (some ⟨y, 0, none⟩) (3 + n + k + 1) cy)).toArray, .slice (some ⟨eb, 0, none⟩) 1 1, v', .pointer (some ⟨s, 80, none⟩), x40], []⟩ wz)) (hk : k < n) (hn : n ≤ 64) (wr : World) (hS : Below w.heap.size w wr) (hR : Sr w.heap.size n wr s L0 L1 L2 (k + 1) k Gv Hv) :
    wpAnyH Tryd.prog .any rb8 Q (fun w' => Below w.heap.size w w') 5 #[true, true, true, true, true, true, false, false, false, false, false] ⟨#[.int .i64 (n : Int), x1, x2, x3, .pointer (some ⟨s, 0, none⟩), .int .i64 (k : Int), x6, x7, x8, x9, x10, x11, x12, x13, x14, x15, x16, x17, x18, x19, x20, x21, x22, x23, x24, x25, x26, x27, x28, x29, .pointer (some ⟨s, 80, none⟩), Hv, .int .i64 (n : Int), .int .i64 (3 + (n : Int)), .int .i64 (k : Int), .int .i64 (3 + (n : Int) + (k : Int)), x36, x37, x38, x39, x40], []⟩ wr := by
  refine wpAnyH_ready (rs := [6]) (by kernel_rfl) (by simp) ?_
  refine AllReadyH.cons (o := { dst := some 36, op := Op.call { callee := Callee.value (Operand.func 21), args := #[Operand.tmp 35], argTypes := #[3] }, type := 42, pos := "ref.go:116", after := #[{ on := 5, ground := Ground.data }], guard := none }) rfl (fun K hK => ?_) AllReadyH.nil
  have C := runit_any (3 + n + k) wr (by omega)
  rw [show ((3 + n + k : Nat) : Int) = 3 + (n : Int) + (k : Int) by omega] at C
  have CC := hidden C
  clear C
  go_simp
  refine (CC.out).mono ?_
  rintro e w1 ⟨L, rfl, hL, hb⟩
  obtain ⟨y, cy, rfl, _, _, _⟩ := own_shapeG hL (by omega)
  go_wp2_with fail
  refine hK.out _ _ (bl_trans hS hb) (fun _ => ?_)
  exact rb8_cl Q n k s x1 x2 x3 x6 x7 x8 x9 x10 x11 x12 x13 x14 x15 x16 x17 x18 x19 x20 x21 x22 x23 x24 x25 x26 x27 x28 x29 x37 x38 x39 x40 L0 L1 L2 Gv Hv w PP HQ hk hn y cy _ (bl_trans hS hb) (hR.keep hb) (own_less hL hS.size)
set_option maxRecDepth 100000 in
set_option maxHeartbeats 8000000 in
theorem rb8_0 (Q : Exit → Act → World → Prop) (n k s : Nat) (x1 x2 x3 x6 x7 x8 x9 x10 x11 x12 x13 x14 x15 x16 x17 x18 x19 x20 x21 x22 x23 x24 x25 x26 x27 x28 x29 x31 x36 x37 x38 x39 x40 L0 L1 L2 Gv Hv : Value) (w : World) (PP : ∀ d v c a w, Q (.panic c) (a.put d v) w → Q (.panic c) a w) (HQ : Hid (∀ (y cy eb : Nat) (v' : Value) (wz : World), Sr w.heap.size n wz s L0 L1 L2 (k + 1) (k + 1) Gv v' → Below w.heap.size w wz → Q .normal ⟨#[.int .i64 (n : Int), x1, x2, x3, .pointer (some ⟨s, 0, none⟩), .int .i64 (k : Int), x6, x7, x8, x9, x10, x11, x12, x13, x14, x15, x16, x17, x18, x19, x20, x21, x22, x23, x24, x25, x26, x27, x28, x29, .pointer (some ⟨s, 80, none⟩), Hv, .int .i64 (n : Int), .int .i64 (3 + (n : Int)), .int .i64 (k : Int), .int .i64 (3 + (n : Int) + (k : Int)), .agg (fe (.slice (some ⟨y, 0, none⟩) (3 + n + k + 1) cy)).toArray, .slice (some ⟨eb, 0, none⟩) 1 1, v', .pointer (some ⟨s, 80, none⟩), x40], []⟩ wz)) (hk : k < n) (hn : n ≤ 64) (wr : World) (hS : Below w.heap.size w wr) (hR : Sr w.heap.size n wr s L0 L1 L2 (k + 1) k Gv Hv) :
    wpAnyH Tryd.prog .any rb8 Q (fun w' => Below w.heap.size w w') 6 #[true, false, true, true, true, true, false, false, false, false, false] ⟨#[.int .i64 (n : Int), x1, x2, x3, .pointer (some ⟨s, 0, none⟩), .int .i64 (k : Int), x6, x7, x8, x9, x10, x11, x12, x13, x14, x15, x16, x17, x18, x19, x20, x21, x22, x23, x24, x25, x26, x27, x28, x29, .pointer (some ⟨s, 80, none⟩), x31, .int .i64 (n : Int), .int .i64 (3 + (n : Int)), .int .i64 (k : Int), .int .i64 (3 + (n : Int) + (k : Int)), x36, x37, x38, x39, x40], []⟩ wr := by
  have c1 := hidden hR.c80
  refine wpAnyH_ready (rs := [1, 6]) (by kernel_rfl) (by simp) ?_
  refine AllReadyH.cons (o := { dst := some 31, op := Op.load 43 (Operand.tmp 30), type := 43, pos := "ref.go:116", after := #[{ on := 0, ground := Ground.data }], guard := none }) rfl (fun K hK => ?_) ?_
  · have c2 := c1.out
    go_wp2_with fail
    refine hK.out _ _ hS (fun _ => ?_)
    exact rb8_l Q n k s x1 x2 x3 x6 x7 x8 x9 x10 x11 x12 x13 x14 x15 x16 x17 x18 x19 x20 x21 x22 x23 x24 x25 x26 x27 x28 x29 x36 x37 x38 x39 x40 L0 L1 L2 Gv Hv w PP HQ hk hn _ hS hR
  refine AllReadyH.cons (o := { dst := some 36, op := Op.call { callee := Callee.value (Operand.func 21), args := #[Operand.tmp 35], argTypes := #[3] }, type := 42, pos := "ref.go:116", after := #[{ on := 5, ground := Ground.data }], guard := none }) rfl (fun K hK => ?_) AllReadyH.nil
  have C := runit_any (3 + n + k) wr (by omega)
  rw [show ((3 + n + k : Nat) : Int) = 3 + (n : Int) + (k : Int) by omega] at C
  have CC := hidden C
  clear C
  go_simp
  refine (CC.out).mono ?_
  rintro e w1 ⟨L, rfl, hL, hb⟩
  obtain ⟨y, cy, rfl, _, _, _⟩ := own_shapeG hL (by omega)
  go_wp2_with fail
  refine hK.out _ _ (bl_trans hS hb) (fun _ => ?_)
  exact rb8_c Q n k s x1 x2 x3 x6 x7 x8 x9 x10 x11 x12 x13 x14 x15 x16 x17 x18 x19 x20 x21 x22 x23 x24 x25 x26 x27 x28 x29 x31 x37 x38 x39 x40 L0 L1 L2 Gv Hv w PP HQ hk hn y cy _ (bl_trans hS hb) (hR.keep hb) (own_less hL hS.size)
set_option maxRecDepth 100000 in
set_option maxHeartbeats 8000000 in
theorem rb8_any (Q : Exit → Act → World → Prop) (n k s : Nat) (x1 x2 x3 x6 x7 x8 x9 x10 x11 x12 x13 x14 x15 x16 x17 x18 x19 x20 x21 x22 x23 x24 x25 x26 x27 x28 x29 x30 x31 x32 x33 x34 x35 x36 x37 x38 x39 x40 L0 L1 L2 Gv Hv : Value) (w : World) (HQ : Hid (∀ (y cy eb : Nat) (v' : Value) (wz : World), Sr w.heap.size n wz s L0 L1 L2 (k + 1) (k + 1) Gv v' → Below w.heap.size w wz → Q .normal ⟨#[.int .i64 (n : Int), x1, x2, x3, .pointer (some ⟨s, 0, none⟩), .int .i64 (k : Int), x6, x7, x8, x9, x10, x11, x12, x13, x14, x15, x16, x17, x18, x19, x20, x21, x22, x23, x24, x25, x26, x27, x28, x29, .pointer (some ⟨s, 80, none⟩), Hv, .int .i64 (n : Int), .int .i64 (3 + (n : Int)), .int .i64 (k : Int), .int .i64 (3 + (n : Int) + (k : Int)), .agg (fe (.slice (some ⟨y, 0, none⟩) (3 + n + k + 1) cy)).toArray, .slice (some ⟨eb, 0, none⟩) 1 1, v', .pointer (some ⟨s, 80, none⟩), x40], []⟩ wz)) (hk : k < n) (hn : n ≤ 64) (wr : World) (hS : Below w.heap.size w wr) (hR : Sr w.heap.size n wr s L0 L1 L2 (k + 1) k Gv Hv) :
    (Code.region 8 rb8 true).wp Tryd.prog Q ⟨#[.int .i64 (n : Int), x1, x2, x3, .pointer (some ⟨s, 0, none⟩), .int .i64 (k : Int), x6, x7, x8, x9, x10, x11, x12, x13, x14, x15, x16, x17, x18, x19, x20, x21, x22, x23, x24, x25, x26, x27, x28, x29, x30, x31, x32, x33, x34, x35, x36, x37, x38, x39, x40], []⟩ wr := by
  refine wp_region_noPanic ?_
  refine wp_region_held_drew (S := (fun w' => Below w.heap.size w w')) (by kernel_rfl) (bl_trans hS (drew_blW wr)) (fun hHeld => ?_)
  change wpAnyH Tryd.prog .any rb8 _ _ 11 #[false, false, false, false, false, false, false, false, false, false, false] _ _
  have w1 : IntKind.i64.wrap (3 + (n : Int)) = 3 + (n : Int) := IntWalk.i64_in _ (by omega)
  have w2 : IntKind.i64.wrap (3 + (n : Int) + (k : Int)) = 3 + (n : Int) + (k : Int) := IntWalk.i64_in _ (by omega)
  refine wpAnyH_take (i := 0) (oi := { dst := some 30, op := Op.fieldAddr 45 (Operand.tmp 4) 5, type := 0, pos := "ref.go:116", after := #[], guard := none }) (v := ?_) rfl (by kernel_rfl) (by kernel_rfl) (by kernel_rfl) (fun _ _ _ h => h) (Or.inl ⟨by rfl, ?_⟩) hHeld ?_
  rotate_left 1
  · (intro w0 hSw; (try dsimp only at hSw); go_simp; try with_reducible rfl)
  simp only [Act.put, List.setIfInBounds_toArray, List.set_cons_zero, List.set_cons_succ]
  refine wpAnyH_take (i := 2) (oi := { dst := some 32, op := Op.move (Operand.tmp 0), type := 3, pos := "ref.go:116", after := #[], guard := none }) (v := ?_) rfl (by kernel_rfl) (by kernel_rfl) (by kernel_rfl) (fun _ _ _ h => h) (Or.inl ⟨by rfl, ?_⟩) hHeld ?_
  rotate_left 1
  · (intro w0 hSw; (try dsimp only at hSw); go_simp; try with_reducible rfl)
  simp only [Act.put, List.setIfInBounds_toArray, List.set_cons_zero, List.set_cons_succ]
  refine wpAnyH_take (i := 3) (oi := { dst := some 33, op := Op.binOp BinOp.add 3 (Operand.const (Value.int IntKind.i64 3)) (Operand.tmp 32) 3, type := 3, pos := "ref.go:116", after := #[{ on := 2, ground := Ground.data }], guard := none }) (v := ?_) rfl (by kernel_rfl) (by kernel_rfl) (by kernel_rfl) (fun _ _ _ h => h) (Or.inl ⟨by rfl, ?_⟩) hHeld ?_
  rotate_left 1
  · (intro w0 hSw; (try dsimp only at hSw); go_simp; try with_reducible rfl)
  simp only [Act.put, List.setIfInBounds_toArray, List.set_cons_zero, List.set_cons_succ]
  refine wpAnyH_take (i := 4) (oi := { dst := some 34, op := Op.move (Operand.tmp 5), type := 3, pos := "ref.go:116", after := #[], guard := none }) (v := ?_) rfl (by kernel_rfl) (by kernel_rfl) (by kernel_rfl) (fun _ _ _ h => h) (Or.inl ⟨by rfl, ?_⟩) hHeld ?_
  rotate_left 1
  · (intro w0 hSw; (try dsimp only at hSw); go_simp; try with_reducible rfl)
  simp only [Act.put, List.setIfInBounds_toArray, List.set_cons_zero, List.set_cons_succ]
  refine wpAnyH_take (i := 5) (oi := { dst := some 35, op := Op.binOp BinOp.add 3 (Operand.tmp 33) (Operand.tmp 34) 3, type := 3, pos := "ref.go:116", after := #[{ on := 3, ground := Ground.data }, { on := 4, ground := Ground.data }], guard := none }) (v := ?_) rfl (by kernel_rfl) (by kernel_rfl) (by kernel_rfl) (fun _ _ _ h => h) (Or.inl ⟨by rfl, ?_⟩) hHeld ?_
  rotate_left 1
  · (intro w0 hSw; (try dsimp only at hSw); go_simp; try with_reducible rfl)
  simp only [Act.put, List.setIfInBounds_toArray, List.set_cons_zero, List.set_cons_succ]
  exact rb8_0 (NoPanic Q) n k s _ _ _ _ _ _ _ _ _ _ _ _ _ _ _ _ _ _ _ _ _ _ _ _ _ _ _ _ _ _ _ _ _ L0 L1 L2 Gv Hv w (fun _ _ _ _ _ h => h) HQ hk hn _ hHeld (hR.keep (drew_blW wr))
end Go.Proofs.YtjfffeolkellgaaDoor
