import Derived.Test.YtaejedhdpilhjaaDoorRM1
import Derived.Lib.SliceRun
import Derived.Maps.AppendAt
import Derived.OrdersIn
namespace Go.Proofs.YtaejedhdpilhjaaDoor
open Go.RowKit
set_option linter.unusedVariables false
theorem below_transR {n : Nat} {w1 w2 w3 : World} (h1 : Below n w1 w2) (h2 : Below n w2 w3) : Below n w1 w3 := ⟨h2.os.trans h1.os, h2.tape.trans h1.tape, h2.output.trans h1.output, Nat.le_trans h1.size h2.size, fun k hk => (h2.block k hk).trans (h1.block k hk)⟩
theorem below_grownR {w w' : World} {row : Option Nat} {base : Nat} (hg : w.grownBy w' row) (hb : base ≤ w.heap.size) (hr : ∀ k, row = some k → base ≤ k) : Below base w w' :=
  ⟨hg.os, hg.tape, hg.output, hg.size, fun k hk => hg.block k (by omega) (fun e => by have := hr k e.symm; omega)⟩
theorem svs_oneR (g : Nat → E4) (n : Nat) : ∀ u ∈ svs n g, u.oneCell' = true := by
  induction n with
  | zero => intro u hu; simp [svs] at hu
  | succ n ih =>
    intro u hu
    rw [svs_succ] at hu
    rcases List.mem_append.1 hu with h | h
    · exact ih u h
    · simp only [List.mem_cons, List.not_mem_nil, or_false] at h
      rcases h with rfl | rfl | rfl | rfl <;> rfl
theorem own_shapeR {w : World} {base n s : Nat} {e : TypeId} {v : Value} {xs : List Value} (h : w.ownsRow base e s v n xs) : ∃ (P : Option Addr) (c : Nat), v = .slice P n c ∧ n ≤ c := by
  rcases h.2 with ⟨rfl, rfl⟩ | ⟨g, cap, cur, rfl, _, _, hn, _⟩
  · exact ⟨none, 0, rfl, Nat.le_refl _⟩
  · exact ⟨_, _, rfl, hn⟩
theorem own_someR {w : World} {base n s : Nat} {e : TypeId} {v : Value} {xs : List Value} (h : w.ownsRow base e s v n xs) (hn : 0 < n) : ∃ g c : Nat, v = .slice (some ⟨g, 0, none⟩) n c ∧ n ≤ c := by
  rcases h.2 with ⟨_, h0⟩ | ⟨g, cap, cur, rfl, _, _, hnc, _⟩
  · omega
  · exact ⟨g, cap, rfl, hnc⟩
theorem cell_keepR {w w' : World} {a : Addr} {v : Value} (h : w.cell? a = some v) (hb : Below w.heap.size w w') : w'.cell? a = some v := (hb.cell (p := a) (World.block_lt_of_cell? w a h)).trans h
theorem infoR : (Tryd.prog.info? 26).map (fun i => (i.zero, i.size, i.bytes)) = some (some (.agg #[.int .u64 0, .int .u64 0, .int .u64 0, .int .u64 0]), 4, 32) := by kernel_rfl
set_option maxRecDepth 100000 in
set_option maxHeartbeats 4000000 in
theorem lclone_any (b o m c : Nat) (g : Nat → E4) (w : World) (hm : m ≤ 1048580) (hr : Rl w b o m g) :
    Calls Tryd.prog 19 #[.slice (some ⟨b, o, none⟩) m c] w fun e w' => ∃ v : Value, e = .returned v ∧ w'.ownsRow w.heap.size 33 4 v m (svs m g) ∧ Below w.heap.size w w' := by
  have eqn := fun (a : Option Addr) (l c : Nat) (w : World) => Lib.run_eql_slice_nil (P := Tryd.prog) w 29 33 a l c 0 0 (by kernel_rfl)
  have HL := hidden hm
  obtain ⟨i0, hi, hz0, hz1, hz2⟩ := info_parts linfoJ
  have HI := hidden hi
  have HZ0 := hidden hz0
  have HZ1 := hidden hz1
  have HZ2 := hidden hz2
  have HU : Hid (Tryd.prog.underlying 29 = some (.slice 33)) := hidden (by kernel_rfl)
  have O0 := hidden (World.ownsRow_made (base := w.heap.size) (e := 33) (size := 4) w #[] 0 (Nat.le_refl _) (by unfold maxLen; omega) rfl)
  have B0 := hidden (bl_alloc w (.cells #[] 33))
  have HC : Hid (∀ j u, (svs m g)[j]? = some u → (w.alloc (.cells #[] 33)).cell? ((⟨b, o, none⟩ : Addr).add j) = some u) := hidden (fun j u hu => by rw [Addr.add_mid]; exact rl_cells (hr.keep (bl_alloc w _)) m (Nat.le_refl _) j u hu)
  clear hm hr hi hz0 hz1 hz2
  go_enter Tryd.func19, Tryd.ntmps19
  go_wp2_with (first | (at_builtin; refine wpList_append_own_at _ rfl _ _ 29 rfl w.heap.size 33 i0 (.agg #[.int .u64 0, .int .u64 0, .int .u64 0, .int .u64 0]) 4 32 HU.out HI.out HZ0.out HZ1.out HZ2.out rfl (by decide) _ 0 [] rfl O0.out ⟨b, o, none⟩ m c (svs m g) rfl (svs_len _ _) HC.out (svs_oneR g m) (by have := HL.out; unfold maxLen; omega) (by have := HL.out; omega) B0.out.size ?_; intro v2 w2 ho2 hg2 hn2 ha2; have HO := hidden ho2; have HB := hidden (below_transR B0.out (below_grownR hg2 B0.out.size (fun k hk => (O0.out.lt k hk).1))); clear ho2 hg2 hn2 ha2; rw [Nat.zero_add, List.nil_append] at HO))
  refine bodyPost_ret (v := v2) (by simp [results, Tryd.results19, go_sem]) rfl ⟨v2, rfl, HO.out, HB.out⟩
set_option maxRecDepth 100000 in
set_option maxHeartbeats 4000000 in
theorem sclone_any (P : Option Addr) (c m : Nat) (g : Nat → E4) (w : World) (hn : P = none → m = 0 ∧ c = 0) (hc : ∀ a, P = some a → ∀ j u, (svs m g)[j]? = some u → w.cell? (a.add j) = some u) (hl : m ≤ 4398046510976) :
    Calls Tryd.prog 20 #[.slice P m c] w fun e w' => ∃ (Q : Option Addr) (d : Nat), e = .returned (.slice Q m d) ∧ w'.ownsRow w.heap.size 26 4 (.slice Q m d) m (svs m g) ∧ Below w.heap.size w w' := by
  have eqn := fun (a : Option Addr) (l c : Nat) (w : World) => Lib.run_eql_slice_nil (P := Tryd.prog) w 23 26 a l c 0 0 (by kernel_rfl)
  have HL := hidden hl
  cases P with
  | none =>
    obtain ⟨rfl, rfl⟩ := hn rfl
    clear hn hc hl
    go_enter Tryd.func20, Tryd.ntmps20
    go_wp2_with fail
    refine bodyPost_ret (v := .slice none 0 0) (by simp [results, Tryd.results20, go_sem]) rfl ⟨none, 0, rfl, World.ownsRow_nil _ _ _ _, Below.refl _ _⟩
  | some ad =>
    obtain ⟨i0, hi, hz0, hz1, hz2⟩ := info_parts infoR
    have HI := hidden hi
    have HZ0 := hidden hz0
    have HZ1 := hidden hz1
    have HZ2 := hidden hz2
    have HU : Hid (Tryd.prog.underlying 23 = some (.slice 26)) := hidden (by kernel_rfl)
    have O0 := hidden (World.ownsRow_made (base := w.heap.size) (e := 26) (size := 4) w #[] 0 (Nat.le_refl _) (by unfold maxLen; omega) rfl)
    have B0 := hidden (bl_alloc w (.cells #[] 26))
    have HC : Hid (∀ j u, (svs m g)[j]? = some u → (w.alloc (.cells #[] 26)).cell? (ad.add j) = some u) := hidden (fun j u hu => cell_keepR (hc ad rfl j u hu) (bl_alloc w _))
    clear hn hc hl hi hz0 hz1 hz2
    go_enter Tryd.func20, Tryd.ntmps20
    go_wp2_with (first | (at_builtin; refine wpList_append_own_at _ rfl _ _ 23 rfl w.heap.size 26 i0 (.agg #[.int .u64 0, .int .u64 0, .int .u64 0, .int .u64 0]) 4 32 HU.out HI.out HZ0.out HZ1.out HZ2.out rfl (by decide) _ 0 [] rfl O0.out ad m c (svs m g) rfl (svs_len _ _) HC.out (svs_oneR g m) (by have := HL.out; unfold maxLen; omega) (by have := HL.out; omega) B0.out.size ?_; intro v2 w2 ho2 hg2 hn2 ha2; have HO := hidden ho2; have HB := hidden (below_transR B0.out (below_grownR hg2 B0.out.size (fun k hk => (O0.out.lt k hk).1))); clear ho2 hg2 hn2 ha2; rw [Nat.zero_add, List.nil_append] at HO))
    obtain ⟨Q, d, rfl, -⟩ := own_shapeR HO.out
    refine bodyPost_ret (v := .slice Q m d) (by simp [results, Tryd.results20, go_sem]) rfl ⟨Q, d, rfl, HO.out, HB.out⟩

namespace Rp
theorem resone (p q : E4) (P1 P2 : Option Addr) (n1 c1 n2 c2 : Nat) : ([.int .u64 p.x0, .int .u64 p.x1, .int .u64 p.x2, .int .u64 p.x3, .int .u64 q.x0, .int .u64 q.x1, .int .u64 q.x2, .int .u64 q.x3, .slice P1 n1 c1, .slice P2 n2 c2] : List Value).toArray.all (·.oneCell') = true := by simp [Value.oneCell']
def rl1o : Array Oper := #[{ dst := some 3, op := Op.fieldAddr 35 (Operand.tmp 1) 0, type := 0, pos := "rounds.go:100", after := #[], guard := none },
  { dst := some 4, op := Op.load 33 (Operand.tmp 3), type := 33, pos := "rounds.go:100", after := #[{ on := 0, ground := Ground.data }], guard := none },
  { dst := some 5, op := Op.fieldAddr 35 (Operand.tmp 1) 1, type := 0, pos := "rounds.go:100", after := #[], guard := none },
  { dst := some 6, op := Op.load 33 (Operand.tmp 5), type := 33, pos := "rounds.go:100", after := #[{ on := 2, ground := Ground.data }], guard := none },
  { dst := some 7, op := Op.fieldAddr 35 (Operand.tmp 1) 2, type := 0, pos := "rounds.go:100", after := #[], guard := none },
  { dst := some 8, op := Op.load 29 (Operand.tmp 7), type := 29, pos := "rounds.go:100", after := #[{ on := 4, ground := Ground.data }], guard := none },
  { dst := some 9, op := Op.call { callee := Callee.value (Operand.func 19), args := #[Operand.tmp 8], argTypes := #[29] }, type := 29, pos := "rounds.go:100", after := #[{ on := 5, ground := Ground.data }], guard := none },
  { dst := some 10, op := Op.fieldAddr 35 (Operand.tmp 1) 3, type := 0, pos := "rounds.go:100", after := #[], guard := none },
  { dst := some 11, op := Op.load 29 (Operand.tmp 10), type := 29, pos := "rounds.go:100", after := #[{ on := 7, ground := Ground.data }], guard := none },
  { dst := some 12, op := Op.call { callee := Callee.value (Operand.func 19), args := #[Operand.tmp 11], argTypes := #[29] }, type := 29, pos := "rounds.go:100", after := #[{ on := 8, ground := Ground.data }, { on := 6, ground := Ground.chain }], guard := none },
  { dst := some 13, op := Op.build 35 #[(0, Operand.tmp 4), (1, Operand.tmp 6), (2, Operand.tmp 9), (3, Operand.tmp 12)], type := 35, pos := "rounds.go:100", after := #[{ on := 1, ground := Ground.data }, { on := 3, ground := Ground.data }, { on := 6, ground := Ground.data }, { on := 9, ground := Ground.data }], guard := none },
  { dst := none, op := Op.store 35 (Operand.tmp 2) (Operand.tmp 13), type := 0, pos := "rounds.go:100", after := #[{ on := 10, ground := Ground.data }, { on := 9, ground := Ground.chain }, { on := 0, ground := Ground.phase }, { on := 1, ground := Ground.phase }, { on := 2, ground := Ground.phase }, { on := 3, ground := Ground.phase }, { on := 4, ground := Ground.phase }, { on := 5, ground := Ground.phase }, { on := 6, ground := Ground.phase }, { on := 7, ground := Ground.phase }, { on := 8, ground := Ground.phase }, { on := 9, ground := Ground.phase }, { on := 10, ground := Ground.phase }], guard := none }]
set_option maxRecDepth 100000 in
set_option maxHeartbeats 16000000 in
theorem rl1 (Q : Exit → Act → World → Prop) (T1 T2 n g gc h hc : Nat) (p q : E4) (R1 R2 : World → Nat → Nat → Prop) (u0 u3 u4 u5 u6 u7 u8 u9 u10 u11 u12 u13 : Value) (W : World)
    (nx : T1 ≠ T2) (th : W.there T2 0 10) (a0 : W.cell? ⟨T1, 0, none⟩ = some (.int .u64 p.x0)) (a1 : W.cell? ⟨T1, 1, none⟩ = some (.int .u64 p.x1)) (a2 : W.cell? ⟨T1, 2, none⟩ = some (.int .u64 p.x2)) (a3 : W.cell? ⟨T1, 3, none⟩ = some (.int .u64 p.x3)) (b0 : W.cell? ⟨T1, 4, none⟩ = some (.int .u64 q.x0)) (b1 : W.cell? ⟨T1, 5, none⟩ = some (.int .u64 q.x1)) (b2 : W.cell? ⟨T1, 6, none⟩ = some (.int .u64 q.x2)) (b3 : W.cell? ⟨T1, 7, none⟩ = some (.int .u64 q.x3)) (c0 : W.cell? ⟨T1, 8, none⟩ = some (.slice (some ⟨g, 0, none⟩) n gc)) (c1 : W.cell? ⟨T1, 9, none⟩ = some (.slice (some ⟨h, 0, none⟩) n hc))
    (K1 : Hid (∀ (v v' : World) (a b : Nat), R1 v a b → Below v.heap.size v v' → R1 v' a b)) (C6 : Hid (∀ y, W.grownBy y (some T2) → Calls Tryd.prog 19 #[.slice (some ⟨g, 0, none⟩) n gc] y fun e w' => ∃ n1 m1 : Nat, e = .returned (.slice (some ⟨n1, 0, none⟩) n m1) ∧ y.heap.size ≤ n1 ∧ R1 w' n1 m1 ∧ Below y.heap.size y w'))
    (C9 : Hid (∀ y, W.grownBy y (some T2) → Calls Tryd.prog 19 #[.slice (some ⟨h, 0, none⟩) n hc] y fun e w' => ∃ n2 m2 : Nat, e = .returned (.slice (some ⟨n2, 0, none⟩) n m2) ∧ y.heap.size ≤ n2 ∧ R2 w' n2 m2 ∧ Below y.heap.size y w'))
    (HQ : Hid (∀ (n1 m1 n2 m2 : Nat) (wz : World), W.heap.size ≤ n1 → W.heap.size ≤ n2 → (∃ wy, Below W.heap.size W wy ∧ R1 wy n1 m1 ∧ R2 wy n2 m2 ∧ wy.there T2 0 10 ∧ wz = wy.setCells T2 0 [.int .u64 p.x0, .int .u64 p.x1, .int .u64 p.x2, .int .u64 p.x3, .int .u64 q.x0, .int .u64 q.x1, .int .u64 q.x2, .int .u64 q.x3, .slice (some ⟨n1, 0, none⟩) n m1, .slice (some ⟨n2, 0, none⟩) n m2]) → Q .normal ⟨#[u0, .pointer (some ⟨T1, 0, none⟩), .pointer (some ⟨T2, 0, none⟩), .pointer (some ⟨T1, 0, none⟩), .agg #[.int .u64 p.x0, .int .u64 p.x1, .int .u64 p.x2, .int .u64 p.x3], .pointer (some ⟨T1, 4, none⟩), .agg #[.int .u64 q.x0, .int .u64 q.x1, .int .u64 q.x2, .int .u64 q.x3], .pointer (some ⟨T1, 8, none⟩), .slice (some ⟨g, 0, none⟩) n gc, .slice (some ⟨n1, 0, none⟩) n m1, .pointer (some ⟨T1, 9, none⟩), .slice (some ⟨h, 0, none⟩) n hc, .slice (some ⟨n2, 0, none⟩) n m2, .agg [.int .u64 p.x0, .int .u64 p.x1, .int .u64 p.x2, .int .u64 p.x3, .int .u64 q.x0, .int .u64 q.x1, .int .u64 q.x2, .int .u64 q.x3, .slice (some ⟨n1, 0, none⟩) n m1, .slice (some ⟨n2, 0, none⟩) n m2].toArray], []⟩ wz)) : (Code.region 1 rl1o true).wp Tryd.prog Q ⟨#[u0, .pointer (some ⟨T1, 0, none⟩), .pointer (some ⟨T2, 0, none⟩), u3, u4, u5, u6, u7, u8, u9, u10, u11, u12, u13], []⟩ W := by
  have TH := hidden (there_keepM th (bl_drewR W))
  have BB := hidden (bl_drewR W)
  clear th
  unfold rl1o
  refine wp_region_noPanic ?_
  refine wp_region_held_drew (S := fun x => W.grownBy x (some T2)) (by kernel_rfl) (gbI (bl_drewR W) _) (fun hH0 => ?_)
  refine wpAnyH_take (i := 0) (oi := { dst := some 3, op := Op.fieldAddr 35 (Operand.tmp 1) 0, type := 0, pos := "rounds.go:100", after := #[], guard := none }) (v := .pointer (some ⟨T1, 0, none⟩)) rfl (by kernel_rfl) (by kernel_rfl) (by kernel_rfl) (fun _ _ _ h => h) (Or.inl ⟨by rfl, fun w0 hSw => ?_⟩) hH0 ?_
  · (clear hSw; go_simp)
  simp only [Act.put, List.setIfInBounds_toArray, List.set_cons_zero, List.set_cons_succ]
  refine wpAnyH_take (i := 2) (oi := { dst := some 5, op := Op.fieldAddr 35 (Operand.tmp 1) 1, type := 0, pos := "rounds.go:100", after := #[], guard := none }) (v := .pointer (some ⟨T1, 4, none⟩)) rfl (by kernel_rfl) (by kernel_rfl) (by kernel_rfl) (fun _ _ _ h => h) (Or.inl ⟨by rfl, fun w0 hSw => ?_⟩) hH0 ?_
  · (clear hSw; go_simp)
  simp only [Act.put, List.setIfInBounds_toArray, List.set_cons_zero, List.set_cons_succ]
  refine wpAnyH_take (i := 4) (oi := { dst := some 7, op := Op.fieldAddr 35 (Operand.tmp 1) 2, type := 0, pos := "rounds.go:100", after := #[], guard := none }) (v := .pointer (some ⟨T1, 8, none⟩)) rfl (by kernel_rfl) (by kernel_rfl) (by kernel_rfl) (fun _ _ _ h => h) (Or.inl ⟨by rfl, fun w0 hSw => ?_⟩) hH0 ?_
  · (clear hSw; go_simp)
  simp only [Act.put, List.setIfInBounds_toArray, List.set_cons_zero, List.set_cons_succ]
  refine wpAnyH_take (i := 7) (oi := { dst := some 10, op := Op.fieldAddr 35 (Operand.tmp 1) 3, type := 0, pos := "rounds.go:100", after := #[], guard := none }) (v := .pointer (some ⟨T1, 9, none⟩)) rfl (by kernel_rfl) (by kernel_rfl) (by kernel_rfl) (fun _ _ _ h => h) (Or.inl ⟨by rfl, fun w0 hSw => ?_⟩) hH0 ?_
  · (clear hSw; go_simp)
  simp only [Act.put, List.setIfInBounds_toArray, List.set_cons_zero, List.set_cons_succ]
  refine wpAnyH_take (i := 1) (oi := { dst := some 4, op := Op.load 33 (Operand.tmp 3), type := 33, pos := "rounds.go:100", after := #[{ on := 0, ground := Ground.data }], guard := none }) (v := .agg #[.int .u64 p.x0, .int .u64 p.x1, .int .u64 p.x2, .int .u64 p.x3]) rfl (by kernel_rfl) (by kernel_rfl) (by kernel_rfl) (fun _ _ _ h => h) (Or.inl ⟨by rfl, fun w0 hSw => ?_⟩) hH0 ?_
  · (have hS : W.grownBy w0 (some T2) := hSw; have a0 := hS.cell a0 (fun e => nx (Option.some.inj e)); have a1 := hS.cell a1 (fun e => nx (Option.some.inj e)); have a2 := hS.cell a2 (fun e => nx (Option.some.inj e)); have a3 := hS.cell a3 (fun e => nx (Option.some.inj e)); clear hS hSw; go_simp)
  simp only [Act.put, List.setIfInBounds_toArray, List.set_cons_zero, List.set_cons_succ]
  refine wpAnyH_take (i := 3) (oi := { dst := some 6, op := Op.load 33 (Operand.tmp 5), type := 33, pos := "rounds.go:100", after := #[{ on := 2, ground := Ground.data }], guard := none }) (v := .agg #[.int .u64 q.x0, .int .u64 q.x1, .int .u64 q.x2, .int .u64 q.x3]) rfl (by kernel_rfl) (by kernel_rfl) (by kernel_rfl) (fun _ _ _ h => h) (Or.inl ⟨by rfl, fun w0 hSw => ?_⟩) hH0 ?_
  · (have hS : W.grownBy w0 (some T2) := hSw; have a0 := hS.cell b0 (fun e => nx (Option.some.inj e)); have a1 := hS.cell b1 (fun e => nx (Option.some.inj e)); have a2 := hS.cell b2 (fun e => nx (Option.some.inj e)); have a3 := hS.cell b3 (fun e => nx (Option.some.inj e)); clear hS hSw; go_simp)
  simp only [Act.put, List.setIfInBounds_toArray, List.set_cons_zero, List.set_cons_succ]
  refine wpAnyH_take (i := 5) (oi := { dst := some 8, op := Op.load 29 (Operand.tmp 7), type := 29, pos := "rounds.go:100", after := #[{ on := 4, ground := Ground.data }], guard := none }) (v := .slice (some ⟨g, 0, none⟩) n gc) rfl (by kernel_rfl) (by kernel_rfl) (by kernel_rfl) (fun _ _ _ h => h) (Or.inl ⟨by rfl, fun w0 hSw => ?_⟩) hH0 ?_
  · (have hS : W.grownBy w0 (some T2) := hSw; have a0 := hS.cell c0 (fun e => nx (Option.some.inj e)); clear hS hSw; go_simp)
  simp only [Act.put, List.setIfInBounds_toArray, List.set_cons_zero, List.set_cons_succ]
  refine wpAnyH_take (i := 8) (oi := { dst := some 11, op := Op.load 29 (Operand.tmp 10), type := 29, pos := "rounds.go:100", after := #[{ on := 7, ground := Ground.data }], guard := none }) (v := .slice (some ⟨h, 0, none⟩) n hc) rfl (by kernel_rfl) (by kernel_rfl) (by kernel_rfl) (fun _ _ _ h => h) (Or.inl ⟨by rfl, fun w0 hSw => ?_⟩) hH0 ?_
  · (have hS : W.grownBy w0 (some T2) := hSw; have a0 := hS.cell c1 (fun e => nx (Option.some.inj e)); clear hS hSw; go_simp)
  simp only [Act.put, List.setIfInBounds_toArray, List.set_cons_zero, List.set_cons_succ]
  refine wpAnyH_ready (rs := [6]) (by kernel_rfl) (by simp) ?_
  refine AllReadyH.cons (o := { dst := some 9, op := Op.call { callee := Callee.value (Operand.func 19), args := #[Operand.tmp 8], argTypes := #[29] }, type := 29, pos := "rounds.go:100", after := #[{ on := 5, ground := Ground.data }], guard := none }) rfl (fun K hK => ?_) AllReadyH.nil
  have HH := hidden hH0
  clear hH0
  go_simp
  refine (C6.out _ HH.out).mono ?_
  rintro e wn1 ⟨n1, m1, rfl, ge, r1, hb⟩
  have RA := hidden (And.intro (Nat.le_trans HH.out.size ge) r1)
  have SN := hidden (HH.out.trans (gbI hb _))
  replace TH := hidden (there_keepM TH.out hb)
  replace BB := hidden (bl_trans BB.out hb)
  clear HH C6 ge r1 hb
  go_wp2_with fail
  refine hK.out _ _ SN.out (fun hH1 => ?_)
  clear hK K SN
  refine wpAnyH_ready (rs := [9]) (by kernel_rfl) (by simp) ?_
  refine AllReadyH.cons (o := { dst := some 12, op := Op.call { callee := Callee.value (Operand.func 19), args := #[Operand.tmp 11], argTypes := #[29] }, type := 29, pos := "rounds.go:100", after := #[{ on := 8, ground := Ground.data }, { on := 6, ground := Ground.chain }], guard := none }) rfl (fun K hK => ?_) AllReadyH.nil
  have HH := hidden hH1
  clear hH1
  go_simp
  refine (C9.out _ HH.out).mono ?_
  rintro e wn2 ⟨n2, m2, rfl, ge, r2, hb⟩
  replace RA := hidden (And.intro RA.out.1 (K1.out _ _ _ _ RA.out.2 hb))
  have RB := hidden (And.intro (Nat.le_trans HH.out.size ge) r2)
  have SN := hidden (HH.out.trans (gbI hb _))
  replace TH := hidden (there_keepM TH.out hb)
  replace BB := hidden (bl_trans BB.out hb)
  clear HH C9 ge r2 hb
  go_wp2_with fail
  refine hK.out _ _ SN.out (fun hH2 => ?_)
  clear hK K SN
  refine wpAnyH_take (i := 10) (oi := { dst := some 13, op := Op.build 35 #[(0, Operand.tmp 4), (1, Operand.tmp 6), (2, Operand.tmp 9), (3, Operand.tmp 12)], type := 35, pos := "rounds.go:100", after := #[{ on := 1, ground := Ground.data }, { on := 3, ground := Ground.data }, { on := 6, ground := Ground.data }, { on := 9, ground := Ground.data }], guard := none }) (v := .agg [.int .u64 p.x0, .int .u64 p.x1, .int .u64 p.x2, .int .u64 p.x3, .int .u64 q.x0, .int .u64 q.x1, .int .u64 q.x2, .int .u64 q.x3, .slice (some ⟨n1, 0, none⟩) n m1, .slice (some ⟨n2, 0, none⟩) n m2].toArray) rfl (by kernel_rfl) (by kernel_rfl) (by kernel_rfl) (fun _ _ _ h => h) (Or.inl ⟨by rfl, fun w0 hSw => ?_⟩) hH2 ?_
  · (clear hSw; go_simp)
  simp only [Act.put, List.setIfInBounds_toArray, List.set_cons_zero, List.set_cons_succ]
  refine wpAnyH_ready (rs := [11]) (by kernel_rfl) (by simp) ?_
  refine AllReadyH.cons (o := { dst := none, op := Op.store 35 (Operand.tmp 2) (Operand.tmp 13), type := 0, pos := "rounds.go:100", after := #[{ on := 10, ground := Ground.data }, { on := 9, ground := Ground.chain }, { on := 0, ground := Ground.phase }, { on := 1, ground := Ground.phase }, { on := 2, ground := Ground.phase }, { on := 3, ground := Ground.phase }, { on := 4, ground := Ground.phase }, { on := 5, ground := Ground.phase }, { on := 6, ground := Ground.phase }, { on := 7, ground := Ground.phase }, { on := 8, ground := Ground.phase }, { on := 9, ground := Ground.phase }, { on := 10, ground := Ground.phase }], guard := none }) rfl (fun K hK => ?_) AllReadyH.nil
  have HH := hidden hH2
  clear hH2
  refine wp_storeE 35 _ _ rfl T2 0 ([.int .u64 p.x0, .int .u64 p.x1, .int .u64 p.x2, .int .u64 p.x3, .int .u64 q.x0, .int .u64 q.x1, .int .u64 q.x2, .int .u64 q.x3, .slice (some ⟨n1, 0, none⟩) n m1, .slice (some ⟨n2, 0, none⟩) n m2]) (by rfl) (by rfl) TH.out stinfo (resone _ _ _ _ _ _ _ _) rfl (fun wn3 hw => ?_)
  have SN := hidden (HH.out.trans (gb_setCells T2 [.int .u64 p.x0, .int .u64 p.x1, .int .u64 p.x2, .int .u64 p.x3, .int .u64 q.x0, .int .u64 q.x1, .int .u64 q.x2, .int .u64 q.x3, .slice (some ⟨n1, 0, none⟩) n m1, .slice (some ⟨n2, 0, none⟩) n m2] 0 _))
  have FE := hidden ((⟨_, BB.out, RA.out.2, RB.out.2, TH.out, hw⟩ : ∃ wy, Below W.heap.size W wy ∧ R1 wy n1 m1 ∧ R2 wy n2 m2 ∧ wy.there T2 0 10 ∧ _ = wy.setCells T2 0 [.int .u64 p.x0, .int .u64 p.x1, .int .u64 p.x2, .int .u64 p.x3, .int .u64 q.x0, .int .u64 q.x1, .int .u64 q.x2, .int .u64 q.x3, .slice (some ⟨n1, 0, none⟩) n m1, .slice (some ⟨n2, 0, none⟩) n m2]))
  rw [← hw] at SN
  clear HH hw
  refine hK.out _ _ SN.out (fun hH3 => ?_)
  clear hK K SN
  have HH := hidden hH3
  have FQ := hidden (HQ.out n1 m1 n2 m2 _ RA.out.1 RB.out.1 FE.out)
  refine wpAnyH_done (by kernel_rfl) ?_ _
  refine NoPanic.normal ?_
  exact FQ.out
def rm2o : Array Oper := #[{ dst := some 4, op := Op.load 33 (Operand.tmp 3), type := 33, pos := "rounds.go:106", after := #[], guard := none },
  { dst := some 5, op := Op.makeInterface 33 (Operand.tmp 4), type := 20, pos := "rounds.go:106", after := #[{ on := 0, ground := Ground.data }], guard := none },
  { dst := some 6, op := Op.fieldAddr 35 (Operand.tmp 1) 0, type := 0, pos := "rounds.go:106", after := #[], guard := none },
  { dst := some 7, op := Op.load 33 (Operand.tmp 6), type := 33, pos := "rounds.go:106", after := #[{ on := 2, ground := Ground.data }], guard := none },
  { dst := some 8, op := Op.call { callee := Callee.invoke (Operand.tmp 5) "Add", args := #[Operand.tmp 7], argTypes := #[33] }, type := 33, pos := "rounds.go:106", after := #[{ on := 1, ground := Ground.data }, { on := 3, ground := Ground.data }], guard := none },
  { dst := some 9, op := Op.fieldAddr 35 (Operand.tmp 1) 1, type := 0, pos := "rounds.go:106", after := #[], guard := none },
  { dst := some 10, op := Op.load 33 (Operand.tmp 9), type := 33, pos := "rounds.go:106", after := #[{ on := 5, ground := Ground.data }], guard := none },
  { dst := some 11, op := Op.fieldAddr 35 (Operand.tmp 1) 2, type := 0, pos := "rounds.go:106", after := #[], guard := none },
  { dst := some 12, op := Op.load 29 (Operand.tmp 11), type := 29, pos := "rounds.go:106", after := #[{ on := 7, ground := Ground.data }], guard := none },
  { dst := some 13, op := Op.call { callee := Callee.value (Operand.func 37), args := #[Operand.tmp 12], argTypes := #[29] }, type := 29, pos := "rounds.go:106", after := #[{ on := 8, ground := Ground.data }, { on := 4, ground := Ground.chain }], guard := none },
  { dst := some 14, op := Op.fieldAddr 35 (Operand.tmp 1) 3, type := 0, pos := "rounds.go:106", after := #[], guard := none },
  { dst := some 15, op := Op.load 29 (Operand.tmp 14), type := 29, pos := "rounds.go:106", after := #[{ on := 10, ground := Ground.data }], guard := none },
  { dst := some 16, op := Op.call { callee := Callee.value (Operand.func 37), args := #[Operand.tmp 15], argTypes := #[29] }, type := 29, pos := "rounds.go:106", after := #[{ on := 11, ground := Ground.data }, { on := 9, ground := Ground.chain }], guard := none },
  { dst := some 17, op := Op.build 35 #[(0, Operand.tmp 8), (1, Operand.tmp 10), (2, Operand.tmp 13), (3, Operand.tmp 16)], type := 35, pos := "rounds.go:106", after := #[{ on := 4, ground := Ground.data }, { on := 6, ground := Ground.data }, { on := 9, ground := Ground.data }, { on := 12, ground := Ground.data }], guard := none },
  { dst := none, op := Op.store 35 (Operand.tmp 2) (Operand.tmp 17), type := 0, pos := "rounds.go:106", after := #[{ on := 13, ground := Ground.data }, { on := 12, ground := Ground.chain }, { on := 0, ground := Ground.phase }, { on := 1, ground := Ground.phase }, { on := 2, ground := Ground.phase }, { on := 3, ground := Ground.phase }, { on := 4, ground := Ground.phase }, { on := 5, ground := Ground.phase }, { on := 6, ground := Ground.phase }, { on := 7, ground := Ground.phase }, { on := 8, ground := Ground.phase }, { on := 9, ground := Ground.phase }, { on := 10, ground := Ground.phase }, { on := 11, ground := Ground.phase }, { on := 12, ground := Ground.phase }, { on := 13, ground := Ground.phase }], guard := none }]
set_option maxRecDepth 100000 in
set_option maxHeartbeats 16000000 in
theorem rm2 (Q : Exit → Act → World → Prop) (T1 T2 T3 n g gc h hc : Nat) (o p q z : E4) (R1 R2 : World → Nat → Prop) (u0 u4 u5 u6 u7 u8 u9 u10 u11 u12 u13 u14 u15 u16 u17 : Value) (W : World)
    (nx : T1 ≠ T2) (n3 : T3 ≠ T2) (th : W.there T2 0 10) (o0 : W.cell? ⟨T3, 0, none⟩ = some (.int .u64 o.x0)) (o1 : W.cell? ⟨T3, 1, none⟩ = some (.int .u64 o.x1)) (o2 : W.cell? ⟨T3, 2, none⟩ = some (.int .u64 o.x2)) (o3 : W.cell? ⟨T3, 3, none⟩ = some (.int .u64 o.x3)) (a0 : W.cell? ⟨T1, 0, none⟩ = some (.int .u64 p.x0)) (a1 : W.cell? ⟨T1, 1, none⟩ = some (.int .u64 p.x1)) (a2 : W.cell? ⟨T1, 2, none⟩ = some (.int .u64 p.x2)) (a3 : W.cell? ⟨T1, 3, none⟩ = some (.int .u64 p.x3)) (b0 : W.cell? ⟨T1, 4, none⟩ = some (.int .u64 q.x0)) (b1 : W.cell? ⟨T1, 5, none⟩ = some (.int .u64 q.x1)) (b2 : W.cell? ⟨T1, 6, none⟩ = some (.int .u64 q.x2)) (b3 : W.cell? ⟨T1, 7, none⟩ = some (.int .u64 q.x3)) (c0 : W.cell? ⟨T1, 8, none⟩ = some (.slice (some ⟨g, 0, none⟩) n gc)) (c1 : W.cell? ⟨T1, 9, none⟩ = some (.slice (some ⟨h, 0, none⟩) n hc))
    (mt : ∀ w : World, (method 199 33 (.agg #[.int .u64 o.x0, .int .u64 o.x1, .int .u64 o.x2, .int .u64 o.x3]) "Add").run Tryd.prog w = .ok (65, .agg #[.int .u64 o.x0, .int .u64 o.x1, .int .u64 o.x2, .int .u64 o.x3]) w)
    (K1 : Hid (∀ (v v' : World) (a : Nat), R1 v a → Below v.heap.size v v' → R1 v' a))
    (C4 : Hid (∀ y, W.grownBy y (some T2) → Calls Tryd.prog 65 #[.agg #[.int .u64 o.x0, .int .u64 o.x1, .int .u64 o.x2, .int .u64 o.x3], .agg #[.int .u64 p.x0, .int .u64 p.x1, .int .u64 p.x2, .int .u64 p.x3]] y fun e w' => e = .returned (.agg #[.int .u64 z.x0, .int .u64 z.x1, .int .u64 z.x2, .int .u64 z.x3]) ∧ Below y.heap.size y w'))
    (C9 : Hid (∀ y, W.grownBy y (some T2) → Calls Tryd.prog 37 #[.slice (some ⟨g, 0, none⟩) n gc] y fun e w' => ∃ n1 : Nat, e = .returned (.slice (some ⟨n1, 0, none⟩) n n) ∧ y.heap.size ≤ n1 ∧ R1 w' n1 ∧ Below y.heap.size y w'))
    (C12 : Hid (∀ y, W.grownBy y (some T2) → Calls Tryd.prog 37 #[.slice (some ⟨h, 0, none⟩) n hc] y fun e w' => ∃ n2 : Nat, e = .returned (.slice (some ⟨n2, 0, none⟩) n n) ∧ y.heap.size ≤ n2 ∧ R2 w' n2 ∧ Below y.heap.size y w'))
    (HQ : Hid (∀ (n1 n2 : Nat) (wz : World), W.heap.size ≤ n1 → W.heap.size ≤ n2 → (∃ wy, Below W.heap.size W wy ∧ R1 wy n1 ∧ R2 wy n2 ∧ wy.there T2 0 10 ∧ wz = wy.setCells T2 0 [.int .u64 z.x0, .int .u64 z.x1, .int .u64 z.x2, .int .u64 z.x3, .int .u64 q.x0, .int .u64 q.x1, .int .u64 q.x2, .int .u64 q.x3, .slice (some ⟨n1, 0, none⟩) n n, .slice (some ⟨n2, 0, none⟩) n n]) → Q .normal ⟨#[u0, .pointer (some ⟨T1, 0, none⟩), .pointer (some ⟨T2, 0, none⟩), .pointer (some ⟨T3, 0, none⟩), .agg #[.int .u64 o.x0, .int .u64 o.x1, .int .u64 o.x2, .int .u64 o.x3], .iface 33 (.agg #[.int .u64 o.x0, .int .u64 o.x1, .int .u64 o.x2, .int .u64 o.x3]), .pointer (some ⟨T1, 0, none⟩), .agg #[.int .u64 p.x0, .int .u64 p.x1, .int .u64 p.x2, .int .u64 p.x3], .agg #[.int .u64 z.x0, .int .u64 z.x1, .int .u64 z.x2, .int .u64 z.x3], .pointer (some ⟨T1, 4, none⟩), .agg #[.int .u64 q.x0, .int .u64 q.x1, .int .u64 q.x2, .int .u64 q.x3], .pointer (some ⟨T1, 8, none⟩), .slice (some ⟨g, 0, none⟩) n gc, .slice (some ⟨n1, 0, none⟩) n n, .pointer (some ⟨T1, 9, none⟩), .slice (some ⟨h, 0, none⟩) n hc, .slice (some ⟨n2, 0, none⟩) n n, .agg [.int .u64 z.x0, .int .u64 z.x1, .int .u64 z.x2, .int .u64 z.x3, .int .u64 q.x0, .int .u64 q.x1, .int .u64 q.x2, .int .u64 q.x3, .slice (some ⟨n1, 0, none⟩) n n, .slice (some ⟨n2, 0, none⟩) n n].toArray], []⟩ wz)) : (Code.region 2 rm2o true).wp Tryd.prog Q ⟨#[u0, .pointer (some ⟨T1, 0, none⟩), .pointer (some ⟨T2, 0, none⟩), .pointer (some ⟨T3, 0, none⟩), u4, u5, u6, u7, u8, u9, u10, u11, u12, u13, u14, u15, u16, u17], []⟩ W := by
  have TH := hidden (there_keepM th (bl_drewR W))
  have BB := hidden (bl_drewR W)
  clear th
  unfold rm2o
  refine wp_region_noPanic ?_
  refine wp_region_held_drew (S := fun x => W.grownBy x (some T2)) (by kernel_rfl) (gbI (bl_drewR W) _) (fun hH0 => ?_)
  refine wpAnyH_take (i := 0) (oi := { dst := some 4, op := Op.load 33 (Operand.tmp 3), type := 33, pos := "rounds.go:106", after := #[], guard := none }) (v := .agg #[.int .u64 o.x0, .int .u64 o.x1, .int .u64 o.x2, .int .u64 o.x3]) rfl (by kernel_rfl) (by kernel_rfl) (by kernel_rfl) (fun _ _ _ h => h) (Or.inl ⟨by rfl, fun w0 hSw => ?_⟩) hH0 ?_
  · (have hS : W.grownBy w0 (some T2) := hSw; have a0 := hS.cell o0 (fun e => n3 (Option.some.inj e)); have a1 := hS.cell o1 (fun e => n3 (Option.some.inj e)); have a2 := hS.cell o2 (fun e => n3 (Option.some.inj e)); have a3 := hS.cell o3 (fun e => n3 (Option.some.inj e)); clear hS hSw; go_simp)
  simp only [Act.put, List.setIfInBounds_toArray, List.set_cons_zero, List.set_cons_succ]
  refine wpAnyH_take (i := 2) (oi := { dst := some 6, op := Op.fieldAddr 35 (Operand.tmp 1) 0, type := 0, pos := "rounds.go:106", after := #[], guard := none }) (v := .pointer (some ⟨T1, 0, none⟩)) rfl (by kernel_rfl) (by kernel_rfl) (by kernel_rfl) (fun _ _ _ h => h) (Or.inl ⟨by rfl, fun w0 hSw => ?_⟩) hH0 ?_
  · (clear hSw; go_simp)
  simp only [Act.put, List.setIfInBounds_toArray, List.set_cons_zero, List.set_cons_succ]
  refine wpAnyH_take (i := 5) (oi := { dst := some 9, op := Op.fieldAddr 35 (Operand.tmp 1) 1, type := 0, pos := "rounds.go:106", after := #[], guard := none }) (v := .pointer (some ⟨T1, 4, none⟩)) rfl (by kernel_rfl) (by kernel_rfl) (by kernel_rfl) (fun _ _ _ h => h) (Or.inl ⟨by rfl, fun w0 hSw => ?_⟩) hH0 ?_
  · (clear hSw; go_simp)
  simp only [Act.put, List.setIfInBounds_toArray, List.set_cons_zero, List.set_cons_succ]
  refine wpAnyH_take (i := 7) (oi := { dst := some 11, op := Op.fieldAddr 35 (Operand.tmp 1) 2, type := 0, pos := "rounds.go:106", after := #[], guard := none }) (v := .pointer (some ⟨T1, 8, none⟩)) rfl (by kernel_rfl) (by kernel_rfl) (by kernel_rfl) (fun _ _ _ h => h) (Or.inl ⟨by rfl, fun w0 hSw => ?_⟩) hH0 ?_
  · (clear hSw; go_simp)
  simp only [Act.put, List.setIfInBounds_toArray, List.set_cons_zero, List.set_cons_succ]
  refine wpAnyH_take (i := 10) (oi := { dst := some 14, op := Op.fieldAddr 35 (Operand.tmp 1) 3, type := 0, pos := "rounds.go:106", after := #[], guard := none }) (v := .pointer (some ⟨T1, 9, none⟩)) rfl (by kernel_rfl) (by kernel_rfl) (by kernel_rfl) (fun _ _ _ h => h) (Or.inl ⟨by rfl, fun w0 hSw => ?_⟩) hH0 ?_
  · (clear hSw; go_simp)
  simp only [Act.put, List.setIfInBounds_toArray, List.set_cons_zero, List.set_cons_succ]
  refine wpAnyH_take (i := 1) (oi := { dst := some 5, op := Op.makeInterface 33 (Operand.tmp 4), type := 20, pos := "rounds.go:106", after := #[{ on := 0, ground := Ground.data }], guard := none }) (v := .iface 33 (.agg #[.int .u64 o.x0, .int .u64 o.x1, .int .u64 o.x2, .int .u64 o.x3])) rfl (by kernel_rfl) (by kernel_rfl) (by kernel_rfl) (fun _ _ _ h => h) (Or.inl ⟨by rfl, fun w0 hSw => ?_⟩) hH0 ?_
  · (clear hSw; go_simp)
  simp only [Act.put, List.setIfInBounds_toArray, List.set_cons_zero, List.set_cons_succ]
  refine wpAnyH_take (i := 3) (oi := { dst := some 7, op := Op.load 33 (Operand.tmp 6), type := 33, pos := "rounds.go:106", after := #[{ on := 2, ground := Ground.data }], guard := none }) (v := .agg #[.int .u64 p.x0, .int .u64 p.x1, .int .u64 p.x2, .int .u64 p.x3]) rfl (by kernel_rfl) (by kernel_rfl) (by kernel_rfl) (fun _ _ _ h => h) (Or.inl ⟨by rfl, fun w0 hSw => ?_⟩) hH0 ?_
  · (have hS : W.grownBy w0 (some T2) := hSw; have a0 := hS.cell a0 (fun e => nx (Option.some.inj e)); have a1 := hS.cell a1 (fun e => nx (Option.some.inj e)); have a2 := hS.cell a2 (fun e => nx (Option.some.inj e)); have a3 := hS.cell a3 (fun e => nx (Option.some.inj e)); clear hS hSw; go_simp)
  simp only [Act.put, List.setIfInBounds_toArray, List.set_cons_zero, List.set_cons_succ]
  refine wpAnyH_take (i := 6) (oi := { dst := some 10, op := Op.load 33 (Operand.tmp 9), type := 33, pos := "rounds.go:106", after := #[{ on := 5, ground := Ground.data }], guard := none }) (v := .agg #[.int .u64 q.x0, .int .u64 q.x1, .int .u64 q.x2, .int .u64 q.x3]) rfl (by kernel_rfl) (by kernel_rfl) (by kernel_rfl) (fun _ _ _ h => h) (Or.inl ⟨by rfl, fun w0 hSw => ?_⟩) hH0 ?_
  · (have hS : W.grownBy w0 (some T2) := hSw; have a0 := hS.cell b0 (fun e => nx (Option.some.inj e)); have a1 := hS.cell b1 (fun e => nx (Option.some.inj e)); have a2 := hS.cell b2 (fun e => nx (Option.some.inj e)); have a3 := hS.cell b3 (fun e => nx (Option.some.inj e)); clear hS hSw; go_simp)
  simp only [Act.put, List.setIfInBounds_toArray, List.set_cons_zero, List.set_cons_succ]
  refine wpAnyH_take (i := 8) (oi := { dst := some 12, op := Op.load 29 (Operand.tmp 11), type := 29, pos := "rounds.go:106", after := #[{ on := 7, ground := Ground.data }], guard := none }) (v := .slice (some ⟨g, 0, none⟩) n gc) rfl (by kernel_rfl) (by kernel_rfl) (by kernel_rfl) (fun _ _ _ h => h) (Or.inl ⟨by rfl, fun w0 hSw => ?_⟩) hH0 ?_
  · (have hS : W.grownBy w0 (some T2) := hSw; have a0 := hS.cell c0 (fun e => nx (Option.some.inj e)); clear hS hSw; go_simp)
  simp only [Act.put, List.setIfInBounds_toArray, List.set_cons_zero, List.set_cons_succ]
  refine wpAnyH_take (i := 11) (oi := { dst := some 15, op := Op.load 29 (Operand.tmp 14), type := 29, pos := "rounds.go:106", after := #[{ on := 10, ground := Ground.data }], guard := none }) (v := .slice (some ⟨h, 0, none⟩) n hc) rfl (by kernel_rfl) (by kernel_rfl) (by kernel_rfl) (fun _ _ _ h => h) (Or.inl ⟨by rfl, fun w0 hSw => ?_⟩) hH0 ?_
  · (have hS : W.grownBy w0 (some T2) := hSw; have a0 := hS.cell c1 (fun e => nx (Option.some.inj e)); clear hS hSw; go_simp)
  simp only [Act.put, List.setIfInBounds_toArray, List.set_cons_zero, List.set_cons_succ]
  refine wpAnyH_ready (rs := [4]) (by kernel_rfl) (by simp) ?_
  refine AllReadyH.cons (o := { dst := some 8, op := Op.call { callee := Callee.invoke (Operand.tmp 5) "Add", args := #[Operand.tmp 7], argTypes := #[33] }, type := 33, pos := "rounds.go:106", after := #[{ on := 1, ground := Ground.data }, { on := 3, ground := Ground.data }], guard := none }) rfl (fun K hK => ?_) AllReadyH.nil
  have HH := hidden hH0
  clear hH0
  go_simp
  refine (C4.out _ HH.out).mono ?_
  rintro e wn1 ⟨rfl, hb⟩
  have SN := hidden (HH.out.trans (gbI hb _))
  replace TH := hidden (there_keepM TH.out hb)
  replace BB := hidden (bl_trans BB.out hb)
  clear HH C4 hb
  go_wp2_with fail
  refine hK.out _ _ SN.out (fun hH1 => ?_)
  clear hK K SN
  refine wpAnyH_ready (rs := [9]) (by kernel_rfl) (by simp) ?_
  refine AllReadyH.cons (o := { dst := some 13, op := Op.call { callee := Callee.value (Operand.func 37), args := #[Operand.tmp 12], argTypes := #[29] }, type := 29, pos := "rounds.go:106", after := #[{ on := 8, ground := Ground.data }, { on := 4, ground := Ground.chain }], guard := none }) rfl (fun K hK => ?_) AllReadyH.nil
  have HH := hidden hH1
  clear hH1
  go_simp
  refine (C9.out _ HH.out).mono ?_
  rintro e wn2 ⟨n1, rfl, ge, r1, hb⟩
  have RA := hidden (And.intro (Nat.le_trans HH.out.size ge) r1)
  have SN := hidden (HH.out.trans (gbI hb _))
  replace TH := hidden (there_keepM TH.out hb)
  replace BB := hidden (bl_trans BB.out hb)
  clear HH C9 ge r1 hb
  go_wp2_with fail
  refine hK.out _ _ SN.out (fun hH2 => ?_)
  clear hK K SN
  refine wpAnyH_ready (rs := [12]) (by kernel_rfl) (by simp) ?_
  refine AllReadyH.cons (o := { dst := some 16, op := Op.call { callee := Callee.value (Operand.func 37), args := #[Operand.tmp 15], argTypes := #[29] }, type := 29, pos := "rounds.go:106", after := #[{ on := 11, ground := Ground.data }, { on := 9, ground := Ground.chain }], guard := none }) rfl (fun K hK => ?_) AllReadyH.nil
  have HH := hidden hH2
  clear hH2
  go_simp
  refine (C12.out _ HH.out).mono ?_
  rintro e wn3 ⟨n2, rfl, ge, r2, hb⟩
  replace RA := hidden (And.intro RA.out.1 (K1.out _ _ _ RA.out.2 hb))
  have RB := hidden (And.intro (Nat.le_trans HH.out.size ge) r2)
  have SN := hidden (HH.out.trans (gbI hb _))
  replace TH := hidden (there_keepM TH.out hb)
  replace BB := hidden (bl_trans BB.out hb)
  clear HH C12 ge r2 hb
  go_wp2_with fail
  refine hK.out _ _ SN.out (fun hH3 => ?_)
  clear hK K SN
  refine wpAnyH_take (i := 13) (oi := { dst := some 17, op := Op.build 35 #[(0, Operand.tmp 8), (1, Operand.tmp 10), (2, Operand.tmp 13), (3, Operand.tmp 16)], type := 35, pos := "rounds.go:106", after := #[{ on := 4, ground := Ground.data }, { on := 6, ground := Ground.data }, { on := 9, ground := Ground.data }, { on := 12, ground := Ground.data }], guard := none }) (v := .agg [.int .u64 z.x0, .int .u64 z.x1, .int .u64 z.x2, .int .u64 z.x3, .int .u64 q.x0, .int .u64 q.x1, .int .u64 q.x2, .int .u64 q.x3, .slice (some ⟨n1, 0, none⟩) n n, .slice (some ⟨n2, 0, none⟩) n n].toArray) rfl (by kernel_rfl) (by kernel_rfl) (by kernel_rfl) (fun _ _ _ h => h) (Or.inl ⟨by rfl, fun w0 hSw => ?_⟩) hH3 ?_
  · (clear hSw; go_simp)
  simp only [Act.put, List.setIfInBounds_toArray, List.set_cons_zero, List.set_cons_succ]
  refine wpAnyH_ready (rs := [14]) (by kernel_rfl) (by simp) ?_
  refine AllReadyH.cons (o := { dst := none, op := Op.store 35 (Operand.tmp 2) (Operand.tmp 17), type := 0, pos := "rounds.go:106", after := #[{ on := 13, ground := Ground.data }, { on := 12, ground := Ground.chain }, { on := 0, ground := Ground.phase }, { on := 1, ground := Ground.phase }, { on := 2, ground := Ground.phase }, { on := 3, ground := Ground.phase }, { on := 4, ground := Ground.phase }, { on := 5, ground := Ground.phase }, { on := 6, ground := Ground.phase }, { on := 7, ground := Ground.phase }, { on := 8, ground := Ground.phase }, { on := 9, ground := Ground.phase }, { on := 10, ground := Ground.phase }, { on := 11, ground := Ground.phase }, { on := 12, ground := Ground.phase }, { on := 13, ground := Ground.phase }], guard := none }) rfl (fun K hK => ?_) AllReadyH.nil
  have HH := hidden hH3
  clear hH3
  refine wp_storeE 35 _ _ rfl T2 0 ([.int .u64 z.x0, .int .u64 z.x1, .int .u64 z.x2, .int .u64 z.x3, .int .u64 q.x0, .int .u64 q.x1, .int .u64 q.x2, .int .u64 q.x3, .slice (some ⟨n1, 0, none⟩) n n, .slice (some ⟨n2, 0, none⟩) n n]) (by rfl) (by rfl) TH.out stinfo (resone _ _ _ _ _ _ _ _) rfl (fun wn4 hw => ?_)
  have SN := hidden (HH.out.trans (gb_setCells T2 [.int .u64 z.x0, .int .u64 z.x1, .int .u64 z.x2, .int .u64 z.x3, .int .u64 q.x0, .int .u64 q.x1, .int .u64 q.x2, .int .u64 q.x3, .slice (some ⟨n1, 0, none⟩) n n, .slice (some ⟨n2, 0, none⟩) n n] 0 _))
  have FE := hidden ((⟨_, BB.out, RA.out.2, RB.out.2, TH.out, hw⟩ : ∃ wy, Below W.heap.size W wy ∧ R1 wy n1 ∧ R2 wy n2 ∧ wy.there T2 0 10 ∧ _ = wy.setCells T2 0 [.int .u64 z.x0, .int .u64 z.x1, .int .u64 z.x2, .int .u64 z.x3, .int .u64 q.x0, .int .u64 q.x1, .int .u64 q.x2, .int .u64 q.x3, .slice (some ⟨n1, 0, none⟩) n n, .slice (some ⟨n2, 0, none⟩) n n]))
  rw [← hw] at SN
  clear HH hw
  refine hK.out _ _ SN.out (fun hH4 => ?_)
  clear hK K SN
  have HH := hidden hH4
  have FQ := hidden (HQ.out n1 n2 _ RA.out.1 RB.out.1 FE.out)
  refine wpAnyH_done (by kernel_rfl) ?_ _
  refine NoPanic.normal ?_
  exact FQ.out
end Rp
end Go.Proofs.YtaejedhdpilhjaaDoor
namespace Go.Proofs.YtaejedhdpilhjaaDoor
open Go.RowKit
set_option linter.unusedVariables false
theorem own_rlR {w : World} {base gg n cap : Nat} {e : TypeId} {g : Nat → E4} (h : w.ownsRow base e 4 (.slice (some ⟨gg, 0, none⟩) n cap) n (svs n g)) : Rl w gg 0 n g := by
  have hc : ∀ k, k < n * 4 → w.cell? ⟨gg, k, none⟩ = (svs n g)[k]? := fun k hk => h.cellAt k hk
  have hs : ∀ k d, k < n → d < 4 → (svs n g)[k * 4 + d]? = some ([Value.int .u64 (g k).x0, .int .u64 (g k).x1, .int .u64 (g k).x2, .int .u64 (g k).x3].getD d undef) := by
    intro k d hk hd
    clear hc h
    induction n with
    | zero => omega
    | succ n ih =>
      rw [svs_succ]
      by_cases hkn : k < n
      · rw [List.getElem?_append_left (by rw [svs_len]; omega)]
        exact ih hkn
      · have : k = n := by omega
        subst this
        rw [List.getElem?_append_right (by rw [svs_len]; omega), svs_len, show k * 4 + d - k * 4 = d by omega]
        obtain rfl | rfl | rfl | rfl : d = 0 ∨ d = 1 ∨ d = 2 ∨ d = 3 := by omega
        all_goals rfl
  refine ⟨fun k hk => ?_, fun k hk => ?_, fun k hk => ?_, fun k hk => ?_⟩ <;> rw [Nat.zero_add]
  · rw [hc _ (by omega)]; exact hs k 0 hk (by omega)
  · rw [hc _ (by omega)]; exact hs k 1 hk (by omega)
  · rw [hc _ (by omega)]; exact hs k 2 hk (by omega)
  · rw [hc _ (by omega)]; exact hs k 3 hk (by omega)
namespace Rp
theorem cloneR (g n gc : Nat) (F : Nat → E4) (y : World) (h0 : 0 < n) (hl : n ≤ 1048576) (hr : Rl y g 0 n F) :
    Calls Tryd.prog 19 #[.slice (some ⟨g, 0, none⟩) n gc] y fun e w' => ∃ n1 m1 : Nat, e = .returned (.slice (some ⟨n1, 0, none⟩) n m1) ∧ y.heap.size ≤ n1 ∧ (Rl w' n1 0 n F ∧ n ≤ m1) ∧ Below y.heap.size y w' := by
  refine (lclone_any g 0 n gc F y (by omega) hr).mono ?_
  rintro e w' ⟨v, rfl, ho, hb⟩
  obtain ⟨n1, m1, rfl, hm⟩ := own_someR ho h0
  exact ⟨n1, m1, rfl, (ho.lt n1 rfl).1, ⟨own_rlR ho, hm⟩, hb⟩
theorem remadeR (g n gc : Nat) (F : Nat → E4) (y : World) (hT : Tb y) (og : ∀ k, k < n → (F k).ok) (h0 : 0 < n) (hl : n ≤ 1048576) (hr : Rl y g 0 n F) :
    Calls Tryd.prog 37 #[.slice (some ⟨g, 0, none⟩) n gc] y fun e w' => ∃ n1 : Nat, e = .returned (.slice (some ⟨n1, 0, none⟩) n n) ∧ y.heap.size ≤ n1 ∧ Rl w' n1 0 n (fun k => lst (F k).n) ∧ Below y.heap.size y w' := by
  refine (remadeList_any g 0 n gc F y hT og h0 hl hr).mono ?_
  rintro e w' ⟨n1, rfl, h1, r, hb⟩
  exact ⟨n1, rfl, h1, rws_rl r, hb⟩
set_option maxRecDepth 100000 in
set_option maxHeartbeats 16000000 in
theorem relistedP (p q : E4) (n g gc h hc : Nat) (F G : Nat → E4) (w : World) (op : p.ok) (oq : q.ok) (cg : n ≤ gc) (ch : n ≤ hc) (rg : Rl w g 0 n F) (rh : Rl w h 0 n G) (og : ∀ k, k < n → (F k).ok) (oh : ∀ k, k < n → (G k).ok) (h0 : 0 < n) (hl : n ≤ 1048576) :
    Calls Tryd.prog 18 #[.agg (sc p q (.slice (some ⟨g, 0, none⟩) n gc) (.slice (some ⟨h, 0, none⟩) n hc)).toArray] w fun e w' => ∃ y : Sx, e = .returned y.v ∧ y.p = p ∧ y.q = q ∧ y.n = n ∧ w.heap.size ≤ y.g ∧ w.heap.size ≤ y.h ∧ Tw w' y F G ∧ Below w.heap.size w w' := by
  have M1 := ((Mw.start w).new (sc p q (.slice (some ⟨g, 0, none⟩) n gc) (.slice (some ⟨h, 0, none⟩) n hc)) 35).new [.int .u64 0, .int .u64 0, .int .u64 0, .int .u64 0, .int .u64 0, .int .u64 0, .int .u64 0, .int .u64 0, .slice none 0 0, .slice none 0 0] 35
  simp only [World.size_alloc] at M1
  have MM := hidden M1
  have OG := og
  have OH := oh
  clear M1
  go_enter Tryd.func18, Tryd.ntmps18
  go_upto_region 1 with fail
  generalize (w.alloc (.cells (sc p q (.slice (some ⟨g, 0, none⟩) n gc) (.slice (some ⟨h, 0, none⟩) n hc)).toArray 35)).alloc (.cells #[.int .u64 0, .int .u64 0, .int .u64 0, .int .u64 0, .int .u64 0, .int .u64 0, .int .u64 0, .int .u64 0, .slice none 0 0, .slice none 0 0] 35) = wx at MM ⊢
  have rP := (MM.out.r (w.heap.size, sc p q (.slice (some ⟨g, 0, none⟩) n gc) (.slice (some ⟨h, 0, none⟩) n hc)) (by simp)).1
  have tZ := (MM.out.r (w.heap.size + 1, [.int .u64 0, .int .u64 0, .int .u64 0, .int .u64 0, .int .u64 0, .int .u64 0, .int .u64 0, .int .u64 0, .slice none 0 0, .slice none 0 0]) (by simp)).2.1
  have BX := MM.out.bel
  have a0 := rP 0 _ rfl
  have a1 := rP 1 _ rfl
  have a2 := rP 2 _ rfl
  have a3 := rP 3 _ rfl
  have b0 := rP 4 _ rfl
  have b1 := rP 5 _ rfl
  have b2 := rP 6 _ rfl
  have b3 := rP 7 _ rfl
  have c0 := rP 8 _ rfl
  have c1 := rP 9 _ rfl
  simp only [Nat.zero_add] at a0 a1 a2 a3 b0 b1 b2 b3 c0 c1
  have GN : ∀ {y : World} {b : Nat} {f : Nat → E4}, wx.grownBy y (some (w.heap.size + 1)) → Rl w b 0 n f → Rl y b 0 n f := fun {y b f} hy hr => rl_gbR (hr.keep BX) hy (by have hb := World.block_lt_of_cell? w _ (hr.c0 0 h0); simp only at hb; omega)
  refine rl1 _ w.heap.size (w.heap.size + 1) n g gc h hc p q (fun v a b => Rl v a 0 n F ∧ n ≤ b) (fun v a b => Rl v a 0 n G ∧ n ≤ b) _ _ _ _ _ _ _ _ _ _ _ _ wx (by omega) tZ a0 a1 a2 a3 b0 b1 b2 b3 c0 c1 (hidden (fun v v' a b hr hb => ⟨hr.1.keep hb, hr.2⟩)) (hidden (fun y hy => cloneR g n gc F y h0 hl (GN hy rg))) (hidden (fun y hy => cloneR h n hc G y h0 hl (GN hy rh))) (hidden ?_)
  rintro n1 m1 n2 m2 _ g1 g2 ⟨wy, hby, r1, r2, TH, rfl⟩
  have hlt := (MM.out.r (w.heap.size + 1, [.int .u64 0, .int .u64 0, .int .u64 0, .int .u64 0, .int .u64 0, .int .u64 0, .int .u64 0, .int .u64 0, .slice none 0 0, .slice none 0 0]) (by simp)).2.2.2
  simp only at hlt
  have GS := gb_setCells (w.heap.size + 1) [.int .u64 p.x0, .int .u64 p.x1, .int .u64 p.x2, .int .u64 p.x3, .int .u64 q.x0, .int .u64 q.x1, .int .u64 q.x2, .int .u64 q.x3, .slice (some ⟨n1, 0, none⟩) n m1, .slice (some ⟨n2, 0, none⟩) n m2] 0 wy
  have LD := hidden (run_loadVar_mid (P := Tryd.prog) (wy.setCells (w.heap.size + 1) 0 [.int .u64 p.x0, .int .u64 p.x1, .int .u64 p.x2, .int .u64 p.x3, .int .u64 q.x0, .int .u64 q.x1, .int .u64 q.x2, .int .u64 q.x3, .slice (some ⟨n1, 0, none⟩) n m1, .slice (some ⟨n2, 0, none⟩) n m2]) (w.heap.size + 1) 0 35 [.int .u64 p.x0, .int .u64 p.x1, .int .u64 p.x2, .int .u64 p.x3, .int .u64 q.x0, .int .u64 q.x1, .int .u64 q.x2, .int .u64 q.x3, .slice (some ⟨n1, 0, none⟩) n m1, .slice (some ⟨n2, 0, none⟩) n m2] _ (World.rangeAt_setCells_same wy _ 0 _ TH) Tryd.underlying35 rfl stinfo)
  have K1 := rl_gbR r1.1 GS (by omega)
  have K2 := rl_gbR r2.1 GS (by omega)
  have BF := hidden ((bl_trans BX hby).grown GS ((bl_trans BX hby).size) (fun j hj => by obtain rfl := Option.some.inj hj; omega))
  have FF := hidden (show ∃ y : Sx, .returned (.agg [.int .u64 p.x0, .int .u64 p.x1, .int .u64 p.x2, .int .u64 p.x3, .int .u64 q.x0, .int .u64 q.x1, .int .u64 q.x2, .int .u64 q.x3, .slice (some ⟨n1, 0, none⟩) n m1, .slice (some ⟨n2, 0, none⟩) n m2].toArray) = Ending.returned y.v ∧ y.p = p ∧ y.q = q ∧ y.n = n ∧ w.heap.size ≤ y.g ∧ w.heap.size ≤ y.h ∧ Tw (wy.setCells (w.heap.size + 1) 0 [.int .u64 p.x0, .int .u64 p.x1, .int .u64 p.x2, .int .u64 p.x3, .int .u64 q.x0, .int .u64 q.x1, .int .u64 q.x2, .int .u64 q.x3, .slice (some ⟨n1, 0, none⟩) n m1, .slice (some ⟨n2, 0, none⟩) n m2]) y F G from ⟨⟨p, q, n, n1, m1, n2, m2⟩, rfl, rfl, rfl, rfl, by have := BX.size; show _ ≤ n1; omega, by have := BX.size; show _ ≤ n2; omega, ⟨op, oq, r1.2, r2.2, K1, K2, OG, OH⟩⟩)
  generalize wy.setCells (w.heap.size + 1) 0 [.int .u64 p.x0, .int .u64 p.x1, .int .u64 p.x2, .int .u64 p.x3, .int .u64 q.x0, .int .u64 q.x1, .int .u64 q.x2, .int .u64 q.x3, .slice (some ⟨n1, 0, none⟩) n m1, .slice (some ⟨n2, 0, none⟩) n m2] = wz at LD BF FF ⊢
  clear GS TH a0 a1 a2 a3 b0 b1 b2 b3 c0 c1 rP tZ r1 r2 hby BX K1 K2 GN OG OH MM hlt
  go_wp2_with fail
  refine bodyPost_ret (v := .agg [.int .u64 p.x0, .int .u64 p.x1, .int .u64 p.x2, .int .u64 p.x3, .int .u64 q.x0, .int .u64 q.x1, .int .u64 q.x2, .int .u64 q.x3, .slice (some ⟨n1, 0, none⟩) n m1, .slice (some ⟨n2, 0, none⟩) n m2].toArray) (results_cellM Tryd.results18 _ _ _ _ _ (by rfl) LD.out) rfl ?_
  obtain ⟨y, e1, h1⟩ := FF.out
  exact ⟨y, e1, h1.1, h1.2.1, h1.2.2.1, h1.2.2.2.1, h1.2.2.2.2.1, h1.2.2.2.2.2, BF.out⟩

theorem relisted_any (x : Sx) (F G : Nat → E4) (w : World) (tw : Tw w x F G) (h0 : 0 < x.n) (hl : x.n ≤ 1048576) :
    Calls Tryd.prog 18 #[x.v] w fun e w' => ∃ y : Sx, e = .returned y.v ∧ y.p = x.p ∧ y.q = x.q ∧ y.n = x.n ∧ w.heap.size ≤ y.g ∧ w.heap.size ≤ y.h ∧ Tw w' y F G ∧ Below w.heap.size w w' :=
  relistedP x.p x.q x.n x.g x.gc x.h x.hc F G w tw.op tw.oq tw.cg tw.ch tw.rg tw.rh tw.og tw.oh h0 hl
set_option maxRecDepth 100000 in
set_option maxHeartbeats 16000000 in
theorem remadeP (p q : E4) (n g gc h hc : Nat) (F G : Nat → E4) (w : World) (hT : Tb w) (op : p.ok) (oq : q.ok) (cg : n ≤ gc) (ch : n ≤ hc) (rg : Rl w g 0 n F) (rh : Rl w h 0 n G) (og : ∀ k, k < n → (F k).ok) (oh : ∀ k, k < n → (G k).ok) (h0 : 0 < n) (hl : n ≤ 1048576) :
    Calls Tryd.prog 22 #[.agg (sc p q (.slice (some ⟨g, 0, none⟩) n gc) (.slice (some ⟨h, 0, none⟩) n hc)).toArray] w fun e w' => ∃ y : Sx, e = .returned y.v ∧ y.p = lst (zero4.n + p.n) ∧ y.q = q ∧ y.n = n ∧ w.heap.size ≤ y.g ∧ w.heap.size ≤ y.h ∧ Tw w' y (fun k => lst (F k).n) (fun k => lst (G k).n) ∧ Below w.heap.size w w' := by
  have M1 := (((Mw.start w).new (sc p q (.slice (some ⟨g, 0, none⟩) n gc) (.slice (some ⟨h, 0, none⟩) n hc)) 35).new [.int .u64 0, .int .u64 0, .int .u64 0, .int .u64 0, .int .u64 0, .int .u64 0, .int .u64 0, .int .u64 0, .slice none 0 0, .slice none 0 0] 35).new [.int .u64 0, .int .u64 0, .int .u64 0, .int .u64 0] 33
  simp only [World.size_alloc] at M1
  have MM := hidden M1
  have OG : ∀ k, k < n → ((fun k => lst (F k).n) k).ok := fun k _ => lst_ok _
  have OH : ∀ k, k < n → ((fun k => lst (G k).n) k).ok := fun k _ => lst_ok _
  clear M1
  go_enter Tryd.func22, Tryd.ntmps22
  go_upto_region 2 with fail
  generalize ((w.alloc (.cells (sc p q (.slice (some ⟨g, 0, none⟩) n gc) (.slice (some ⟨h, 0, none⟩) n hc)).toArray 35)).alloc (.cells #[.int .u64 0, .int .u64 0, .int .u64 0, .int .u64 0, .int .u64 0, .int .u64 0, .int .u64 0, .int .u64 0, .slice none 0 0, .slice none 0 0] 35)).alloc (.cells #[.int .u64 0, .int .u64 0, .int .u64 0, .int .u64 0] 33) = wx at MM ⊢
  have rP := (MM.out.r (w.heap.size, sc p q (.slice (some ⟨g, 0, none⟩) n gc) (.slice (some ⟨h, 0, none⟩) n hc)) (by simp)).1
  have rO := (MM.out.r (w.heap.size + 1 + 1, [.int .u64 0, .int .u64 0, .int .u64 0, .int .u64 0]) (by simp)).1
  have tZ := (MM.out.r (w.heap.size + 1, [.int .u64 0, .int .u64 0, .int .u64 0, .int .u64 0, .int .u64 0, .int .u64 0, .int .u64 0, .int .u64 0, .slice none 0 0, .slice none 0 0]) (by simp)).2.1
  have BX := MM.out.bel
  have a0 := rP 0 _ rfl
  have a1 := rP 1 _ rfl
  have a2 := rP 2 _ rfl
  have a3 := rP 3 _ rfl
  have b0 := rP 4 _ rfl
  have b1 := rP 5 _ rfl
  have b2 := rP 6 _ rfl
  have b3 := rP 7 _ rfl
  have c0 := rP 8 _ rfl
  have c1 := rP 9 _ rfl
  simp only [Nat.zero_add] at a0 a1 a2 a3 b0 b1 b2 b3 c0 c1
  have o0 := rO 0 _ rfl
  have o1 := rO 1 _ rfl
  have o2 := rO 2 _ rfl
  have o3 := rO 3 _ rfl
  simp only [Nat.zero_add] at o0 o1 o2 o3
  have GN : ∀ {y : World} {b : Nat} {f : Nat → E4}, wx.grownBy y (some (w.heap.size + 1)) → Rl w b 0 n f → Rl y b 0 n f := fun {y b f} hy hr => rl_gbR (hr.keep BX) hy (by have hb := World.block_lt_of_cell? w _ (hr.c0 0 h0); simp only at hb; omega)
  have TT : ∀ y, wx.grownBy y (some (w.heap.size + 1)) → Tb y := fun y hy => (hT.keep BX).keep0 hy (by have h9 := World.block_lt_of_cell? w _ hT.1; simp only at h9; omega)
  refine rm2 _ w.heap.size (w.heap.size + 1) (w.heap.size + 1 + 1) n g gc h hc zero4 p q (lst (zero4.n + p.n)) (fun v a => Rl v a 0 n (fun k => lst (F k).n)) (fun v a => Rl v a 0 n (fun k => lst (G k).n)) _ _ _ _ _ _ _ _ _ _ _ _ _ _ _ wx (by omega) (by omega) tZ o0 o1 o2 o3 a0 a1 a2 a3 b0 b1 b2 b3 c0 c1 (mt_AddL zero4) (hidden (fun v v' a hr hb => hr.keep hb)) (hidden (fun y hy => lAdd_any zero4 p (by rw [← zero_lst]; exact lst_ok _) op y (TT y hy))) (hidden (fun y hy => remadeR g n gc F y (TT y hy) og h0 hl (GN hy rg))) (hidden (fun y hy => remadeR h n hc G y (TT y hy) oh h0 hl (GN hy rh))) (hidden ?_)
  rintro n1 n2 _ g1 g2 ⟨wy, hby, r1, r2, TH, rfl⟩
  obtain ⟨z, hz⟩ : ∃ z, lst (zero4.n + p.n) = z := ⟨_, rfl⟩
  have oz : z.ok := by rw [← hz]; exact lst_ok _
  rw [hz]
  have HZ := hidden hz
  clear hz rO o0 o1 o2 o3 TT
  have hlt := (MM.out.r (w.heap.size + 1, [.int .u64 0, .int .u64 0, .int .u64 0, .int .u64 0, .int .u64 0, .int .u64 0, .int .u64 0, .int .u64 0, .slice none 0 0, .slice none 0 0]) (by simp)).2.2.2
  simp only at hlt
  have GS := gb_setCells (w.heap.size + 1) [.int .u64 z.x0, .int .u64 z.x1, .int .u64 z.x2, .int .u64 z.x3, .int .u64 q.x0, .int .u64 q.x1, .int .u64 q.x2, .int .u64 q.x3, .slice (some ⟨n1, 0, none⟩) n n, .slice (some ⟨n2, 0, none⟩) n n] 0 wy
  have LD := hidden (run_loadVar_mid (P := Tryd.prog) (wy.setCells (w.heap.size + 1) 0 [.int .u64 z.x0, .int .u64 z.x1, .int .u64 z.x2, .int .u64 z.x3, .int .u64 q.x0, .int .u64 q.x1, .int .u64 q.x2, .int .u64 q.x3, .slice (some ⟨n1, 0, none⟩) n n, .slice (some ⟨n2, 0, none⟩) n n]) (w.heap.size + 1) 0 35 [.int .u64 z.x0, .int .u64 z.x1, .int .u64 z.x2, .int .u64 z.x3, .int .u64 q.x0, .int .u64 q.x1, .int .u64 q.x2, .int .u64 q.x3, .slice (some ⟨n1, 0, none⟩) n n, .slice (some ⟨n2, 0, none⟩) n n] _ (World.rangeAt_setCells_same wy _ 0 _ TH) Tryd.underlying35 rfl stinfo)
  have K1 := rl_gbR r1 GS (by omega)
  have K2 := rl_gbR r2 GS (by omega)
  have BF := hidden ((bl_trans BX hby).grown GS ((bl_trans BX hby).size) (fun j hj => by obtain rfl := Option.some.inj hj; omega))
  have FF := hidden (show ∃ y : Sx, .returned (.agg [.int .u64 z.x0, .int .u64 z.x1, .int .u64 z.x2, .int .u64 z.x3, .int .u64 q.x0, .int .u64 q.x1, .int .u64 q.x2, .int .u64 q.x3, .slice (some ⟨n1, 0, none⟩) n n, .slice (some ⟨n2, 0, none⟩) n n].toArray) = Ending.returned y.v ∧ y.p = z ∧ y.q = q ∧ y.n = n ∧ w.heap.size ≤ y.g ∧ w.heap.size ≤ y.h ∧ Tw (wy.setCells (w.heap.size + 1) 0 [.int .u64 z.x0, .int .u64 z.x1, .int .u64 z.x2, .int .u64 z.x3, .int .u64 q.x0, .int .u64 q.x1, .int .u64 q.x2, .int .u64 q.x3, .slice (some ⟨n1, 0, none⟩) n n, .slice (some ⟨n2, 0, none⟩) n n]) y (fun k => lst (F k).n) (fun k => lst (G k).n) from ⟨⟨z, q, n, n1, n, n2, n⟩, rfl, rfl, rfl, rfl, by have := BX.size; show _ ≤ n1; omega, by have := BX.size; show _ ≤ n2; omega, ⟨oz, oq, Nat.le_refl _, Nat.le_refl _, K1, K2, OG, OH⟩⟩)
  generalize wy.setCells (w.heap.size + 1) 0 [.int .u64 z.x0, .int .u64 z.x1, .int .u64 z.x2, .int .u64 z.x3, .int .u64 q.x0, .int .u64 q.x1, .int .u64 q.x2, .int .u64 q.x3, .slice (some ⟨n1, 0, none⟩) n n, .slice (some ⟨n2, 0, none⟩) n n] = wz at LD BF FF ⊢
  clear GS TH a0 a1 a2 a3 b0 b1 b2 b3 c0 c1 rP tZ r1 r2 hby BX K1 K2 GN OG OH MM hlt
  go_wp2_with fail
  refine bodyPost_ret (v := .agg [.int .u64 z.x0, .int .u64 z.x1, .int .u64 z.x2, .int .u64 z.x3, .int .u64 q.x0, .int .u64 q.x1, .int .u64 q.x2, .int .u64 q.x3, .slice (some ⟨n1, 0, none⟩) n n, .slice (some ⟨n2, 0, none⟩) n n].toArray) (results_cellM Tryd.results22 _ _ _ _ _ (by rfl) LD.out) rfl ?_
  obtain ⟨y, e1, h1⟩ := FF.out
  exact ⟨y, e1, h1.1.trans HZ.out.symm, h1.2.1, h1.2.2.1, h1.2.2.2.1, h1.2.2.2.2.1, h1.2.2.2.2.2, BF.out⟩

theorem remade_any (x : Sx) (F G : Nat → E4) (w : World) (hT : Tb w) (tw : Tw w x F G) (h0 : 0 < x.n) (hl : x.n ≤ 1048576) :
    Calls Tryd.prog 22 #[x.v] w fun e w' => ∃ y : Sx, e = .returned y.v ∧ y.p = lst (zero4.n + x.p.n) ∧ y.q = x.q ∧ y.n = x.n ∧ w.heap.size ≤ y.g ∧ w.heap.size ≤ y.h ∧ Tw w' y (fun k => lst (F k).n) (fun k => lst (G k).n) ∧ Below w.heap.size w w' :=
  remadeP x.p x.q x.n x.g x.gc x.h x.hc F G w hT tw.op tw.oq tw.cg tw.ch tw.rg tw.rh tw.og tw.oh h0 hl
end Rp
end Go.Proofs.YtaejedhdpilhjaaDoor
namespace Go.Proofs.YtaejedhdpilhjaaDoor
namespace Rp
open Go.RowKit
set_option linter.unusedVariables false
theorem anyStep {F : Fence} {n : Nat} {P : Program} {md : Region.Mode} {ops : Array Oper} {Q : Exit → Act → World → Prop} {fuel : Nat} {listed : Array Bool} {a : Act} {w : World} {rs : List Nat} (hr : Region.ready md ops listed = rs) (hne : rs ≠ [])
    (h : ∀ i ∈ rs, wpOpIn F n P ops Q i (wpAnyIn F n P md ops Q fuel (listed.setIfInBounds i true)) a w) : wpAnyIn F n P md ops Q (fuel + 1) listed a w :=
  ⟨fun e => absurd (hr.symm.trans e) hne, fun i hi => h i (hr ▸ hi)⟩
theorem opIn {F : Fence} {n : Nat} {P : Program} {ops : Array Oper} {Q : Exit → Act → World → Prop} {i : Nat} {K : Act → World → Prop} {a : Act} {w : World} {o : Oper} (ho : ops[i]? = some o) (hg : o.guard = none) (h : o.wpIn F n P a w K Q) : wpOpIn F n P ops Q i K a w := by
  unfold wpOpIn
  simp only [ho, Region.wanted, hg, if_true]
  exact h
theorem opLoad {n l : Nat} {P : Program} {Q : Exit → Act → World → Prop} {K : Act → World → Prop} {a : Act} {w : World} {o : Oper} (ty : TypeId) (x : Operand) (ho : o.op = .load ty x) (b off : Nat) (hx : a.eval x = .pointer (some ⟨b, off, none⟩)) {v : Value} (hl : (loadVar ty ⟨b, off, none⟩).run P w = .ok v w)
    (h : K (a.put o.dst v) w) : o.wpIn (Fence.wide.inRound l) n P a w K Q := by
  unfold Oper.wpIn
  refine ⟨fun _ _ => trivial, ?_⟩
  rw [Oper.semAt_plain _ _ _ (by rw [ho]; intro c hc'; cases hc')]
  simp only [execOp, ho, hx, Instr.loadAt, Instr.sureAddr, Sem.run_bind, Sem.run_pure, Result.andThen_ok, hl]
  exact h
theorem opEnter {n l : Nat} {P : Program} {Q : Exit → Act → World → Prop} {K : Act → World → Prop} {a : Act} {w : World} {o : Oper} (hd : ∀ c, o.op ≠ .defer c) (f : FuncId) (args : Array Value) (he : (execOp a.eval o).run P w = .ok (.enter f args) w) {R : Ending → World → Prop} (hc : Calls P f args w R)
    (h : ∀ e w', R e w' → ∃ v, e = .returned v ∧ K (a.put o.dst v) w') : o.wpIn (Fence.wide.inRound l) n P a w K Q := by
  unfold Oper.wpIn
  refine ⟨fun _ _ => trivial, ?_⟩
  rw [Oper.semAt_plain _ _ _ hd, he]
  refine ⟨(fun h => by simp [Fence.wide, Fence.inRound] at h), (callsIn_wide.2 hc).mono ?_⟩
  intro e w' hR
  obtain ⟨v, rfl, hk⟩ := h e w' hR
  exact hk
theorem opYield {n m l ly : Nat} {P : Program} {Q : Exit → Act → World → Prop} {K : Act → World → Prop} {a : Act} {w : World} {o : Oper} (hd : ∀ c, o.op ≠ .defer c) (args : Array Value) {R : Ending → World → Prop} (hy : YieldAt Fence.wide m P ly args w R)
    (he : ∀ nx, (Instr.yield ly args).run P w = .ok nx w → (execOp a.eval o).run P w = .ok nx w) (h : ∀ e w', R e w' → ∃ v, e = .returned v ∧ K (a.put o.dst v) w') : o.wpIn (Fence.wide.inRound l) n P a w K Q := by
  unfold Oper.wpIn
  refine ⟨fun _ _ => trivial, ?_⟩
  obtain ⟨fn, tmps, assign, body, hy, hR⟩ := hy
  rw [Oper.semAt_plain _ _ _ hd, he _ hy]
  refine ⟨(fun h => by simp [Fence.wide, Fence.inRound] at h), RoundIn.mono (F := (Fence.wide.inRound l)) (show RoundIn (Fence.wide.inRound l) (n - 1) P ly fn tmps assign body w R from ⟨trivial, fun c cs _ => hR.2 c cs (room_wide _)⟩) ?_⟩
  intro e w' hr
  obtain ⟨v, rfl, hk⟩ := h e w' hr
  exact hk
def rd4o : Array Oper := #[{ dst := some 7, op := Op.load 49 (Operand.tmp 2), type := 49, pos := "rounds.go:22", after := #[], guard := none },
  { dst := some 8, op := Op.load 50 (Operand.tmp 3), type := 50, pos := "rounds.go:22", after := #[], guard := none },
  { dst := some 9, op := Op.load 35 (Operand.tmp 4), type := 35, pos := "rounds.go:22", after := #[], guard := none },
  { dst := some 10, op := Op.call { callee := Callee.value (Operand.tmp 8), args := #[Operand.tmp 9], argTypes := #[35] }, type := 35, pos := "rounds.go:22", after := #[{ on := 1, ground := Ground.data }, { on := 2, ground := Ground.data }], guard := none },
  { dst := some 11, op := Op.call { callee := Callee.value (Operand.tmp 7), args := #[Operand.tmp 10], argTypes := #[35] }, type := 4, pos := "rounds.go:22", after := #[{ on := 0, ground := Ground.data }, { on := 3, ground := Ground.data }, { on := 3, ground := Ground.chain }], guard := none },
  { dst := some 12, op := Op.unOp UnOp.not 4 (Operand.tmp 11), type := 4, pos := "rounds.go:22", after := #[{ on := 4, ground := Ground.data }], guard := none }]
set_option maxRecDepth 100000 in
set_option maxHeartbeats 8000000 in
theorem rd4 (Q : Exit → Act → World → Prop) (l n m ly fo T2 T3 T4 : Nat) (C : List Value) (R S : Value → World → Prop) (u0 u1 u5 u6 u7 u8 u9 u10 u11 u12 : Value) (W : World)
    (c7 : W.cell? ⟨T2, 0, none⟩ = some (.func (.yield ly) #[] #[])) (c8 : W.cell? ⟨T3, 0, none⟩ = some (.func (.func fo) #[] #[])) (r9 : W.rangeAt T4 0 C) (hC : (Tryd.prog.info? 35).map (·.size) = some C.length)
    (eg : ∀ args v, (callFunc fo args).run Tryd.prog v = .ok (.enter fo args) v)
    (CA : Calls Tryd.prog fo #[.agg C.toArray] W.drew fun e w' => ∃ D, e = .returned D ∧ R D w' ∧ Below W.drew.heap.size W.drew w')
    (CB : ∀ D y, R D y → YieldAt Fence.wide m Tryd.prog ly #[D] y fun e w' => e = .returned (.bool true) ∧ S D w')
    (HQ : ∀ D wz, S D wz → Q .normal ⟨#[u0, u1, .pointer (some ⟨T2, 0, none⟩), .pointer (some ⟨T3, 0, none⟩), .pointer (some ⟨T4, 0, none⟩), u5, u6, .func (.yield ly) #[] #[], .func (.func fo) #[] #[], .agg C.toArray, D, .bool true, .bool false], []⟩ wz) :
    (Code.region 4 rd4o true).wpIn (Fence.wide.inRound l) n Tryd.prog Q ⟨#[u0, u1, .pointer (some ⟨T2, 0, none⟩), .pointer (some ⟨T3, 0, none⟩), .pointer (some ⟨T4, 0, none⟩), u5, u6, u7, u8, u9, u10, u11, u12], []⟩ W := by
  have L7 : (loadVar 49 ⟨T2, 0, none⟩).run Tryd.prog W.drew = .ok (.func (.yield ly) #[] #[]) W.drew := by
    have k7 : W.drew.cell? ⟨T2, 0, none⟩ = some (.func (.yield ly) #[] #[]) := c7
    go_simp
  have L8 : (loadVar 50 ⟨T3, 0, none⟩).run Tryd.prog W.drew = .ok (.func (.func fo) #[] #[]) W.drew := by
    have k8 : W.drew.cell? ⟨T3, 0, none⟩ = some (.func (.func fo) #[] #[]) := c8
    go_simp
  have L9 : (loadVar 35 ⟨T4, 0, none⟩).run Tryd.prog W.drew = .ok (.agg C.toArray) W.drew := run_loadVar_mid (P := Tryd.prog) W.drew T4 0 35 C _ r9 Tryd.underlying35 rfl hC
  have F4 : ∀ D y, R D y → wpAnyIn (Fence.wide.inRound l) n Tryd.prog .any rd4o Q 2 #[true, true, true, true, false, false] ⟨#[u0, u1, .pointer (some ⟨T2, 0, none⟩), .pointer (some ⟨T3, 0, none⟩), .pointer (some ⟨T4, 0, none⟩), u5, u6, .func (.yield ly) #[] #[], .func (.func fo) #[] #[], .agg C.toArray, D, u11, u12], []⟩ y := by
    intro D y hD
    refine anyStep (rs := [4]) (by kernel_rfl) (by decide) (fun i hi => ?_)
    obtain rfl := List.mem_singleton.1 hi
    refine opIn (o := { dst := some 11, op := Op.call { callee := Callee.value (Operand.tmp 7), args := #[Operand.tmp 10], argTypes := #[35] }, type := 4, pos := "rounds.go:22", after := #[{ on := 0, ground := Ground.data }, { on := 3, ground := Ground.data }, { on := 3, ground := Ground.chain }], guard := none }) rfl rfl (opYield (by intro c h; cases h) #[D] (CB D y hD) ?_ ?_)
    · intro nx hy
      go_simp
    · rintro e w' ⟨rfl, hS⟩
      refine ⟨_, rfl, ?_⟩
      simp only [Act.put, List.setIfInBounds_toArray, List.set_cons_zero, List.set_cons_succ]
      refine anyStep (rs := [5]) (by kernel_rfl) (by decide) (fun i hi => ?_)
      obtain rfl := List.mem_singleton.1 hi
      refine opIn (o := { dst := some 12, op := Op.unOp UnOp.not 4 (Operand.tmp 11), type := 4, pos := "rounds.go:22", after := #[{ on := 4, ground := Ground.data }], guard := none }) rfl rfl ?_
      unfold Oper.wpIn
      refine ⟨fun _ _ => trivial, ?_⟩
      rw [Oper.semAt_plain _ _ _ (by intro c h; cases h)]
      have e5 : ∀ a : Act, a.tmps[11]?.getD undef = .bool true → (execOp a.eval { dst := some 12, op := Op.unOp UnOp.not 4 (Operand.tmp 11), type := 4, pos := "rounds.go:22", after := #[{ on := 4, ground := Ground.data }], guard := none }).run Tryd.prog w' = .ok (.value (.bool false)) w' := by
        intro a ha
        go_simp
      rw [e5 _ rfl]
      refine ⟨by kernel_rfl, ?_⟩
      exact HQ D w' hS
  have F3 : wpAnyIn (Fence.wide.inRound l) n Tryd.prog .any rd4o Q 3 #[true, true, true, false, false, false] ⟨#[u0, u1, .pointer (some ⟨T2, 0, none⟩), .pointer (some ⟨T3, 0, none⟩), .pointer (some ⟨T4, 0, none⟩), u5, u6, .func (.yield ly) #[] #[], .func (.func fo) #[] #[], .agg C.toArray, u10, u11, u12], []⟩ W.drew := by
    refine anyStep (rs := [3]) (by kernel_rfl) (by decide) (fun i hi => ?_)
    obtain rfl := List.mem_singleton.1 hi
    refine opIn (o := { dst := some 10, op := Op.call { callee := Callee.value (Operand.tmp 8), args := #[Operand.tmp 9], argTypes := #[35] }, type := 35, pos := "rounds.go:22", after := #[{ on := 1, ground := Ground.data }, { on := 2, ground := Ground.data }], guard := none }) rfl rfl (opEnter (by intro c h; cases h) fo #[.agg C.toArray] ?_ CA ?_)
    · have eg' := eg #[.agg C.toArray] W.drew
      go_simp
    · rintro e w' ⟨D, rfl, hD, hb⟩
      refine ⟨_, rfl, ?_⟩
      simp only [Act.put, List.setIfInBounds_toArray, List.set_cons_zero, List.set_cons_succ]
      exact F4 D w' hD
  have F2 : wpAnyIn (Fence.wide.inRound l) n Tryd.prog .any rd4o Q 4 #[false, true, true, false, false, false] ⟨#[u0, u1, .pointer (some ⟨T2, 0, none⟩), .pointer (some ⟨T3, 0, none⟩), .pointer (some ⟨T4, 0, none⟩), u5, u6, u7, .func (.func fo) #[] #[], .agg C.toArray, u10, u11, u12], []⟩ W.drew := by
    refine anyStep (rs := [0, 3]) (by kernel_rfl) (by decide) (fun i hi => ?_)
    rcases List.mem_cons.1 hi with rfl | hi
    · skip
      refine opIn (o := { dst := some 7, op := Op.load 49 (Operand.tmp 2), type := 49, pos := "rounds.go:22", after := #[], guard := none }) rfl rfl (opLoad 49 (.tmp 2) rfl T2 0 rfl (v := .func (.yield ly) #[] #[]) L7 ?_)
      simp only [Act.put, List.setIfInBounds_toArray, List.set_cons_zero, List.set_cons_succ]
      exact F3
    · obtain rfl := List.mem_singleton.1 hi
      refine opIn (o := { dst := some 10, op := Op.call { callee := Callee.value (Operand.tmp 8), args := #[Operand.tmp 9], argTypes := #[35] }, type := 35, pos := "rounds.go:22", after := #[{ on := 1, ground := Ground.data }, { on := 2, ground := Ground.data }], guard := none }) rfl rfl (opEnter (by intro c h; cases h) fo #[.agg C.toArray] ?_ CA ?_)
      · have eg' := eg #[.agg C.toArray] W.drew
        go_simp
      · rintro e w' ⟨D, rfl, hD, hb⟩
        refine ⟨_, rfl, ?_⟩
        simp only [Act.put, List.setIfInBounds_toArray, List.set_cons_zero, List.set_cons_succ]
        have L7' : (loadVar 49 ⟨T2, 0, none⟩).run Tryd.prog w' = .ok (.func (.yield ly) #[] #[]) w' := by
          have k7 : w'.cell? ⟨T2, 0, none⟩ = some (.func (.yield ly) #[] #[]) := cell_keepR (show W.drew.cell? ⟨T2, 0, none⟩ = _ from c7) hb
          go_simp
        refine anyStep (rs := [0]) (by kernel_rfl) (by decide) (fun i hi => ?_)
        obtain rfl := List.mem_singleton.1 hi
        refine opIn (o := { dst := some 7, op := Op.load 49 (Operand.tmp 2), type := 49, pos := "rounds.go:22", after := #[], guard := none }) rfl rfl (opLoad 49 (.tmp 2) rfl T2 0 rfl (v := .func (.yield ly) #[] #[]) L7' ?_)
        simp only [Act.put, List.setIfInBounds_toArray, List.set_cons_zero, List.set_cons_succ]
        exact F4 D w' hD

  have G01 : wpAnyIn (Fence.wide.inRound l) n Tryd.prog .any rd4o Q 4 #[true, true, false, false, false, false] ⟨#[u0, u1, .pointer (some ⟨T2, 0, none⟩), .pointer (some ⟨T3, 0, none⟩), .pointer (some ⟨T4, 0, none⟩), u5, u6, .func (.yield ly) #[] #[], .func (.func fo) #[] #[], u9, u10, u11, u12], []⟩ W.drew := by
    refine anyStep (rs := [2]) (by kernel_rfl) (by decide) (fun i hi => ?_)
    obtain rfl := List.mem_singleton.1 hi
    refine opIn (o := { dst := some 9, op := Op.load 35 (Operand.tmp 4), type := 35, pos := "rounds.go:22", after := #[], guard := none }) rfl rfl (opLoad 35 (.tmp 4) rfl T4 0 rfl (v := .agg C.toArray) L9 ?_)
    simp only [Act.put, List.setIfInBounds_toArray, List.set_cons_zero, List.set_cons_succ]
    exact F3

  have G02 : wpAnyIn (Fence.wide.inRound l) n Tryd.prog .any rd4o Q 4 #[true, false, true, false, false, false] ⟨#[u0, u1, .pointer (some ⟨T2, 0, none⟩), .pointer (some ⟨T3, 0, none⟩), .pointer (some ⟨T4, 0, none⟩), u5, u6, .func (.yield ly) #[] #[], u8, .agg C.toArray, u10, u11, u12], []⟩ W.drew := by
    refine anyStep (rs := [1]) (by kernel_rfl) (by decide) (fun i hi => ?_)
    obtain rfl := List.mem_singleton.1 hi
    refine opIn (o := { dst := some 8, op := Op.load 50 (Operand.tmp 3), type := 50, pos := "rounds.go:22", after := #[], guard := none }) rfl rfl (opLoad 50 (.tmp 3) rfl T3 0 rfl (v := .func (.func fo) #[] #[]) L8 ?_)
    simp only [Act.put, List.setIfInBounds_toArray, List.set_cons_zero, List.set_cons_succ]
    exact F3

  have G0 : wpAnyIn (Fence.wide.inRound l) n Tryd.prog .any rd4o Q 5 #[true, false, false, false, false, false] ⟨#[u0, u1, .pointer (some ⟨T2, 0, none⟩), .pointer (some ⟨T3, 0, none⟩), .pointer (some ⟨T4, 0, none⟩), u5, u6, .func (.yield ly) #[] #[], u8, u9, u10, u11, u12], []⟩ W.drew := by
    refine anyStep (rs := [1, 2]) (by kernel_rfl) (by decide) (fun i hi => ?_)
    rcases List.mem_cons.1 hi with rfl | hi
    · skip
      refine opIn (o := { dst := some 8, op := Op.load 50 (Operand.tmp 3), type := 50, pos := "rounds.go:22", after := #[], guard := none }) rfl rfl (opLoad 50 (.tmp 3) rfl T3 0 rfl (v := .func (.func fo) #[] #[]) L8 ?_)
      simp only [Act.put, List.setIfInBounds_toArray, List.set_cons_zero, List.set_cons_succ]
      exact G01
    · obtain rfl := List.mem_singleton.1 hi
      refine opIn (o := { dst := some 9, op := Op.load 35 (Operand.tmp 4), type := 35, pos := "rounds.go:22", after := #[], guard := none }) rfl rfl (opLoad 35 (.tmp 4) rfl T4 0 rfl (v := .agg C.toArray) L9 ?_)
      simp only [Act.put, List.setIfInBounds_toArray, List.set_cons_zero, List.set_cons_succ]
      exact G02

  have G1 : wpAnyIn (Fence.wide.inRound l) n Tryd.prog .any rd4o Q 5 #[false, true, false, false, false, false] ⟨#[u0, u1, .pointer (some ⟨T2, 0, none⟩), .pointer (some ⟨T3, 0, none⟩), .pointer (some ⟨T4, 0, none⟩), u5, u6, u7, .func (.func fo) #[] #[], u9, u10, u11, u12], []⟩ W.drew := by
    refine anyStep (rs := [0, 2]) (by kernel_rfl) (by decide) (fun i hi => ?_)
    rcases List.mem_cons.1 hi with rfl | hi
    · skip
      refine opIn (o := { dst := some 7, op := Op.load 49 (Operand.tmp 2), type := 49, pos := "rounds.go:22", after := #[], guard := none }) rfl rfl (opLoad 49 (.tmp 2) rfl T2 0 rfl (v := .func (.yield ly) #[] #[]) L7 ?_)
      simp only [Act.put, List.setIfInBounds_toArray, List.set_cons_zero, List.set_cons_succ]
      exact G01
    · obtain rfl := List.mem_singleton.1 hi
      refine opIn (o := { dst := some 9, op := Op.load 35 (Operand.tmp 4), type := 35, pos := "rounds.go:22", after := #[], guard := none }) rfl rfl (opLoad 35 (.tmp 4) rfl T4 0 rfl (v := .agg C.toArray) L9 ?_)
      simp only [Act.put, List.setIfInBounds_toArray, List.set_cons_zero, List.set_cons_succ]
      exact F2

  have G2 : wpAnyIn (Fence.wide.inRound l) n Tryd.prog .any rd4o Q 5 #[false, false, true, false, false, false] ⟨#[u0, u1, .pointer (some ⟨T2, 0, none⟩), .pointer (some ⟨T3, 0, none⟩), .pointer (some ⟨T4, 0, none⟩), u5, u6, u7, u8, .agg C.toArray, u10, u11, u12], []⟩ W.drew := by
    refine anyStep (rs := [0, 1]) (by kernel_rfl) (by decide) (fun i hi => ?_)
    rcases List.mem_cons.1 hi with rfl | hi
    · skip
      refine opIn (o := { dst := some 7, op := Op.load 49 (Operand.tmp 2), type := 49, pos := "rounds.go:22", after := #[], guard := none }) rfl rfl (opLoad 49 (.tmp 2) rfl T2 0 rfl (v := .func (.yield ly) #[] #[]) L7 ?_)
      simp only [Act.put, List.setIfInBounds_toArray, List.set_cons_zero, List.set_cons_succ]
      exact G02
    · obtain rfl := List.mem_singleton.1 hi
      refine opIn (o := { dst := some 8, op := Op.load 50 (Operand.tmp 3), type := 50, pos := "rounds.go:22", after := #[], guard := none }) rfl rfl (opLoad 50 (.tmp 3) rfl T3 0 rfl (v := .func (.func fo) #[] #[]) L8 ?_)
      simp only [Act.put, List.setIfInBounds_toArray, List.set_cons_zero, List.set_cons_succ]
      exact F2

  refine wpIn_region_any (by kernel_rfl) ?_
  change wpAnyIn (Fence.wide.inRound l) n Tryd.prog .any rd4o Q 6 #[false, false, false, false, false, false] ⟨#[u0, u1, .pointer (some ⟨T2, 0, none⟩), .pointer (some ⟨T3, 0, none⟩), .pointer (some ⟨T4, 0, none⟩), u5, u6, u7, u8, u9, u10, u11, u12], []⟩ W.drew
  refine anyStep (rs := [0, 1, 2]) (by kernel_rfl) (by decide) (fun i hi => ?_)
  rcases List.mem_cons.1 hi with rfl | hi
  · skip
    refine opIn (o := { dst := some 7, op := Op.load 49 (Operand.tmp 2), type := 49, pos := "rounds.go:22", after := #[], guard := none }) rfl rfl (opLoad 49 (.tmp 2) rfl T2 0 rfl (v := .func (.yield ly) #[] #[]) L7 ?_)
    simp only [Act.put, List.setIfInBounds_toArray, List.set_cons_zero, List.set_cons_succ]
    exact G0
  rcases List.mem_cons.1 hi with rfl | hi
  · skip
    refine opIn (o := { dst := some 8, op := Op.load 50 (Operand.tmp 3), type := 50, pos := "rounds.go:22", after := #[], guard := none }) rfl rfl (opLoad 50 (.tmp 3) rfl T3 0 rfl (v := .func (.func fo) #[] #[]) L8 ?_)
    simp only [Act.put, List.setIfInBounds_toArray, List.set_cons_zero, List.set_cons_succ]
    exact G1
  obtain rfl := List.mem_singleton.1 hi
  refine opIn (o := { dst := some 9, op := Op.load 35 (Operand.tmp 4), type := 35, pos := "rounds.go:22", after := #[], guard := none }) rfl rfl (opLoad 35 (.tmp 4) rfl T4 0 rfl (v := .agg C.toArray) L9 ?_)
  simp only [Act.put, List.setIfInBounds_toArray, List.set_cons_zero, List.set_cons_succ]
  exact G2

end Rp
end Go.Proofs.YtaejedhdpilhjaaDoor
namespace Go.Proofs.YtaejedhdpilhjaaDoor
namespace Rp
open Go.RowKit
set_option linter.unusedVariables false
attribute [local go_sem] Oper.semAt_some
theorem inStore {F : Fence} {n : Nat} {P : Program} {ops : Array Oper} {rest : List Oper} {o : Oper} {a : Act} {w : World} {Q : Exit → Act → World → Prop} (hgd : o.guard = none) (ty : TypeId) (x y : Operand) (ho : o.op = .store ty x y)
    (b off : Nat) (cs : List Value) (hx : a.eval x = .pointer (some ⟨b, off, none⟩)) (hy : a.eval y = .agg cs.toArray) (ht : w.there b off cs.length) (hi : (P.info? ty).map (·.size) = some cs.length) (h1 : cs.toArray.all (·.oneCell') = true)
    (h : wpListIn F n P ops Q rest (a.put o.dst undef) (w.setCells b off cs)) : wpListIn F n P ops Q (o :: rest) a w := by
  refine wpListIn_plain hgd fun K hK => ?_
  unfold Oper.wpIn
  refine ⟨?_, ?_⟩
  · simp [Oper.about, ho]
  · rw [Oper.semAt_plain F _ _ (by rw [ho]; intro c hc'; cases hc')]
    simp only [execOp, ho, hx, hy, Instr.storeAt, Instr.sureAddr, Sem.run_bind, Sem.run_pure, Result.andThen_ok, run_storeVar_mid w b off ty cs.toArray (by simpa using ht) (by simpa using hi) h1]
    exact hK _ _ h
theorem stF {P : Program} {w : World} {a : Addr} {u : Value} (fn : Fn) (f c : Array Value) (m : Mode) (h : w.cell? a = some u) (hf : w.frozen? a = false) : (store a (.func fn f c) m).run P w = .ok () (w.setCell a (.func fn f c)) := by
  rw [run_store _ _ _ _ _ rfl, h]
  simp [hf]
/-- what lies between two rounds -/
structure Ri (b ly : Nat) (J : List Sx → World → Prop) (t : Nat) (ys : List Sx) (V : World) : Prop where
  len : ys.length = t
  j : J ys V
  c0 : V.cell? ⟨b, 0, none⟩ = some (.func (.yield ly) #[] #[])
  c1 : V.cell? ⟨b + 1, 0, none⟩ = some (.func (.func (if t = 0 then 18 else 22)) #[] #[])
  f1 : V.frozen? ⟨b + 1, 0, none⟩ = false
  tb : Tb V
  sz : b + 2 ≤ V.heap.size
theorem Ri.gr {b ly t : Nat} {J : List Sx → World → Prop} {ys : List Sx} {A B : World} {row : Option Nat} (h : Ri b ly J t ys A) (hJ : Abi b (b + 5) J) (hg : A.grownBy B row) (hr : ∀ r, row = some r → b + 2 ≤ r ∧ r < b + 5) (ht : 0 < b) : Ri b ly J t ys B := by
  have ne : ∀ q, q < b + 2 → some q ≠ row := fun q hq e => by have := (hr q e.symm).1; omega
  have s := hg.size
  have z := h.sz
  refine ⟨h.len, hJ ys A B row h.j hg (fun r e => ⟨by have := (hr r e).1; omega, (hr r e).2⟩), hg.cell h.c0 (ne _ (by simp only; omega)), hg.cell h.c1 (ne _ (by simp only; omega)), ?_, ?_, by omega⟩
  · exact (World.frozen?_of_block (hg.block (b + 1) (by omega) (ne _ (by omega)))).trans h.f1
  · have k : ∀ {j : Nat} {v : Value}, A.cell? ⟨0, j, none⟩ = some v → B.cell? ⟨0, j, none⟩ = some v := fun hc => hg.cell hc (ne _ (by simp only; omega))
    obtain ⟨a0, a1, a2, a3, a4, a5, a6, a7, a8, a9, a10, a11⟩ := h.tb
    exact ⟨k a0, k a1, k a2, k a3, k a4, k a5, k a6, k a7, k a8, k a9, k a10, k a11⟩
/-- what a statement is that Rounds hands out -/
def Yo (u fg fh : Nat → E4) (k t : Nat) (y : Sx) (V : World) : Prop := y.n = 2 ^ (k - t) ∧ ∃ F G : Nat → E4, Tw V y F G ∧ (∀ j, lst (F j).n = lst (gf u k fg t j).n) ∧ (∀ j, lst (G j).n = lst (hf u k fh t j).n)
theorem own_call (u fg fh : Nat → E4) (k t : Nat) (x : Sx) (V : World) (hT : Tb V) (tw : Tw V x (gf u k fg t) (hf u k fh t)) (hn : x.n = 2 ^ (k - t)) (hk : k ≤ 10) :
    Calls Tryd.prog (if t = 0 then 18 else 22) #[.agg x.cs.toArray] V fun e w' => ∃ D, e = .returned D ∧ (∃ y : Sx, D = y.v ∧ V.heap.size ≤ y.g ∧ V.heap.size ≤ y.h ∧ Yo u fg fh k t y w' ∧ Below V.heap.size V w') ∧ Below V.heap.size V w' := by
  have h0 : 0 < x.n := by rw [hn]; exact Nat.pow_pos (by omega)
  have h1 : x.n ≤ 1048576 := by
    rw [hn]
    exact Nat.le_trans (Nat.pow_le_pow_right (by omega) (show k - t ≤ 20 by omega)) (by decide)
  by_cases h : t = 0
  · rw [if_pos h]
    refine (relisted_any x _ _ V tw h0 h1).mono ?_
    rintro e w' ⟨y, rfl, hp, hq, hn', g1, g2, tw', hb⟩
    exact ⟨_, rfl, ⟨y, rfl, g1, g2, ⟨hn'.trans hn, _, _, tw', fun _ => rfl, fun _ => rfl⟩, hb⟩, hb⟩
  · rw [if_neg h]
    refine (remade_any x _ _ V hT tw h0 h1).mono ?_
    rintro e w' ⟨y, rfl, hp, hq, hn', g1, g2, tw', hb⟩
    exact ⟨_, rfl, ⟨y, rfl, g1, g2, ⟨hn'.trans hn, _, _, tw', fun _ => lst_n' _, fun _ => lst_n' _⟩, hb⟩, hb⟩
theorem enters2 (t : Nat) : ∀ args v, (callFunc (if t = 0 then 18 else 22) args).run Tryd.prog v = .ok (.enter (if t = 0 then 18 else 22) args) v := by
  intro args v
  by_cases h : t = 0
  · rw [if_pos h]; exact enters_of Tryd.func18 (by kernel_rfl) rfl args v
  · rw [if_neg h]; exact enters_of Tryd.func22 (by kernel_rfl) rfl args v
set_option maxRecDepth 100000 in
set_option maxHeartbeats 8000000 in
theorem rounds2_gives (ex : Nat → Prop) (Bk Bs Bu Bx k ub uc lb lc rb rc : Nat) (up : Option Addr) (u fl fr fg fh : Nat → E4) (x0 : Sx) (w : World) (hk : k ≤ 10) (hkb : w.cell? ⟨Bk, 0, none⟩ = some (.func (.func 35) #[] #[.pointer (some ⟨Bs, 0, none⟩), .pointer (some ⟨Bu, 0, none⟩), .pointer (some ⟨Bx, 0, none⟩)]))
    (hT : Tb w) (hs : w.rangeAt Bs 0 x0.cs) (hu0 : w.cell? ⟨Bu, 0, none⟩ = some (.slice up k uc)) (hup : 0 < k → up = some ⟨ub, 0, none⟩) (hur : Rl w ub 0 k u) (uok : ∀ t, t < k → (u t).ok)
    (hx0 : w.cell? ⟨Bx, 0, none⟩ = some (.slice (some ⟨lb, 0, none⟩) k lc)) (hx1 : w.cell? ⟨Bx, 1, none⟩ = some (.slice (some ⟨rb, 0, none⟩) k rc)) (hl : Rl w lb 0 k fl) (hr : Rl w rb 0 k fr) (lok : ∀ t, t < k → (fl t).ok) (rok : ∀ t, t < k → (fr t).ok)
    (tw : Tw w x0 fg fh) (n0 : x0.n = 2 ^ k) (e1 : ¬ ex Bx) (e2 : ¬ ex ub) (e3 : ¬ ex lb) (e4 : ¬ ex rb) (e5 : ¬ ex 0) (e6 : ¬ ex x0.g) (e7 : ¬ ex x0.h) (e5b : 0 < w.heap.size) (e8 : ∀ j, ex j → j < w.heap.size) (kb : ub < w.heap.size ∧ lb < w.heap.size ∧ rb < w.heap.size) (gb : x0.g < w.heap.size ∧ x0.h < w.heap.size) :
    Gives (α := Sx) Fence.wide 3 Tryd.prog 21 #[.pointer (some ⟨Bk, 0, none⟩)] (fun x => #[x.v]) (fun b => Kq (fun j => ex j ∨ j + 1 = b))
      (fun b pre y V => Yo u fg fh k pre.length y V ∧ b + 5 ≤ y.g ∧ b + 5 ≤ y.h) (fun xs => xs.length = k + 1) (k + 1) 5 w := by
  intro l J W hW h2 hJ hY h0
  obtain ⟨b, hb⟩ : ∃ b, b = W.heap.size := ⟨_, rfl⟩
  refine callsIn_of_wp_marks Tryd.func21 rfl trivial ?_ rfl
  simp only [Tryd.ntmps21, List.size_toArray, List.length_cons, List.length_nil, Nat.reduceAdd, Nat.reduceSub, Array.replicate_succ, Array.replicate_zero, List.push_toArray, List.append_toArray, List.nil_append, List.cons_append]
  have ck := cell_keep hkb hW
  have HY := hidden hY
  have H0 := hidden h0
  have HJ := hidden hJ
  have HB := hidden hb
  clear hY h0 hJ hb
  have z3 : ((W.alloc (.cells #[.func (.yield l) #[] #[]] 49)).alloc (.cells #[.nilFunc] 50)).cell? ⟨W.heap.size + 1, 0, none⟩ = some .nilFunc := by go_simp
  have f3 : ((W.alloc (.cells #[.func (.yield l) #[] #[]] 49)).alloc (.cells #[.nilFunc] 50)).frozen? ⟨W.heap.size + 1, 0, none⟩ = false := by go_simp
  have z2 : ((W.alloc (.cells #[.func (.yield l) #[] #[]] 49)).alloc (.cells #[.nilFunc] 50)).cell? ⟨W.heap.size, 0, none⟩ = some (.func (.yield l) #[] #[]) := by go_simp
  have k3 : ((W.alloc (.cells #[.func (.yield l) #[] #[]] 49)).alloc (.cells #[.nilFunc] 50)).cell? ⟨Bk, 0, none⟩ = some (.func (.func 35) #[] #[.pointer (some ⟨Bs, 0, none⟩), .pointer (some ⟨Bu, 0, none⟩), .pointer (some ⟨Bx, 0, none⟩)]) := cell_keep (cell_keep ck (bl_alloc _ _)) (bl_alloc _ _)
  have s3 : ((W.alloc (.cells #[.func (.yield l) #[] #[]] 49)).alloc (.cells #[.nilFunc] 50)).heap.size = W.heap.size + 1 + 1 := by simp
  have B3 := hidden (bl_trans (bl_alloc W (.cells #[.func (.yield l) #[] #[]] 49)) (bl_alloc _ (.cells #[.nilFunc] 50)))
  obtain ⟨WA, hWA⟩ : ∃ WA, (W.alloc (.cells #[.func (.yield l) #[] #[]] 49)).alloc (.cells #[.nilFunc] 50) = WA := ⟨_, rfl⟩
  rw [hWA] at z3 f3 z2 k3 s3 B3
  have nB : Bk ≠ W.heap.size + 1 := fun e => by have := World.block_lt_of_cell? W _ ck; simp only at this; omega
  have t3 := fun m => stF (P := Tryd.prog) (.func 18) #[] #[] m z3 f3
  obtain ⟨WB, hWB⟩ : ∃ WB, WA.setCell ⟨W.heap.size + 1, 0, none⟩ (.func (.func 18) #[] #[]) = WB := ⟨_, rfl⟩
  rw [hWB] at t3
  have k4 : WB.cell? ⟨Bk, 0, none⟩ = some (.func (.func 35) #[] #[.pointer (some ⟨Bs, 0, none⟩), .pointer (some ⟨Bu, 0, none⟩), .pointer (some ⟨Bx, 0, none⟩)]) := by rw [← hWB, World.cell?_setCell_far _ _ _ _ (by simp only; omega)]; exact k3
  have z4 : WB.cell? ⟨W.heap.size, 0, none⟩ = some (.func (.yield l) #[] #[]) := by rw [← hWB, World.cell?_setCell_far _ _ _ _ (by simp only; omega)]; exact z2
  have y4 : WB.cell? ⟨W.heap.size + 1, 0, none⟩ = some (.func (.func 18) #[] #[]) := by rw [← hWB]; exact World.cell?_setCell_same _ _ _ (by rw [z3])
  have f4 : WB.frozen? ⟨W.heap.size + 1, 0, none⟩ = false := by rw [← hWB, World.frozen?_setCell]; exact f3
  have s4 : WB.heap.size = W.heap.size + 1 + 1 := by rw [← hWB, World.size_setCell]; exact s3
  have B4 : Below W.heap.size W WB := by rw [← hWB]; exact B3.out.grown (grownBy_setCell' WA (W.heap.size + 1) _) B3.out.size (fun j hj => by obtain rfl := Option.some.inj hj; omega)
  have K4 := hidden (And.intro z4 (And.intro y4 (And.intro f4 (And.intro s4 B4))))
  clear ck z2 z3 f3 k3 s3 B3 hWB z4 y4 f4 s4 B4 nB
  gi_wp2
  obtain ⟨z4, y4, f4, s4, B4⟩ := K4.out
  have hb := HB.out
  have HJ' : Abi b (b + 5) J := by rw [hb]; exact HJ.out
  rw [← hb] at z4 y4 f4 s4 h2
  rw [← hb]
  have s5 : WB.heap.size = b + 2 := s4
  have BW := bl_trans hW B4
  have lt0 : ∀ j, j < w.heap.size → j < b := fun j hj => by omega
  have nx : ∀ j, ¬ ex j → j < w.heap.size → ¬ (fun j => ex j ∨ j + 1 = b ∨ j = b + 1) j := fun j h hl h' => by
    rcases h' with h' | h' | h'
    · exact h h'
    · omega
    · omega
  have b1 : Bx < w.heap.size := World.block_lt_of_cell? w _ hx0
  refine range_own (α := Sx) rfl (by omega) (gf := 35) (lb := #[.pointer (some ⟨Bs, 0, none⟩), .pointer (some ⟨Bu, 0, none⟩), .pointer (some ⟨Bx, 0, none⟩)]) rfl trivial (enters_of Tryd.func35 (by kernel_rfl) rfl)
    (folds1_gives (fun j => ex j ∨ j + 1 = b ∨ j = b + 1) Bs Bu Bx k ub uc lb lc rb rc up u fl fr fg fh x0 WB hk (hT.keep BW) (range_keepM hs BW) (cell_keep hu0 BW) hup (hur.keep BW) uok (cell_keep hx0 BW) (cell_keep hx1 BW) (hl.keep BW) (hr.keep BW) lok rok ⟨tw.op, tw.oq, tw.cg, tw.ch, tw.rg.keep BW, tw.rh.keep BW, tw.og, tw.oh⟩ n0 (nx _ e1 b1) (nx _ e2 kb.1) (nx _ e3 kb.2.1) (nx _ e4 kb.2.2) (nx _ e5 e5b) (nx _ e6 gb.1) (nx _ e7 gb.2) (by omega)
      (fun j hj => by
        rcases hj with hj | hj | hj
        · have := e8 j hj; omega
        · omega
        · omega) (by omega) (by omega))
    (Below.refl _ _) (fun _ => rfl) (fun h k => h.trans k) (fun A o => Kq.grown (grown_put A _ o) (Or.inr rfl))
    (fun pre V => ∃ ys, Ri b l J pre.length ys V)
    (fun pre A B row hs hg hr => by
      obtain ⟨ys, h⟩ := hs
      exact ⟨ys, h.gr HJ' hg (fun r e => ⟨by have := (hr r e).1; omega, by have := (hr r e).2; omega⟩) (by omega)⟩)
    ⟨[], rfl, HJ.out [] W WB none H0.out (gbI B4 none) (fun r e => by cases e), z4, y4, f4, hT.keep BW, by omega⟩
    (fun pre x a' V => ∃ Bn, b + 5 ≤ Bn ∧ Bn < V.heap.size ∧ V.rangeAt Bn 0 x.cs ∧ Tw V x (gf u k fg pre.length) (hf u k fh pre.length) ∧ x.n = 2 ^ (k - pre.length) ∧ ((x.g < b ∧ x.h < b) ∨ (b + 5 ≤ x.g ∧ b + 5 ≤ x.h)) ∧ a' = { tmps := #[.func (.yield l) #[] #[], .pointer (some ⟨Bk, 0, none⟩), .pointer (some ⟨b, 0, none⟩), .pointer (some ⟨b + 1, 0, none⟩), .pointer (some ⟨Bn, 0, none⟩), .func (.func 35) #[] #[.pointer (some ⟨Bs, 0, none⟩), .pointer (some ⟨Bu, 0, none⟩), .pointer (some ⟨Bx, 0, none⟩)], x.v, undef, undef, undef, undef, undef, undef], defers := [] })
    (fun pre x a' _ A B row hs hg hr => by
      obtain ⟨Bn, q1, q2, q3, q4, q5, q6, q7⟩ := hs
      have kq : Kq (fun j => b + 2 ≤ j ∧ j < b + 5) A B := ⟨hg.size, fun j hj hne => hg.block j hj (fun e => hne (by have := hr j e.symm; omega))⟩
      exact ⟨Bn, q1, Nat.lt_of_lt_of_le q2 hg.size, kq.range q3 (by omega), q4.kq kq (by omega) (by omega), q5, q6, q7⟩)
    ?assign ?body ?done
  case assign =>
    rintro l' pre x V K ⟨ys, hi⟩ ⟨o1, o2, o3, o4, o5⟩ hsz hK
    have TH : (V.alloc (.cells #[.int .u64 0, .int .u64 0, .int .u64 0, .int .u64 0, .int .u64 0, .int .u64 0, .int .u64 0, .int .u64 0, .slice none 0 0, .slice none 0 0] 35)).there V.heap.size 0 x.cs.length := there_newM V [.int .u64 0, .int .u64 0, .int .u64 0, .int .u64 0, .int .u64 0, .int .u64 0, .int .u64 0, .int .u64 0, .slice none 0 0, .slice none 0 0] 35
    have IX : (Tryd.prog.info? 35).map (·.size) = some x.cs.length := sinfo _ _ _ _
    have OX : x.cs.toArray.all (·.oneCell') = true := sone _ _ _ _ _ _ _ _
    have B1 : Below V.heap.size V ((V.alloc (.cells #[.int .u64 0, .int .u64 0, .int .u64 0, .int .u64 0, .int .u64 0, .int .u64 0, .int .u64 0, .int .u64 0, .slice none 0 0, .slice none 0 0] 35)).setCells V.heap.size 0 x.cs) := below_setCellsM _ _ _ (bl_alloc V _) (Nat.le_refl _)
    have R1 : ((V.alloc (.cells #[.int .u64 0, .int .u64 0, .int .u64 0, .int .u64 0, .int .u64 0, .int .u64 0, .int .u64 0, .int .u64 0, .slice none 0 0, .slice none 0 0] 35)).setCells V.heap.size 0 x.cs).rangeAt V.heap.size 0 x.cs := World.rangeAt_setCells_same _ _ _ _ TH
    have Z1 : V.heap.size < ((V.alloc (.cells #[.int .u64 0, .int .u64 0, .int .u64 0, .int .u64 0, .int .u64 0, .int .u64 0, .int .u64 0, .int .u64 0, .slice none 0 0, .slice none 0 0] 35)).setCells V.heap.size 0 x.cs).heap.size := by rw [size_setCellsM, World.size_alloc]; omega
    have HK := hidden hK
    have P1 := hidden (And.intro TH (And.intro IX OX))
    have G1 := hidden (And.intro B1 (And.intro R1 Z1))
    clear hK TH IX OX B1 R1 Z1
    have HE := hidden (And.intro hb (And.intro s5 s4))
    clear hb s5 s4
    obtain ⟨C, hC⟩ : ∃ C, x.cs = C := ⟨_, rfl⟩
    rw [hC] at P1 G1
    have XV : x.v = .agg C.toArray := by unfold Sx.v; rw [hC]
    simp only [XV]
    gi_wp2_with (first | (refine inStore rfl 35 _ _ rfl V.heap.size 0 C rfl rfl P1.out.1 P1.out.2.1 P1.out.2.2 ?_))
    obtain ⟨V1, hV1⟩ : ∃ V1, (V.alloc (.cells #[.int .u64 0, .int .u64 0, .int .u64 0, .int .u64 0, .int .u64 0, .int .u64 0, .int .u64 0, .int .u64 0, .slice none 0 0, .slice none 0 0] 35)).setCells V.heap.size 0 C = V1 := ⟨_, rfl⟩
    rw [hV1] at G1
    rw [hV1]
    obtain ⟨B1, R1, Z1⟩ := G1.out
    obtain ⟨hb, s5, s4⟩ := HE.out
    refine HK.out _ _ ⟨B1.size, B1.block _ (by omega), B1.block _ (by omega), Kq.below B1⟩ ⟨ys, hi.gr HJ' (gbI B1 none) (fun r e => by cases e) (by omega)⟩ ⟨V.heap.size, by omega, Z1, by rw [hC]; exact R1, ⟨o1.op, o1.oq, o1.cg, o1.ch, o1.rg.keep B1, o1.rh.keep B1, o1.og, o1.oh⟩, o2, ?_, by rw [XV]⟩
    rcases o5 with h | h
    · exact Or.inl ⟨by rw [h.1]; exact lt0 _ gb.1, by rw [h.2]; exact lt0 _ gb.2⟩
    · exact Or.inr ⟨by omega, by omega⟩
  case body =>
    rintro l' pre x a' V ⟨ys, hi⟩ ⟨Bn, q1, q2, q3, q4, q5, q6, rfl⟩ hlen hsz
    obtain ⟨C, hC⟩ : ∃ C, x.cs = C := ⟨_, rfl⟩
    have XV : x.v = .agg C.toArray := by unfold Sx.v; rw [hC]
    have IX : Hid ((Tryd.prog.info? 35).map (·.size) = some C.length) := hidden (by rw [← hC]; exact sinfo _ _ _ _)
    rw [hC] at q3
    have OC := hidden (own_call u fg fh k pre.length x V.drew (hi.tb.keep (bl_drewR V)) ⟨q4.op, q4.oq, q4.cg, q4.ch, q4.rg.keep (bl_drewR V), q4.rh.keep (bl_drewR V), q4.og, q4.oh⟩ q5 hk)
    rw [hC] at OC
    have EN := hidden (enters2 pre.length)
    have C1 := hidden hi.c1
    obtain ⟨fo, hfo⟩ : ∃ fo, (if pre.length = 0 then 18 else 22) = fo := ⟨_, rfl⟩
    rw [hfo] at OC EN C1
    clear hfo
    have Q3 := hidden q3
    have HI := hidden hi
    have HS := hidden hsz
    have Q6 := hidden (And.intro q1 (And.intro q2 q6))
    have HLN := hidden hlen
    clear q1 q2 q3 q4 q5 q6 hi hsz hlen
    have HE := hidden (And.intro hb (And.intro s5 s4))
    clear hb s5 s4
    simp only [XV]
    gi_wp2
    refine rd4 _ l' _ (3 - 1) l fo b (b + 1) Bn C
      (fun D w' => ∃ y : Sx, D = y.v ∧ V.drew.heap.size ≤ y.g ∧ V.drew.heap.size ≤ y.h ∧ Yo u fg fh k pre.length y w' ∧ Below V.drew.heap.size V.drew w')
      (fun D w' => ∃ (y : Sx) (y' : World), D = y.v ∧ Below V.drew.heap.size V.drew y' ∧ J (ys ++ [y]) w' ∧ Kq (fun j => ex j ∨ j + 1 = W.heap.size) y' w') _ _ _ _ _ _ _ _ _ _ V HI.out.c0 C1.out Q3.out IX.out EN.out OC.out ?cb ?hq
    case cb =>
      obtain ⟨hb, s5, s4⟩ := HE.out
      rintro D y' ⟨y, rfl, g1, g2, yo, hbl⟩
      have hsz := HS.out
      have g0 : V.heap.size ≤ V.drew.heap.size := (bl_drewR V).size
      have hbV : Below V.heap.size V y' := bl_trans (bl_drewR V) hbl
      refine (HY.out ys y y' (HJ.out ys V y' none HI.out.j (gbI hbV none) (fun r e => by cases e)) ⟨by rw [HI.out.len]; exact yo, by omega, by omega⟩ (by rw [HI.out.len]; exact HLN.out) (by have := hbV.size; omega)).mono ?_
      rintro e w' ⟨rfl, hj, hkq⟩
      exact ⟨rfl, y, y', rfl, hbl, hj, hkq⟩
    case hq =>
      obtain ⟨hb, s5, s4⟩ := HE.out
      rintro D wz ⟨y, y', rfl, hbl, hj, hkq⟩
      have hbV : Below V.heap.size V y' := bl_trans (bl_drewR V) hbl
      have nb : ∀ j, b ≤ j → ¬ (fun j => ex j ∨ j + 1 = W.heap.size) j := fun j hj' h => by
        rcases h with h | h
        · have := e8 j h; omega
        · omega
      have c0 := hkq.cell (cell_keep HI.out.c0 hbV) (nb _ (Nat.le_refl _))
      have c1 := hkq.cell (cell_keep HI.out.c1 hbV) (nb _ (by simp only; omega))
      have vlt : b + 1 < V.heap.size := by have := HI.out.sz; omega
      have f1 : wz.frozen? ⟨b + 1, 0, none⟩ = false := (hkq.frz (a := ⟨b + 1, 0, none⟩) (by have := hbV.size; simp only; omega) (nb _ (by simp only; omega))).trans ((World.frozen?_of_block (hbV.block (b + 1) vlt)).trans HI.out.f1)
      have tz : Tb wz := hkq.tb (HI.out.tb.keep hbV) (fun h => by
        rcases h with h | h
        · exact e5 h
        · omega)
      have t5 := fun m => stF (P := Tryd.prog) (.func 22) #[] #[] m c1 f1
      obtain ⟨wf, hwf⟩ : ∃ wf, wz.setCell ⟨b + 1, 0, none⟩ (.func (.func 22) #[] #[]) = wf := ⟨_, rfl⟩
      rw [hwf] at t5
      have GW : wz.grownBy wf (some (b + 1)) := by rw [← hwf]; exact grownBy_setCell' wz (b + 1) _
      have C1f : wf.cell? ⟨b + 1, 0, none⟩ = some (.func (.func 22) #[] #[]) := by rw [← hwf]; exact World.cell?_setCell_same _ _ _ (by rw [c1])
      have F1' : wf.frozen? ⟨b + 1, 0, none⟩ = false := by rw [← hwf, World.frozen?_setCell]; exact f1
      have FIN : Hid (Kb (fun b' => Kq (fun j => (fun j => ex j ∨ j + 1 = b ∨ j = b + 1) j ∨ j + 1 = b')) WB.heap.size V wf ∧ ∃ ys, Ri b l J (pre ++ [x]).length ys wf) := hidden (by
        have k1 : Kq (fun j => (fun j => ex j ∨ j + 1 = b ∨ j = b + 1) j ∨ j + 1 = WB.heap.size + 2) V wf := ((Kq.below hbV).trans (hkq.mono (fun j h => by
          rcases h with h | h
          · exact Or.inl (Or.inl h)
          · exact Or.inl (Or.inr (Or.inl (by omega)))))).trans (Kq.grown GW (Or.inl (Or.inr (Or.inr rfl))))
        have sz1 := HS.out
        have st : ∀ q, b + 2 ≤ q → q < b + 4 → wf.heap[q]? = V.heap[q]? := fun q hq1 hq2 => by
          rw [GW.block q (by have := hbV.size; have := hkq.sz; omega) (fun e => by have := Option.some.inj e; omega), hkq.blk q (by have := hbV.size; omega) (nb q (by omega)), hbV.block q (by omega)]
        refine ⟨⟨k1.sz, st _ (by omega) (by omega), st _ (by omega) (by omega), k1⟩, ys ++ [y], ?_, HJ.out _ wz wf (some (b + 1)) hj GW (fun r e => by have := Option.some.inj e; omega), GW.cell c0 (fun e => by have := Option.some.inj e; simp only at this; omega), ?_, F1', ?_, by have := GW.size; have := hkq.sz; have := hbV.size; have := HI.out.sz; omega⟩
        · rw [List.length_append, List.length_append, HI.out.len]; rfl
        · rw [if_neg (by rw [List.length_append]; simp)]; exact C1f
        · exact tz.keep0 GW (by omega))
      clear hb s5 s4 hbl hj hkq c0 c1 f1 tz hwf GW C1f C1 F1' vlt nb hbV OC Q3 IX EN
      gi_wp2
      exact FIN.out
  case done =>
    rintro xs V hS ⟨ys, hi⟩ hdef
    gi_wp2
    refine ⟨by simp, .inl ⟨_, _, rfl, run_takeDeferred (by rw [show W.heap.size + 1 + 1 = WB.heap.size by omega]; exact hdef), ?_⟩⟩
    refine ⟨.tuple #[], by simp [results, Tryd.results21, go_sem], ⟨_, rfl⟩, ys, by rw [hi.len]; exact hS, HJ.out ys V _ (some (W.heap.size + 1 + 1)) hi.j (grown_put V _ _) (fun r e => by have := Option.some.inj e; omega)⟩
end Rp
end Go.Proofs.YtaejedhdpilhjaaDoor
