import Derived.Test.YthhcdjndfepbaaaApr
import Derived.Maps.AppendAt
import Derived.Laws.AppendOwn
namespace Go.Proofs.Ythhcdjndfepbaaa
open Go.RowKit
theorem step_append_own {P : Program} {ops : Array Oper} {o : Oper} {a : Act} {w : World} {K : Act → World → Prop} {Q : Exit → Act → World → Prop} {E : Prop}
    (hg : o.guard = none) (s x : Operand) (t : TypeId) (hop : o.op = Op.call { callee := Callee.builtin Builtin.append, args := #[s, x], argTypes := #[t, t] })
    (base : Nat) (e : TypeId) (i : TypeInfo) (z : Value) (size bytes : Nat) (ht : P.underlying t = some (.slice e)) (hi : P.info? e = some i) (hz : i.zero = some z)
    (hsize : i.size = size) (hby : i.bytes = bytes) (hzs : z.cells.size = size) (hsz : 0 < size)
    (v : Value) (n : Nat) (xs : List Value) (hs : a.eval s = v) (hown : w.ownsRow base e size v n xs)
    (ad : Addr) (m c : Nat) (news : List Value) (hx : a.eval x = .slice (some ad) m c) (hl : news.length = m * size) (hnews : ∀ j u, news[j]? = some u → w.cell? (ad.add j) = some u) (h1 : ∀ u ∈ news, u.oneCell' = true)
    (h63 : n + m ≤ maxLen) (hbytes : (n + m) * bytes ≤ 140737488355328) (hbase : base ≤ w.heap.size)
    (h : ∀ v' w', w'.ownsRow base e size v' (n + m) (xs ++ news) → w.grownBy w' v.ownBlock → K (a.put o.dst v') w') :
    if Region.wanted o (yielded ops a.tmps) = true then Oper.wp P o a w K Q else E := by
  have hw : Region.wanted o (yielded ops a.tmps) = true := by simp [Region.wanted, hg]
  rw [if_pos hw]
  exact wp_append_own w s x t hop base e i z size bytes ht hi hz hsize hby hzs hsz v n xs hs hown ad m c news hx hl hnews h1 h63 hbytes hbase fun v' w' h2 h3 _ => h v' w' h2 h3
theorem cells_new (w : World) (cs : List Value) (t : TypeId) : ∀ j u, cs[j]? = some u → (w.alloc (.cells cs.toArray t)).cell? ((⟨w.heap.size, 0, none⟩ : Addr).add j) = some u := by
  intro j u hu
  have hadd : (⟨w.heap.size, 0, none⟩ : Addr).add j = ⟨w.heap.size, j, none⟩ := by unfold Addr.add; split <;> simp_all
  rw [hadd, cell_of_row (w.alloc (.cells cs.toArray t)) w.heap.size j cs.toArray t (0, 0) (heap_alloc_new w _)]
  simpa using hu
theorem below_trans {n : Nat} {w1 w2 w3 : World} (h1 : Below n w1 w2) (h2 : Below n w2 w3) : Below n w1 w3 := ⟨h2.os.trans h1.os, h2.tape.trans h1.tape, h2.output.trans h1.output, Nat.le_trans h1.size h2.size, fun k hk => (h2.block k hk).trans (h1.block k hk)⟩
theorem below_grown {w w' : World} {row : Option Nat} {base : Nat} (hg : w.grownBy w' row) (hb : base ≤ w.heap.size) (hr : ∀ k, row = some k → base ≤ k) : Below base w w' :=
  ⟨hg.os, hg.tape, hg.output, hg.size, fun k hk => hg.block k (by omega) (fun e => by have := hr k e.symm; omega)⟩
/-- numbers that lie from an address on -/
def Il (w : World) (P : Option Addr) (n : Nat) (f : Nat → Int) : Prop := ∃ sb so : Nat, (0 < n → P = some ⟨sb, so, none⟩) ∧ ∀ k, k < n → w.cell? ⟨sb, so + k, none⟩ = some (.int .i64 (f k))
theorem Il.keep {w w' : World} {P : Option Addr} {n : Nat} {f : Nat → Int} (h : Il w P n f) (hb : Below w.heap.size w w') : Il w' P n f := by
  obtain ⟨sb, so, h1, h2⟩ := h
  exact ⟨sb, so, h1, fun k hk => cell_keep (h2 k hk) hb⟩
def svl (f : Nat → Int) (n : Nat) : List Value := (List.range n).map fun k => .int .i64 (f k)
theorem svl_succ (f : Nat → Int) (n : Nat) : svl f (n + 1) = svl f n ++ [.int .i64 (f n)] := by simp [svl, List.range_succ]
def pvl (f g : Nat → Int) (n : Nat) : List Value := (List.range n).flatMap fun k => [.int .i64 (f k), .int .i64 (g k)]
theorem pvl_succ (f g : Nat → Int) (n : Nat) : pvl f g (n + 1) = pvl f g n ++ [.int .i64 (f n), .int .i64 (g n)] := by simp [pvl, List.range_succ]
theorem seveninfo : (Try.prog.info? 27).map (fun i => (i.zero, i.size, i.bytes)) = some (some (.agg #[.int .i64 0]), 1, 8) := by kernel_rfl
set_option maxRecDepth 100000 in
set_option maxHeartbeats 8000000 in
theorem sevens_any (P : Option Addr) (L cap : Nat) (f : Nat → Int) (w : World) (hS : Il w P L f) :
    Calls Try.prog 7 #[.slice P L cap] w fun e w' => ∃ v : Value, e = .returned v ∧ w'.ownsRow w.heap.size 27 1 v (min L 40) (svl f (min L 40)) ∧ Below w.heap.size w w' := by
  have HS := hidden hS
  have nn0 : (0 : Int) ≤ (L : Int) := by omega
  obtain ⟨i0, hi, hz0, hz1, hz2⟩ := info_parts seveninfo
  have HI := hidden hi
  have HZ0 := hidden hz0
  have HZ1 := hidden hz1
  have HZ2 := hidden hz2
  have HU : Hid (Try.prog.underlying 24 = some (.slice 27)) := hidden (by kernel_rfl)
  clear hS hi hz0 hz1 hz2
  go_enter Try.func7, Try.ntmps7
  go_wp2_with fail
  go_loopw [3, 4] (fun ov iv w' => ∃ i : Nat, i ≤ min L 40 ∧ iv = .int .i64 i ∧ Hid (w'.ownsRow w.heap.size 27 1 ov i (svl f i)) ∧ Hid (Below w.heap.size w w')) (fun _ i _ => 40 - (intOf i).toNat)
  case atStart => exact ⟨0, by omega, rfl, hidden (World.ownsRow_nil _ _ _ _), hidden (Below.refl _ _)⟩
  case round =>
    obtain ⟨i, hi, rfl, how, hbl⟩ := hrel
    by_cases hin : i < min L 40
    · obtain ⟨sb, so, h1, h2⟩ := HS.out
      obtain rfl := h1 (by omega)
      have x0 := cell_keep (h2 i (by omega)) hbl.out
      have ii0 : (0 : Int) ≤ (i : Int) := by omega
      have ii1 : (i : Int) < (L : Int) := by omega
      have ii2 : (i : Int) < 40 := by omega
      have w9 : IntKind.i64.wrap ((i : Int) + 1) = (i : Int) + 1 := IntWalk.i64_in _ (by omega)
      obtain ⟨z, hz⟩ : ∃ z, f i = z := ⟨_, rfl⟩
      rw [hz] at x0
      have HZ := hidden hz
      have hsz := hbl.out.size
      have a1 := hidden (how.out.alloc (.cells #[.int .i64 z] 27))
      have a2 := hidden (cells_new wr [.int .i64 z] 27)
      have a3 : Hid (∀ u ∈ [Value.int .i64 z], u.oneCell' = true) := hidden (by simp [Value.oneCell'])
      have a4 : Hid (i + 1 ≤ maxLen) := hidden (by unfold maxLen; omega)
      have a5 : Hid ((i + 1) * 8 ≤ 140737488355328) := hidden (by omega)
      have a6 : Hid (w.heap.size ≤ (wr.alloc (.cells #[.int .i64 z] 27)).heap.size) := hidden (by simp; omega)
      have b6 := hidden (bl_trans hbl.out (bl_alloc wr (.cells #[.int .i64 z] 27)))
      clear hz h1 h2 hsz how hbl
      go_wp2_with (first | (at_builtin; refine wpList_append_own_at _ rfl _ _ 24 rfl w.heap.size 27 i0 (.agg #[.int .i64 0]) 1 8 HU.out HI.out HZ0.out HZ1.out HZ2.out rfl (by decide) _ _ _ rfl a1.out ⟨wr.heap.size, 0, none⟩ 1 1 [.int .i64 z] rfl rfl a2.out a3.out a4.out a5.out a6.out ?_; intro v' w3 hown hgr hnil hat; have HO := hidden hown; have HB := hidden (below_trans b6.out (below_grown hgr a6.out (fun k hk => (a1.out.lt k hk).1))); clear hown hgr hnil hat))
      go_roundw
      case rel => exact ⟨i + 1, by omega, by go_num, hidden (by rw [svl_succ, HZ.out]; exact HO.out), HB⟩
      case measure => simp [intOf]; omega
    · have hii : min L 40 = i := by omega
      have HII := hidden hii
      clear hii
      by_cases hL : (i : Int) < (L : Int)
      · have lq : ¬ (i : Int) < 40 := by omega
        clear hi hin
        go_wp2_with fail
        refine bodyPost_ret (v := u3) (by simp [results, Try.results7, go_sem]) rfl ⟨u3, rfl, by rw [HII.out]; exact how.out, hbl.out⟩
      · clear hi hin
        go_wp2_with fail
        refine bodyPost_ret (v := u3) (by simp [results, Try.results7, go_sem]) rfl ⟨u3, rfl, by rw [HII.out]; exact how.out, hbl.out⟩
theorem pairinfo : (Try.prog.info? 43).map (fun i => (i.zero, i.size, i.bytes)) = some (some (.agg #[.int .i64 0, .int .i64 0]), 2, 16) := by kernel_rfl
set_option maxRecDepth 100000 in
set_option maxHeartbeats 8000000 in
theorem pairs_any (P : Option Addr) (L cap : Nat) (f : Nat → Int) (w : World) (hS : Il w P L f) :
    Calls Try.prog 14 #[.slice P L cap] w fun e w' => ∃ v : Value, e = .returned v ∧ w'.ownsRow w.heap.size 43 2 v (min L 40) (pvl (fun k => (f k).tmod 35) (fun k => (f k).tmod 35) (min L 40)) ∧ Below w.heap.size w w' := by
  have HS := hidden hS
  have nn0 : (0 : Int) ≤ (L : Int) := by omega
  obtain ⟨i0, hi, hz0, hz1, hz2⟩ := info_parts pairinfo
  have HI := hidden hi
  have HZ0 := hidden hz0
  have HZ1 := hidden hz1
  have HZ2 := hidden hz2
  have HU : Hid (Try.prog.underlying 40 = some (.slice 43)) := hidden (by kernel_rfl)
  clear hS hi hz0 hz1 hz2
  go_enter Try.func14, Try.ntmps14
  go_wp2_with fail
  go_loopw [3, 4] (fun ov iv w' => ∃ i : Nat, i ≤ min L 40 ∧ iv = .int .i64 i ∧ Hid (w'.ownsRow w.heap.size 43 2 ov i (pvl (fun k => (f k).tmod 35) (fun k => (f k).tmod 35) i)) ∧ Hid (Below w.heap.size w w')) (fun _ i _ => 40 - (intOf i).toNat)
  case atStart => exact ⟨0, by omega, rfl, hidden (World.ownsRow_nil _ _ _ _), hidden (Below.refl _ _)⟩
  case round =>
    obtain ⟨i, hi, rfl, how, hbl⟩ := hrel
    by_cases hin : i < min L 40
    · obtain ⟨sb, so, h1, h2⟩ := HS.out
      obtain rfl := h1 (by omega)
      have x0 : wr.drew.cell? ⟨sb, so + i, none⟩ = _ := cell_keep (cell_keep (h2 i (by omega)) hbl.out) (bl_drew _)
      have ii0 : (0 : Int) ≤ (i : Int) := by omega
      have ii1 : (i : Int) < (L : Int) := by omega
      have ii2 : (i : Int) < 40 := by omega
      have w9 : IntKind.i64.wrap ((i : Int) + 1) = (i : Int) + 1 := IntWalk.i64_in _ (by omega)
      have PS := hidden (pvl_succ (fun k => (f k).tmod 35) (fun k => (f k).tmod 35) i)
      have wz := tm_wrap (f i) 35 (by decide) (by decide)
      obtain ⟨y, hy⟩ : ∃ y, f i = y := ⟨_, rfl⟩
      rw [hy] at x0 wz
      simp only [hy] at PS
      obtain ⟨z, hz⟩ : ∃ z, y.tmod 35 = z := ⟨_, rfl⟩
      rw [hz] at wz
      simp only [hz] at PS
      have hsz := hbl.out.size
      have OW := hidden (show wr.drew.ownsRow w.heap.size 43 2 _ i (pvl (fun k => (f k).tmod 35) (fun k => (f k).tmod 35) i) from how.out)
      have SZ : Hid (∀ o, w.heap.size ≤ (wr.alloc o).drew.heap.size) := hidden (fun o => by have : (wr.alloc o).drew.heap.size = wr.heap.size + 1 := World.size_alloc wr o; omega)
      have BA : Hid (∀ o, Below w.heap.size w (wr.alloc o).drew) := hidden (fun o => bl_trans (bl_trans hbl.out (bl_alloc wr o)) (bl_drew _))
      clear hy h1 h2 hsz how hbl
      go_upto_region 5 with fail
      go_region_law (refine step_append_own rfl (.tmp 15) (.tmp 27) 40 rfl w.heap.size 43 i0 (.agg #[.int .i64 0, .int .i64 0]) 2 16 HU.out HI.out HZ0.out HZ1.out HZ2.out rfl (by decide) _ _ _ (by simp [Act.eval]) (OW.out.alloc _) ⟨wr.drew.heap.size, 0, none⟩ 1 1 [.int .i64 z, .int .i64 z] (by simp [Act.eval]) rfl (cells_new wr.drew _ _) (by simp [Value.oneCell']) (by unfold maxLen; omega) (by omega) (SZ.out _) ?_; intro vn w3 hown hgr)
      all_goals
        have O2 := hidden hown
        have B2 := hidden (below_trans (BA.out _) (below_grown hgr (SZ.out _) (fun k hk => (OW.out.lt k hk).1)))
        clear hown hgr x0 wz
        go_wp2_with fail
        go_roundw
        case rel => exact ⟨i + 1, by omega, by go_num, hidden (by rw [PS.out]; exact O2.out), B2⟩
        case measure => simp [intOf]; omega
    · have hii : min L 40 = i := by omega
      have HII := hidden hii
      clear hii
      by_cases hL : (i : Int) < (L : Int)
      · have lq : ¬ (i : Int) < 40 := by omega
        clear hi hin
        go_wp2_with fail
        refine bodyPost_ret (v := u3) (by simp [results, Try.results14, go_sem]) rfl ⟨u3, rfl, by rw [HII.out]; exact how.out, hbl.out⟩
      · clear hi hin
        go_wp2_with fail
        refine bodyPost_ret (v := u3) (by simp [results, Try.results14, go_sem]) rfl ⟨u3, rfl, by rw [HII.out]; exact how.out, hbl.out⟩
end Go.Proofs.Ythhcdjndfepbaaa
