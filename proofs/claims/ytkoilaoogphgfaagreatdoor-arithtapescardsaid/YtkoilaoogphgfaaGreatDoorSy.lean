import Derived.Test.YtkoilaoogphgfaaGreatDoorSrt
import Derived.Test.YtkoilaoogphgfaaGreatDoorSnum
import Derived.Deep.RegionLaw
import Derived.Laws.AppendOwn
import Derived.OwnWalk
import Derived.Test.YtkoilaoogphgfaaGreatDoorSse
import Derived.Deep.OwnRows
import Derived.Deep.LoopGhost
import Derived.Laws.OwnMore
import Derived.Maps.AppendAt
import Derived.Test.YtkoilaoogphgfaaGreatDoorSop
namespace Go.Proofs.YtkoilaoogphgfaaGreatDoor
open Go.RowKit
def wn : List Int → Int
 | [] => 0
 | x :: l => x + 65536 * wn l
theorem wn_drop (xs : List Int) (k : Nat) (h : k < xs.length) : wn (xs.drop k) = xs.getD k 0 + 65536 * wn (xs.drop (k + 1)) := by
 rw [List.drop_eq_getElem_cons h]
 simp [wn, List.getD, h]
theorem wn_end (xs : List Int) : wn (xs.drop xs.length) = 0 := by simp [wn]
theorem words_next (N x : Int) (o : E4) (h : o.is N) (t : E4) (ht : t.is (65536 * o.n + x)) : t.is (x + 65536 * N) := by
 refine is_of ht ?_
 rw [Int.add_emod, Int.mul_emod, h.m, ← Int.mul_emod, ← Int.add_emod, Int.add_comm]
set_option maxRecDepth 100000 in
set_option maxHeartbeats 8000000 in
theorem words_any (b n c : Nat) (xs : List Int) (w : World) (hn : xs.length = n) (hm : n < 1000000)
  (hr : ∀ j, j < n → w.cell? ⟨b, j, none⟩ = some (.int .u64 (xs.getD j 0)) ∧ 0 ≤ xs.getD j 0 ∧ xs.getD j 0 < 65536) :
  Calls Tryz.prog 39 #[.slice (some ⟨b, 0, none⟩) n c] w fun e w' => ∃ t : E4, e = .returned t.v ∧ t.is (wn xs) ∧ Below w.heap.size w w' := by
 have HN := hidden hn
 have HR := hidden hr
 have s0 := ((St.nil w).room 43).room 43
 simp only [World.size_alloc] at s0
 have S0 := hidden s0
 clear s0 hn hr
 have nn0 : (0 : Int) ≤ (n : Int) := by omega
 have nn1 : (n : Int) < 1000000 := by omega
 go_enter Tryz.func39, Tryz.ntmps39
 go_wp2_with fail
 go_loopw [4] (fun i w' => ∃ (k : Nat) (o : E4), k ≤ n ∧ i = .int .i64 ((k : Int) - 1) ∧ o.is (wn (xs.drop k)) ∧ St w [(w.heap.size + 1, o), (w.heap.size, zero4)] [w.heap.size + 1, w.heap.size] w') (fun i _ => (intOf i + 1).toNat)
 case atStart => exact ⟨n, zero4, by omega, rfl, by rw [← HN.out, wn_end]; exact zero_lst.symm, S0.out⟩
 case round =>
  obtain ⟨k, o, hk, rfl, ho, hst⟩ := hrel
  clear S0
  cases k with
  | zero =>
   have S1 := hidden hst
   have c0 := (hst.live (w.heap.size + 1, o) (by simp)).c0
   have c1 := (hst.live (w.heap.size + 1, o) (by simp)).c1
   have c2 := (hst.live (w.heap.size + 1, o) (by simp)).c2
   have c3 := (hst.live (w.heap.size + 1, o) (by simp)).c3
   have d0 := (hst.live (w.heap.size, zero4) (by simp)).c0
   have d1 := (hst.live (w.heap.size, zero4) (by simp)).c1
   have d2 := (hst.live (w.heap.size, zero4) (by simp)).c2
   have d3 := (hst.live (w.heap.size, zero4) (by simp)).c3
   obtain ⟨f0, f1, f2, f3⟩ := (hst.wrt w.heap.size (by simp)).1
   have HO := hidden ho
   clear hst ho
   rw [show ((0 : Nat) : Int) - 1 = -1 from rfl]
   go_wp2_with fail
   refine bodyPost_ret (v := .agg #[.int .u64 o.x0, .int .u64 o.x1, .int .u64 o.x2, .int .u64 o.x3]) (by simp [results, Tryz.results39, go_sem, d0, d1, d2, d3]) rfl ⟨o, rfl, HO.out, ?_⟩
   exact set4_below _ _ _ S1.out.bel (Nat.le_refl _)
  | succ k =>
   have kk0 : (0 : Int) ≤ (k : Int) := by omega
   have kk1 : (k : Int) < 1000000 := by omega
   have kn : (k : Int) < (n : Int) := by omega
   obtain ⟨hc, hx0, hx1⟩ := HR.out k (by omega)
   have hwd := wn_drop xs k (by rw [HN.out]; omega)
   obtain ⟨x, hx⟩ : ∃ x, x = xs.getD k 0 := ⟨_, rfl⟩
   rw [← hx] at hc hx0 hx1 hwd
   have RS := hidden (fun w => rstep_any o x w ho.ok ho.lt hx0 hx1)
   have NX := hidden (words_next _ x o ho)
   have HWD := hidden hwd
   have HK := hidden hk
   have SD := hidden hst.drew
   have hc2 : wr.drew.cell? ⟨b, k, none⟩ = some (.int .u64 x) := cell_keep hc SD.out.bel
   have c0 : wr.drew.cell? ⟨w.heap.size + 1, 0, none⟩ = some (.int .u64 o.x0) := (SD.out.live (w.heap.size + 1, o) (by simp)).c0
   have c1 : wr.drew.cell? ⟨w.heap.size + 1, 1, none⟩ = some (.int .u64 o.x1) := (SD.out.live (w.heap.size + 1, o) (by simp)).c1
   have c2 : wr.drew.cell? ⟨w.heap.size + 1, 2, none⟩ = some (.int .u64 o.x2) := (SD.out.live (w.heap.size + 1, o) (by simp)).c2
   have c3 : wr.drew.cell? ⟨w.heap.size + 1, 3, none⟩ = some (.int .u64 o.x3) := (SD.out.live (w.heap.size + 1, o) (by simp)).c3
   clear hst hc ho hx hwd hx0 hx1
   rw [show ((k + 1 : Nat) : Int) - 1 = (k : Int) by omega]
   simp only [E4.v] at RS
   go_upto_region 5 with fail
   go_region_with (first | (go_at_call 58; with_reducible refine (RS.out _).mono ?_; rintro e wz ⟨t, rfl, ht, hb⟩; have S2 := SD.out.keep hb; have z0 := (S2.live (w.heap.size + 1, o) (by simp)).c0; have z1 := (S2.live (w.heap.size + 1, o) (by simp)).c1; have z2 := (S2.live (w.heap.size + 1, o) (by simp)).c2; have z3 := (S2.live (w.heap.size + 1, o) (by simp)).c3; obtain ⟨f0, f1, f2, f3⟩ := (S2.wrt (w.heap.size + 1) (by simp)).1; have S3 := hidden (S2.set (b := w.heap.size + 1) (M := [(w.heap.size, zero4)]) t (old := o) (by simp) (by omega) (by simp)); have HT := hidden (NX.out t ht); clear S2 ht hb))
   all_goals
    clear c0 c1 c2 c3 hc2 z0 z1 z2 z3 f0 f1 f2 f3
    go_wp2_with fail
    go_roundw
    case rel => exact ⟨k, t, by omega, by go_num, by rw [HWD.out]; exact HT.out, S3.out⟩
    case measure => simp [intOf]
end Go.Proofs.YtkoilaoogphgfaaGreatDoor
namespace Go.Proofs.YtkoilaoogphgfaaGreatDoor
open Go.RowKit
theorem u64info : (Tryz.prog.info? 30).map (fun i => (i.zero, i.size, i.bytes)) = some (some (.int .u64 0), 1, 8) := by kernel_rfl
theorem step_append_own {P : Program} {ops : Array Oper} {o : Oper} {a : Act} {w : World} {K : Act → World → Prop} {Q : Exit → Act → World → Prop} {E : Prop}
  (hg : o.guard = none) (s x : Operand) (t : TypeId) (hop : o.op = Op.call { callee := Callee.builtin Builtin.append, args := #[s, x], argTypes := #[t, t] })
  (base : Nat) (e : TypeId) (i : TypeInfo) (z : Value) (size bytes : Nat) (ht : P.underlying t = some (.slice e)) (hi : P.info? e = some i) (hz : i.zero = some z)
  (hsize : i.size = size) (hby : i.bytes = bytes) (hzs : z.cells.size = size) (hsz : 0 < size)
  (v : Value) (n : Nat) (xs : List Value) (hs : a.eval s = v) (hown : w.ownsRow base e size v n xs)
  (ad : Addr) (m c : Nat) (news : List Value) (hx : a.eval x = .slice (some ad) m c) (hl : news.length = m * size) (hnews : ∀ j u, news[j]? = some u → w.cell? (ad.add j) = some u) (h1 : ∀ u ∈ news, u.oneCell' = true)
  (h63 : n + m ≤ maxLen) (hbytes : (n + m) * bytes ≤ 140737488355328) (hbase : base ≤ w.heap.size)
  (h : ∀ v' w', w'.ownsRow base e size v' (n + m) (xs ++ news) → w.grownBy w' v.ownBlock → K (a.put o.dst v') w') :
  if Region.wanted o (yielded ops a.tmps) = true then Oper.wp P o a w K Q else E := by
 have hw : Region.wanted o (yielded ops a.tmps) = true := by simp [Region.wanted, hg]
 rw [if_pos hw]
 exact wp_append_own w s x t hop base e i z size bytes ht hi hz hsize hby hzs hsz v n xs hs hown ad m c news hx hl hnews h1 h63 hbytes hbase fun v' w' h2 h3 _ => h v' w' h2 h3
theorem cells_new (w : World) (cs : List Value) (t : TypeId) : ∀ j u, cs[j]? = some u → (w.alloc (.cells cs.toArray t)).cell? ((⟨w.heap.size, 0, none⟩ : Addr).add j) = some u := by
 intro j u hu
 have hadd : (⟨w.heap.size, 0, none⟩ : Addr).add j = ⟨w.heap.size, j, none⟩ := by unfold Addr.add; split <;> simp_all
 rw [hadd, cell_of_row (w.alloc (.cells cs.toArray t)) w.heap.size j cs.toArray t (0, 0) (heap_alloc_new w _)]
 simpa using hu
theorem St.grown {w0 : World} {L : List (Nat × E4)} {R : List Nat} {w1 w2 : World} {row : Option Nat} (h : St w0 L R w1) (hg : w1.grownBy w2 row) (hr : ∀ g, row = some g → w0.heap.size ≤ g ∧ (∀ p ∈ L, p.1 ≠ g) ∧ ∀ b ∈ R, b ≠ g) : St w0 L R w2 := by
 refine ⟨fun p hp => ?_, fun b hb => ?_, ⟨hg.os.trans h.bel.os, hg.tape.trans h.bel.tape, hg.output.trans h.bel.output, Nat.le_trans h.bel.size hg.size, fun k hk => ?_⟩⟩
 ·have hl := h.live p hp
  have hne : some p.1 ≠ row := fun e => (hr p.1 e.symm).2.1 p hp rfl
  exact ⟨hg.cell hl.c0 hne, hg.cell hl.c1 hne, hg.cell hl.c2 hne, hg.cell hl.c3 hne⟩
 ·obtain ⟨⟨f0, f1, f2, f3⟩, hlt⟩ := h.wrt b hb
  have hne : some b ≠ row := fun e => (hr b e.symm).2.2 b hb rfl
  have hblk := hg.block b hlt hne
  exact ⟨⟨(World.frozen?_of_block (a := ⟨b, 0, none⟩) hblk).trans f0, (World.frozen?_of_block (a := ⟨b, 1, none⟩) hblk).trans f1, (World.frozen?_of_block (a := ⟨b, 2, none⟩) hblk).trans f2, (World.frozen?_of_block (a := ⟨b, 3, none⟩) hblk).trans f3⟩, Nat.lt_of_lt_of_le hlt hg.size⟩
 ·rw [hg.block k (Nat.lt_of_lt_of_le hk h.bel.size) (fun e => by have := (hr k e.symm).1; omega)]
  exact h.bel.block k hk
def wd4 (x : Int) : List Int := [x % 65536, x / 65536 % 65536, x / 4294967296 % 65536, x / 281474976710656]
def wsl (a : E4) : Nat → List Int
 | 0 => []
 | k + 1 => wsl a k ++ wd4 (a.get k)
theorem wn_app (xs ys : List Int) : wn (xs ++ ys) = wn xs + 65536 ^ xs.length * wn ys := by
 induction xs with
 | nil => simp [wn]
 | cons x l ih => simp only [List.cons_append, wn, ih, List.length_cons, Int.pow_succ]; grind
theorem wn_wd4 (x : Int) : wn (wd4 x) = x := by simp only [wd4, wn]; omega
theorem wsl_len (a : E4) (k : Nat) : (wsl a k).length = 4 * k := by
 induction k with
 | zero => rfl
 | succ k ih => simp [wsl, ih, wd4]; omega
theorem wn_wsl (a : E4) : wn (wsl a 4) = a.n := by
 simp only [wsl, wn_app, wn_wd4, List.nil_append, E4.get, E4.n, Sm.V]
 simp [wd4]
theorem wd4_in (x : Int) (h : Sm.Wd x) : ∀ z ∈ wd4 x, 0 ≤ z ∧ z < 65536 := by
 unfold Sm.Wd at h
 intro z hz
 simp only [wd4, List.mem_cons, List.not_mem_nil, or_false] at hz
 rcases hz with rfl | rfl | rfl | rfl <;> omega
theorem wsl_in (a : E4) (h : a.ok) (k : Nat) : ∀ z ∈ wsl a k, 0 ≤ z ∧ z < 65536 := by
 induction k with
 | zero => intro z hz; simp [wsl] at hz
 | succ k ih =>
  intro z hz
  rcases List.mem_append.1 hz with hz | hz
  ·exact ih z hz
  ·exact wd4_in _ (E4.get_wd h k) z hz
theorem and16 (u : Int) (h0 : 0 ≤ u) (h1 : u ≤ 18446744073709551615) : bits .and .u64 u 65535 = u % 65536 := by
 rw [u64_and u 65535 h0 (by omega) (by omega) (by omega)]
 have : u.toNat &&& (65535 : Int).toNat = u.toNat % 65536 := Nat.and_two_pow_sub_one_eq_mod u.toNat 16
 rw [this]; omega
set_option maxRecDepth 100000 in
set_option maxHeartbeats 8000000 in
theorem rleast_any (a : E4) (w : World) (ha : a.ok) :
  Calls Tryz.prog 25 #[a.v] w fun e w' => ∃ t : E4, e = .returned t.v ∧ t.is a.n ∧ Below w.heap.size w w' := by
 have HA := hidden ha
 have s0 := (St.start w a 31).room 43
 simp only [World.size_alloc] at s0
 have S0 := hidden s0
 clear s0 ha
 obtain ⟨i0, hi, hz0, hz1, hz2⟩ := info_parts u64info
 have HI := hidden hi
 have HZ0 := hidden hz0
 have HZ1 := hidden hz1
 have HZ2 := hidden hz2
 clear hi hz0 hz1 hz2
 simp only [E4.v]
 go_enter Tryz.func25, Tryz.ntmps25
 go_wp2_with fail
 go_loopw [3, 4] (fun v i w' => ∃ k : Nat, k ≤ 4 ∧ i = .int .i64 k ∧ w'.ownsRow (w.heap.size + 1 + 1) 30 1 v (4 * k) ((wsl a k).map fun z => Value.int .u64 z) ∧ w.heap.size + 1 + 1 ≤ w'.heap.size ∧ St w [(w.heap.size + 1, zero4), (w.heap.size, a)] [w.heap.size + 1] w') (fun _ i _ => 4 - (intOf i).toNat)
 case atStart => exact ⟨0, by omega, rfl, World.ownsRow_nil _ _ _ _, by simp, S0.out⟩
 case round =>
  obtain ⟨k, hk, rfl, hown, hsz, hst⟩ := hrel
  clear S0
  by_cases hk4 : k < 4
  ·have kk0 : (0 : Int) ≤ (k : Int) := by omega
   have kk1 : (k : Int) < 4 := by omega
   obtain ⟨x, hx⟩ : ∃ x, a.get k = x := ⟨_, rfl⟩
   have xb : Sm.Wd x := by rw [← hx]; exact E4.get_wd HA.out k
   unfold Sm.Wd at xb
   have A0 := and16 x (by omega) (by omega)
   have A1 := and16 (x / 65536) (by omega) (by omega)
   have A2 := and16 (x / 4294967296) (by omega) (by omega)
   have ca : wr.drew.cell? ⟨w.heap.size, k, none⟩ = some (.int .u64 x) := by rw [← hx]; exact ((hst.live (w.heap.size, a) (by simp)).drew).get k hk4
   have HX := hidden hx
   have KS : Hid (∀ o, St w [(w.heap.size + 1, zero4), (w.heap.size, a)] [w.heap.size + 1] (wr.alloc o).drew) := hidden (fun o => (hst.keep (bl_alloc wr o)).drew)
   have OW := hidden (show wr.drew.ownsRow (w.heap.size + 1 + 1) 30 1 _ (4 * k) ((wsl a k).map fun z => Value.int .u64 z) from hown)
   have SZ : Hid (∀ o, w.heap.size + 1 + 1 ≤ (wr.alloc o).drew.heap.size) := hidden (fun o => by have : (wr.alloc o).drew.heap.size = wr.heap.size + 1 := World.size_alloc wr o; omega)
   clear hown hsz hst hx
   go_upto_region 5 with fail
   go_region_law (refine step_append_own rfl (.tmp 9) (.tmp 28) 112 rfl (w.heap.size + 1 + 1) 30 i0 (.int .u64 0) 1 8 Tryz.underlying112 HI.out HZ0.out HZ1.out HZ2.out rfl (by decide) _ _ _ (by simp [Act.eval]) (OW.out.alloc _) ⟨wr.drew.heap.size, 0, none⟩ 4 4 [.int .u64 (x % 65536), .int .u64 (x / 65536 % 65536), .int .u64 (x / 4294967296 % 65536), .int .u64 (x / 281474976710656)] (by simp [Act.eval]) rfl (cells_new wr.drew _ _) (by simp [Value.oneCell']) (by unfold maxLen; omega) (by omega) (SZ.out _) ?_; intro vn wz hown hgr)
   all_goals
    have S2 := hidden ((KS.out _).grown hgr (fun g hg => by have := (OW.out.lt g hg).1; simp; omega))
    have Z2 := hidden (Nat.le_trans (SZ.out _) hgr.size)
    have O2 := hidden hown
    clear hown hgr
    go_wp2_with fail
    go_roundw
    case rel => exact ⟨k + 1, by omega, by go_num, by rw [wsl, List.map_append, HX.out]; exact O2.out, Z2.out, S2.out⟩
    case measure => simp [intOf]; omega
  ·have hkk : k = 4 := by omega
   subst hkk
   rcases hown.2 with ⟨_, h0⟩ | ⟨g, cap, cur, rfl, hg, hblk, hnc, hcm, hcs, htake⟩
   ·omega
   have WA := hidden (words_any g 16 cap (wsl a 4) wr (wsl_len a 4) (by omega) (fun j hj => by
    have hj2 : j < (wsl a 4).length := by rw [wsl_len]; omega
    have e1 : (wsl a 4).getD j 0 = (wsl a 4)[j] := by simp [List.getD, hj2]
    have hc := hown.cells (g := g) rfl j (.int .u64 ((wsl a 4).getD j 0)) (by simp [hj2])
    have hadd : (⟨g, 0, none⟩ : Addr).add j = ⟨g, j, none⟩ := by unfold Addr.add; split <;> simp_all
    rw [hadd] at hc
    exact ⟨hc, by rw [e1]; exact wsl_in a HA.out 4 _ (List.getElem_mem hj2)⟩))
   have ST := hidden hst
   clear hown hst hblk hcs htake hnc hcm
   simp only [Nat.reduceMul]
   go_wp2_with fail
   refine WA.out.mono ?_
   rintro e w2 ⟨t, rfl, ht, hb⟩
   have S2 := ST.out.keep hb
   have z0 := (S2.live (w.heap.size + 1, zero4) (by simp)).c0
   have z1 := (S2.live (w.heap.size + 1, zero4) (by simp)).c1
   have z2 := (S2.live (w.heap.size + 1, zero4) (by simp)).c2
   have z3 := (S2.live (w.heap.size + 1, zero4) (by simp)).c3
   obtain ⟨f0, f1, f2, f3⟩ := (S2.wrt (w.heap.size + 1) (by simp)).1
   have S3 := hidden S2
   have HT := hidden ht
   clear S2 ht hb
   simp only [E4.v]
   go_wp2_with fail
   refine bodyPost_ret (v := .agg #[.int .u64 t.x0, .int .u64 t.x1, .int .u64 t.x2, .int .u64 t.x3]) (by simp [results, Tryz.results25, go_sem, z0, z1, z2, z3]) rfl ⟨t, rfl, by rw [← wn_wsl]; exact HT.out, ?_⟩
   exact set4_below _ _ _ S3.out.bel (by omega)
end Go.Proofs.YtkoilaoogphgfaaGreatDoor
namespace Go.Proofs.YtkoilaoogphgfaaGreatDoor
open Go.RowKit
theorem addr_add (g j : Nat) : (⟨g, 0, none⟩ : Addr).add j = ⟨g, j, none⟩ := by unfold Addr.add; split <;> simp_all
theorem intinfo : (Tryz.prog.info? 3).map (fun i => (i.zero, i.size, i.bytes)) = some (some (.int .i64 0), 1, 8) := by kernel_rfl
def More (w : World) (base : Nat) (e : TypeId) (v : Value) (n : Nat) (xs : List Value) : Prop :=
 w.ownsRow base e 1 v n xs ∨ (∃ g, v = .slice (some ⟨g, 0, none⟩) n n ∧ xs.length = n ∧ ∀ j u, xs[j]? = some u → w.cell? ((⟨g, 0, none⟩ : Addr).add j) = some u)
theorem More.alloc {w : World} {base : Nat} {e : TypeId} {v : Value} {n : Nat} {xs : List Value} (h : More w base e v n xs) (o : Obj) : More (w.alloc o) base e v n xs := by
 rcases h with h | ⟨g, hv, hl, hc⟩
 ·exact Or.inl (h.alloc o)
 ·exact Or.inr ⟨g, hv, hl, fun j u hu => by have := hc j u hu; rw [addr_add] at this ⊢; exact cell_keep this (bl_alloc w o)⟩
theorem below_grown {w w' : World} {row : Option Nat} {base : Nat} (hg : w.grownBy w' row) (hb : base ≤ w.heap.size) (hr : ∀ k, row = some k → base ≤ k) : Below base w w' :=
 ⟨hg.os, hg.tape, hg.output, hg.size, fun k hk => hg.block k (by omega) (fun e => by have := hr k e.symm; omega)⟩
theorem run_append_more {P : Program} (w : World) (base : Nat) (t ty e : TypeId) (i : TypeInfo) (z : Value) (bytes : Nat) (ht : P.underlying t = some (.slice e)) (hi : P.info? e = some i) (hz : i.zero = some z)
  (hsize : i.size = 1) (hby : i.bytes = bytes) (hzs : z.cells.size = 1) (v : Value) (n : Nat) (xs : List Value) (hm : More w base e v n xs)
  (a : Addr) (u : Value) (hc : w.cell? (a.add 0) = some u) (h1 : u.oneCell' = true) (h63 : n + 1 ≤ maxLen) (hbytes : (n + 1) * bytes ≤ 140737488355328) (hbase : base ≤ w.heap.size) :
  ∃ v' w', (Builtin.append_ #[t, t] ty #[v, .slice (some a) 1 1]).run P w = .ok v' w' ∧ w'.ownsRow base e 1 v' (n + 1) (xs ++ [u]) ∧ Below base w w' := by
 have hnews : ∀ j y, [u][j]? = some y → w.cell? (a.add j) = some y := by
  intro j y hj
  match j, hj with
  | 0, hj => simp at hj; rw [← hj]; exact hc
 rcases hm with hown | ⟨g, rfl, hl, hcs⟩
 ·obtain ⟨v', w', hr, ho, hg, _⟩ := run_append_own (P := P) w base t ty e i z 1 bytes ht hi hz hsize hby hzs (by omega) v n xs hown a 1 1 [u] rfl hnews (fun y hy => by simp at hy; subst hy; exact h1) h63 hbytes hbase
  exact ⟨v', w', hr, ho, below_grown hg hbase (fun k hk => (hown.lt k hk).1)⟩
 ·subst hby
  have hr := run_append_grow (P := P) w t ty e i z ht hi hz ⟨g, 0, none⟩ n n xs (by rw [hsize]; omega) hcs a 1 1 [u] (by rw [hsize]; rfl) hnews (by omega) (by simp only [maxLen] at h63; omega) (growslice_fits (by omega) hbytes)
  have hge := grownCap_ge w (n + 1) n e
  have hcm : grownCap w (n + 1) n e ≤ maxLen := grownCap_le_maxLen w (n + 1) n e h63
  refine ⟨_, _, hr, ⟨by simp [hl], .inr ⟨w.heap.size, _, _, rfl, hbase, heap_alloc_new w.drew _, hge, hcm, ?_, ?_⟩⟩, ⟨rfl, rfl, rfl, by simp, fun k hk => heap_alloc_old w.drew _ (show k < w.heap.size by omega)⟩⟩
  ·simp only [Array.size_append, List.size_toArray, size_zeroCells, hzs, hl, List.length_cons, List.length_nil]
   omega
  ·simp only [Array.toList_append, List.append_assoc]
   rw [← List.append_assoc, show (n + 1) * 1 = (xs ++ [u]).length by simp [hl]]
   exact List.take_left
theorem wpList_append_more {P : Program} (w : World) {ops : Array Oper} {rest : List Oper} {o : Oper} {a : Act} {Q : Exit → Act → World → Prop} (hgd : o.guard = none) (s x : Operand) (t : TypeId)
  (ho : o.op = .call { callee := .builtin .append, args := #[s, x], argTypes := #[t, t] })
  (base : Nat) (e : TypeId) (i : TypeInfo) (z : Value) (bytes : Nat) (ht : P.underlying t = some (.slice e)) (hi : P.info? e = some i) (hz : i.zero = some z)
  (hsize : i.size = 1) (hby : i.bytes = bytes) (hzs : z.cells.size = 1) (v : Value) (n : Nat) (xs : List Value) (hs : a.eval s = v) (hm : More w base e v n xs)
  (ad : Addr) (u : Value) (hx : a.eval x = .slice (some ad) 1 1) (hc : w.cell? (ad.add 0) = some u) (h1 : u.oneCell' = true) (h63 : n + 1 ≤ maxLen) (hbytes : (n + 1) * bytes ≤ 140737488355328) (hbase : base ≤ w.heap.size)
  (h : ∀ v' w', w'.ownsRow base e 1 v' (n + 1) (xs ++ [u]) → Below base w w' → wpList P ops Q rest (a.put o.dst v') w') : wpList P ops Q (o :: rest) a w := by
 refine wpList_plain hgd fun K hK => ?_
 obtain ⟨v', w', hr, h2, h3⟩ := run_append_more (P := P) w base t o.type e i z bytes ht hi hz hsize hby hzs v n xs hm ad u hc h1 h63 hbytes hbase
 unfold Oper.wp execOp
 simp only [ho, resolve, invoke, builtin, Sem.run_bind, Sem.run_pure, Result.andThen_ok, List.map_toArray, List.map_cons, List.map_nil, hs, hx, hr]
 exact hK _ _ (h v' w' h2 h3)
theorem bl_trans2 {n : Nat} {w1 w2 w3 : World} {o : Obj} (h1 : Below n w1 w2) (h2 : Below n (w2.alloc o) w3) (hn : n ≤ w2.heap.size) : Below n w1 w3 := by
 have h3 := (bl_alloc w2 o)
 exact ⟨h2.os.trans h1.os, h2.tape.trans h1.tape, h2.output.trans h1.output, Nat.le_trans h1.size (Nat.le_trans h3.size h2.size), fun k hk => (h2.block k hk).trans ((h3.block k (by omega)).trans (h1.block k hk))⟩
end Go.Proofs.YtkoilaoogphgfaaGreatDoor
namespace Go.Proofs.YtkoilaoogphgfaaGreatDoor
open Go.RowKit
structure Rws (w : World) (b n : Nat) (g : Nat → E4) : Prop where
 c0 : ∀ k, k < n → w.cell? ⟨b, k * 4, none⟩ = some (.int .u64 (g k).x0)
 c1 : ∀ k, k < n → w.cell? ⟨b, k * 4 + 1, none⟩ = some (.int .u64 (g k).x1)
 c2 : ∀ k, k < n → w.cell? ⟨b, k * 4 + 2, none⟩ = some (.int .u64 (g k).x2)
 c3 : ∀ k, k < n → w.cell? ⟨b, k * 4 + 3, none⟩ = some (.int .u64 (g k).x3)
 fr : ∀ k, k < n * 4 → w.frozen? ⟨b, k, none⟩ = false
 lt : b < w.heap.size
theorem Rws.keep {w1 w2 : World} {b n : Nat} {g : Nat → E4} (h : Rws w1 b n g) (hb : Below w1.heap.size w1 w2) : Rws w2 b n g :=
 ⟨fun k hk => cell_keep (h.c0 k hk) hb, fun k hk => cell_keep (h.c1 k hk) hb, fun k hk => cell_keep (h.c2 k hk) hb, fun k hk => cell_keep (h.c3 k hk) hb, fun k hk => ((bcell hb).2 _ _ h.lt).trans (h.fr k hk), Nat.lt_of_lt_of_le h.lt hb.size⟩
theorem Rws.congr {w : World} {b n : Nat} {g f : Nat → E4} (h : Rws w b n g) (e : ∀ k, k < n → g k = f k) : Rws w b n f :=
 ⟨fun k hk => by rw [← e k hk]; exact h.c0 k hk, fun k hk => by rw [← e k hk]; exact h.c1 k hk, fun k hk => by rw [← e k hk]; exact h.c2 k hk, fun k hk => by rw [← e k hk]; exact h.c3 k hk, h.fr, h.lt⟩
theorem Rws.far {w : World} {b n : Nat} {g : Nat → E4} (h : Rws w b n g) {c : Nat} (hne : c ≠ b) (k : Nat) (v : Value) : Rws (w.setCell ⟨c, k, none⟩ v) b n g :=
 ⟨fun j hj => (World.cell?_setCell_far w _ _ _ hne).trans (h.c0 j hj), fun j hj => (World.cell?_setCell_far w _ _ _ hne).trans (h.c1 j hj), fun j hj => (World.cell?_setCell_far w _ _ _ hne).trans (h.c2 j hj), fun j hj => (World.cell?_setCell_far w _ _ _ hne).trans (h.c3 j hj), fun j hj => by have := h.fr j hj; go_simp, by have := h.lt; simpa using this⟩
def setS (w : World) (b o : Nat) (r : E4) : World := (((w.setCell ⟨b, o, none⟩ (.int .u64 r.x0)).setCell ⟨b, o + 1, none⟩ (.int .u64 r.x1)).setCell ⟨b, o + 2, none⟩ (.int .u64 r.x2)).setCell ⟨b, o + 3, none⟩ (.int .u64 r.x3)
theorem setS_size (w : World) (b o : Nat) (r : E4) : (setS w b o r).heap.size = w.heap.size := by unfold setS; simp
theorem setS_frozen (w : World) (b o : Nat) (r : E4) (a : Addr) : (setS w b o r).frozen? a = w.frozen? a := by unfold setS; simp
theorem setS_far (w : World) (b o : Nat) (r : E4) (a : Addr) (h : ∀ j, j < 4 → (⟨b, o + j, none⟩ : Addr) ≠ a) : (setS w b o r).cell? a = w.cell? a := by
 unfold setS
 rw [World.cell?_setCell_other _ _ _ _ (h 3 (by omega)), World.cell?_setCell_other _ _ _ _ (h 2 (by omega)), World.cell?_setCell_other _ _ _ _ (h 1 (by omega)), World.cell?_setCell_other _ _ _ _ (by simpa using h 0 (by omega))]
theorem setS_at (w : World) (b o : Nat) (r : E4) (x0 x1 x2 x3 : Value) (h0 : w.cell? ⟨b, o, none⟩ = some x0) (h1 : w.cell? ⟨b, o + 1, none⟩ = some x1) (h2 : w.cell? ⟨b, o + 2, none⟩ = some x2) (h3 : w.cell? ⟨b, o + 3, none⟩ = some x3) :
  (setS w b o r).cell? ⟨b, o, none⟩ = some (.int .u64 r.x0) ∧ (setS w b o r).cell? ⟨b, o + 1, none⟩ = some (.int .u64 r.x1) ∧ (setS w b o r).cell? ⟨b, o + 2, none⟩ = some (.int .u64 r.x2) ∧ (setS w b o r).cell? ⟨b, o + 3, none⟩ = some (.int .u64 r.x3) := by
 unfold setS
 refine ⟨?_, ?_, ?_, ?_⟩ <;> go_simp
set_option maxHeartbeats 2000000 in
theorem Rws.at {w : World} {b n : Nat} {g : Nat → E4} (h : Rws w b n g) (k : Nat) (hk : k < n) (r : E4) : Rws (setS w b (k * 4) r) b n (fun j => if j = k then r else g j) := by
 obtain ⟨a0, a1, a2, a3⟩ := setS_at w b (k * 4) r _ _ _ _ (h.c0 k hk) (h.c1 k hk) (h.c2 k hk) (h.c3 k hk)
 have hf : ∀ (j i : Nat), j ≠ k → i < 4 → (setS w b (k * 4) r).cell? ⟨b, j * 4 + i, none⟩ = w.cell? ⟨b, j * 4 + i, none⟩ := fun j i hj hi => setS_far w b (k * 4) r _ (fun x hx e => by have := congrArg Addr.off e; simp only at this; omega)
 refine ⟨fun j hj => ?_, fun j hj => ?_, fun j hj => ?_, fun j hj => ?_, fun j hj => by rw [setS_frozen]; exact h.fr j hj, by rw [setS_size]; exact h.lt⟩
 all_goals by_cases hjk : j = k
 all_goals first | (subst hjk; rw [if_pos rfl]; assumption) | rw [if_neg hjk]
 ·exact (hf j 0 hjk (by omega)).trans (h.c0 j hj)
 ·exact (hf j 1 hjk (by omega)).trans (h.c1 j hj)
 ·exact (hf j 2 hjk (by omega)).trans (h.c2 j hj)
 ·exact (hf j 3 hjk (by omega)).trans (h.c3 j hj)
theorem setS_below (w : World) (b o : Nat) (r : E4) {w0 : World} {n : Nat} (h : Below n w0 w) (hb : n ≤ b) : Below n w0 (setS w b o r) :=
 (((h.setCell hb _).setCell hb _).setCell hb _).setCell hb _
def MoreS (w : World) (base : Nat) (e : TypeId) (v : Value) (n : Nat) (xs : List Value) : Prop :=
 w.ownsRow base e 4 v n xs ∨ (∃ g, v = .slice (some ⟨g, 0, none⟩) n n ∧ xs.length = n * 4 ∧ ∀ j u, xs[j]? = some u → w.cell? ((⟨g, 0, none⟩ : Addr).add j) = some u)
theorem MoreS.alloc {w : World} {base : Nat} {e : TypeId} {v : Value} {n : Nat} {xs : List Value} (h : MoreS w base e v n xs) (o : Obj) : MoreS (w.alloc o) base e v n xs := by
 rcases h with h | ⟨g, hv, hl, hc⟩
 ·exact Or.inl (h.alloc o)
 ·exact Or.inr ⟨g, hv, hl, fun j u hu => by have := hc j u hu; rw [addr_add] at this ⊢; exact cell_keep this (bl_alloc w o)⟩
theorem run_append_moreS {P : Program} (w : World) (base : Nat) (t ty e : TypeId) (i : TypeInfo) (z : Value) (bytes : Nat) (ht : P.underlying t = some (.slice e)) (hi : P.info? e = some i) (hz : i.zero = some z)
  (hsize : i.size = 4) (hby : i.bytes = bytes) (hzs : z.cells.size = 4) (v : Value) (n : Nat) (xs : List Value) (hm : MoreS w base e v n xs)
  (a : Addr) (us : List Value) (hus : us.length = 4) (hc : ∀ j y, us[j]? = some y → w.cell? (a.add j) = some y) (h1 : ∀ u ∈ us, u.oneCell' = true) (h63 : n + 1 ≤ maxLen) (hbytes : (n + 1) * bytes ≤ 140737488355328) (hbase : base ≤ w.heap.size) :
  ∃ v' w', (Builtin.append_ #[t, t] ty #[v, .slice (some a) 1 1]).run P w = .ok v' w' ∧ w'.ownsRow base e 4 v' (n + 1) (xs ++ us) ∧ Below base w w' := by
 rcases hm with hown | ⟨g, rfl, hl, hcs⟩
 ·obtain ⟨v', w', hr, ho, hg, _⟩ := run_append_own (P := P) w base t ty e i z 4 bytes ht hi hz hsize hby hzs (by omega) v n xs hown a 1 1 us (by omega) hc h1 h63 hbytes hbase
  exact ⟨v', w', hr, ho, below_grown hg hbase (fun k hk => (hown.lt k hk).1)⟩
 ·subst hby
  have hr := run_append_grow (P := P) w t ty e i z ht hi hz ⟨g, 0, none⟩ n n xs (by rw [hsize]; omega) hcs a 1 1 us (by rw [hsize]; omega) hc (by omega) (by simp only [maxLen] at h63; omega) (growslice_fits (by omega) hbytes)
  have hge := grownCap_ge w (n + 1) n e
  have hcm : grownCap w (n + 1) n e ≤ maxLen := grownCap_le_maxLen w (n + 1) n e h63
  refine ⟨_, _, hr, ⟨by simp [hl, hus]; omega, .inr ⟨w.heap.size, _, _, rfl, hbase, heap_alloc_new w.drew _, hge, hcm, ?_, ?_⟩⟩, ⟨rfl, rfl, rfl, by simp, fun k hk => heap_alloc_old w.drew _ (show k < w.heap.size by omega)⟩⟩
  ·simp only [Array.size_append, List.size_toArray, size_zeroCells, hzs, hl, hus]
   omega
  ·simp only [Array.toList_append, List.append_assoc]
   rw [← List.append_assoc, show (n + 1) * 4 = (xs ++ us).length by simp [hl, hus]; omega]
   exact List.take_left
theorem wpList_append_moreS {P : Program} (w : World) {ops : Array Oper} {rest : List Oper} {o : Oper} {a : Act} {Q : Exit → Act → World → Prop} (hgd : o.guard = none) (s x : Operand) (t : TypeId)
  (ho : o.op = .call { callee := .builtin .append, args := #[s, x], argTypes := #[t, t] })
  (base : Nat) (e : TypeId) (i : TypeInfo) (z : Value) (bytes : Nat) (ht : P.underlying t = some (.slice e)) (hi : P.info? e = some i) (hz : i.zero = some z)
  (hsize : i.size = 4) (hby : i.bytes = bytes) (hzs : z.cells.size = 4) (v : Value) (n : Nat) (xs : List Value) (hs : a.eval s = v) (hm : MoreS w base e v n xs)
  (ad : Addr) (us : List Value) (hx : a.eval x = .slice (some ad) 1 1) (hus : us.length = 4) (hc : ∀ j y, us[j]? = some y → w.cell? (ad.add j) = some y) (h1 : ∀ u ∈ us, u.oneCell' = true) (h63 : n + 1 ≤ maxLen) (hbytes : (n + 1) * bytes ≤ 140737488355328) (hbase : base ≤ w.heap.size)
  (h : ∀ v' w', w'.ownsRow base e 4 v' (n + 1) (xs ++ us) → Below base w w' → wpList P ops Q rest (a.put o.dst v') w') : wpList P ops Q (o :: rest) a w := by
 refine wpList_plain hgd fun K hK => ?_
 obtain ⟨v', w', hr, h2, h3⟩ := run_append_moreS (P := P) w base t o.type e i z bytes ht hi hz hsize hby hzs v n xs hm ad us hus hc h1 h63 hbytes hbase
 unfold Oper.wp execOp
 simp only [ho, resolve, invoke, builtin, Sem.run_bind, Sem.run_pure, Result.andThen_ok, List.map_toArray, List.map_cons, List.map_nil, hs, hx, hr]
 exact hK _ _ (h v' w' h2 h3)
theorem sinfo : (Tryz.prog.info? 32).map (fun i => (i.zero, i.size, i.bytes)) = some (some (.agg #[.int .u64 0, .int .u64 0, .int .u64 0, .int .u64 0]), 4, 32) := by kernel_rfl
def mks (i k : Nat) : E4 := ⟨100000 * ((i : Int) + 1) + k, 0, 0, 0⟩
def gms (g : Nat → Nat → E4) (i k : Nat) (a j : Nat) : E4 := if a < i then mks a j else if a = i ∧ j < k then mks a j else g a j
structure AsW (w0 : World) (B c : Nat) (n : Nat → Nat) (p : Nat → Option Addr) (b : Nat → Nat) (g : Nat → Nat → E4) (w : World) : Prop where
 bel : Below w0.heap.size w0 w
 cB : ∀ i, i < c → w.cell? ⟨B, i, none⟩ = some (.slice (p i) (n i) (n i))
 rows : ∀ i, i < c → 0 < n i → Rws w (b i) (n i) (g i)
structure As3 (w0 : World) (B c : Nat) (n : Nat → Nat) (p : Nat → Option Addr) (b : Nat → Nat) : Prop where
 c0 : c < 100
 n0 : ∀ i, i < c → n i ≤ 4398046511040
 hp : ∀ i, i < c → 0 < n i → p i = some ⟨b i, 0, none⟩
 hz : ∀ i, i < c → n i = 0 → p i = none ∨ ∃ x, p i = some ⟨x, 0, none⟩
 hd : ∀ i j, i < c → j < c → 0 < n i → 0 < n j → i ≠ j → b i ≠ b j
 hB : ∀ i, i < c → 0 < n i → b i ≠ B
 h0 : ∀ i, i < c → 0 < n i → w0.heap.size ≤ b i
theorem AsW.keep {w0 : World} {B c : Nat} {n : Nat → Nat} {p : Nat → Option Addr} {b : Nat → Nat} {g : Nat → Nat → E4} {w1 w2 : World} (h : AsW w0 B c n p b g w1) (hb : Below w1.heap.size w1 w2) : AsW w0 B c n p b g w2 :=
 ⟨bl_trans h.bel hb, fun i hi => cell_keep (h.cB i hi) hb, fun i hi hn => (h.rows i hi hn).keep hb⟩
theorem AsW.congr {w0 : World} {B c : Nat} {n : Nat → Nat} {p : Nat → Option Addr} {b : Nat → Nat} {g f : Nat → Nat → E4} {w : World} (h : AsW w0 B c n p b g w) (e : ∀ i, i < c → ∀ j, j < n i → g i j = f i j) : AsW w0 B c n p b f w :=
 ⟨h.bel, h.cB, fun i hi hn => (h.rows i hi hn).congr (e i hi)⟩
theorem AsW.put {w0 : World} {B c i k : Nat} {n : Nat → Nat} {p : Nat → Option Addr} {b : Nat → Nat} {g : Nat → Nat → E4} {w : World} (h : AsW w0 B c n p b (gms g i k) w) (A : As3 w0 B c n p b) (hi : i < c) (hk : k < n i) : AsW w0 B c n p b (gms g i (k + 1)) (setS w (b i) (k * 4) (mks i k)) := by
 have hn0 : 0 < n i := by omega
 refine ⟨setS_below _ _ _ _ h.bel (A.h0 i hi hn0), fun j hj => (setS_far _ _ _ _ _ (fun x _ e => A.hB i hi hn0 (congrArg Addr.block e))).trans (h.cB j hj), fun j hj hn => ?_⟩
 by_cases hji : j = i
 ·subst hji
  refine ((h.rows j hj hn).at k hk (mks j k)).congr fun x _ => ?_
  unfold gms
  by_cases hx : x = k
  ·subst hx
   rw [if_pos rfl, if_neg (by omega), if_pos (by omega)]
  ·rw [if_neg hx, if_neg (Nat.lt_irrefl j)]
   by_cases hlt : x < k
   ·rw [if_pos ⟨rfl, hlt⟩, if_neg (Nat.lt_irrefl j), if_pos ⟨rfl, by omega⟩]
   ·rw [if_neg (by omega), if_neg (Nat.lt_irrefl j), if_neg (by omega)]
 ·have hne := A.hd i j hi hj hn0 hn (fun e => hji e.symm)
  have hr := ((((h.rows j hj hn).far hne (k * 4) (.int .u64 (mks i k).x0)).far hne (k * 4 + 1) (.int .u64 (mks i k).x1)).far hne (k * 4 + 2) (.int .u64 (mks i k).x2)).far hne (k * 4 + 3) (.int .u64 (mks i k).x3)
  refine Rws.congr (g := gms g i k j) hr fun x _ => ?_
  unfold gms
  by_cases hlt : j < i
  ·rw [if_pos hlt, if_pos hlt]
  ·rw [if_neg hlt, if_neg hlt, if_neg (by omega), if_neg (by omega)]
theorem gms_next (g : Nat → Nat → E4) (c : Nat) (n : Nat → Nat) (i : Nat) : ∀ a, a < c → ∀ j, j < n a → gms g i (n i) a j = gms g (i + 1) 0 a j := by
 intro a _ j hj
 unfold gms
 by_cases h : a < i
 ·rw [if_pos h, if_pos (by omega)]
 ·by_cases h2 : a = i
  ·rw [if_neg h, if_pos ⟨h2, by rw [← h2]; exact hj⟩, if_pos (by omega)]
  ·rw [if_neg h, if_neg (by omega), if_neg (by omega), if_neg (by omega)]
theorem gms_zero (g : Nat → Nat → E4) (a j : Nat) : gms g 0 0 a j = g a j := by
 unfold gms
 rw [if_neg (by omega), if_neg (by omega)]
theorem gms_all (g : Nat → Nat → E4) (c : Nat) : ∀ a, a < c → ∀ j, gms g c 0 a j = mks a j := by
 intro a ha j
 unfold gms
 rw [if_pos ha]
def svs (n : Nat) (g : Nat → E4) : List Value := (List.range n).flatMap fun k => [.int .u64 (g k).x0, .int .u64 (g k).x1, .int .u64 (g k).x2, .int .u64 (g k).x3]
theorem svs_succ (n : Nat) (g : Nat → E4) : svs (n + 1) g = svs n g ++ [.int .u64 (g n).x0, .int .u64 (g n).x1, .int .u64 (g n).x2, .int .u64 (g n).x3] := by simp [svs, List.range_succ]
theorem svs_len (n : Nat) (g : Nat → E4) : (svs n g).length = n * 4 := by
 induction n with
 | zero => rfl
 | succ n ih => rw [svs_succ, List.length_append, ih]; simp; omega
theorem svs_row {w : World} {b m : Nat} {g : Nat → E4} (h : Rws w b m g) (n : Nat) (hn : n ≤ m) : ∀ j u, (svs n g)[j]? = some u → w.cell? ⟨b, j, none⟩ = some u := by
 induction n with
 | zero => intro j u hu; simp [svs] at hu
 | succ n ih =>
  intro j u hu
  rw [svs_succ] at hu
  by_cases hj : j < n * 4
  ·rw [List.getElem?_append_left (by rw [svs_len]; exact hj)] at hu
   exact ih (by omega) j u hu
  ·rw [List.getElem?_append_right (by rw [svs_len]; omega), svs_len] at hu
   obtain ⟨d, hd⟩ : ∃ d, j = n * 4 + d := ⟨j - n * 4, by omega⟩
   subst hd
   rw [show n * 4 + d - n * 4 = d by omega] at hu
   match d, hu with
   | 0, hu => simp at hu; rw [← hu]; exact h.c0 n (by omega)
   | 1, hu => simp at hu; rw [← hu]; exact h.c1 n (by omega)
   | 2, hu => simp at hu; rw [← hu]; exact h.c2 n (by omega)
   | 3, hu => simp at hu; rw [← hu]; exact h.c3 n (by omega)
end Go.Proofs.YtkoilaoogphgfaaGreatDoor
