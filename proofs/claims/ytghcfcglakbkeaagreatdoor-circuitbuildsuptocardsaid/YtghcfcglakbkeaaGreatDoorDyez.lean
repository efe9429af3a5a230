import Derived.Test.YtghcfcglakbkeaaGreatDoorDyd
namespace Go.Proofs.YtghcfcglakbkeaaGreatDoor
open Go.RowKit
set_option linter.unusedVariables false
set_option linter.unusedSimpArgs false
open Cm (Wr Tm co bf Ls lf ins Eqm)
namespace Ci
set_option maxRecDepth 100000
set_option maxHeartbeats 8000000
theorem dOf_sl (q : Wr) (w : World) : Calls Tryz.prog 56 #[.agg #[.int .i64 q.1, .int .i64 q.2]] w fun e w' => ∃ P c, e = .returned (.slice P 1 c) ∧ Lt w' P 1 (ft [(q, 1)]) ∧ Below w.heap.size w w' :=
 (dOf_any q w).mono fun e w' ⟨v, he, h⟩ => by
  obtain ⟨P, c, e1, hl⟩ := h.shape
  subst e1
  exact ⟨P, c, he, hl, h.2⟩
theorem dSub_sl (q : Wr) (P R : Option Addr) (c d : Nat) (Y : List Tm) (w : World) (hn : Y.length ≤ 1048576) (hL : Lt w P 1 (ft [(q, 1)])) (hL2 : Lt w R Y.length (ft Y)) : Calls Tryz.prog 57 #[.slice P 1 c, .slice R Y.length d] w fun e w' => ∃ R1 e1, e = .returned (.slice R1 (lf Sm.L ([(q, 1)] ++ lf Sm.L (sc (-1) Y))).length e1) ∧ Dl1 w (lf Sm.L ([(q, 1)] ++ lf Sm.L (sc (-1) Y))) (.slice R1 (lf Sm.L ([(q, 1)] ++ lf Sm.L (sc (-1) Y))).length e1) (lf Sm.L ([(q, 1)] ++ lf Sm.L (sc (-1) Y))).length w' :=
 (dSub_any P R c d [(q, 1)] Y w (by simp; omega) hL hL2).mono fun e w' ⟨v, he, h⟩ => by
  obtain ⟨P, c, e1, _, _⟩ := own_shT h.1
  subst e1
  exact ⟨P, c, he, h⟩
theorem buildL2D (p p2 : Option Addr) (n c n2 c2 : Nat) (w : World) : (Instr.buildSlice 95 2 #[(0, .slice p n c), (1, .slice p2 n2 c2)]).run Tryz.prog w = .ok (.slice (some ⟨w.heap.size, 0, none⟩) 2 2) (w.alloc (.cells #[.slice p n c, .slice p2 n2 c2] 72)) := by kernel_rfl
theorem wp_buildL2D {w : World} {o : Oper} {a : Act} {K : Act → World → Prop} {Q : Exit → Act → World → Prop} (x0 x1 : Operand) (ho : o.op = .buildSlice 95 2 #[(0, x0), (1, x1)]) (p p2 : Option Addr) (n c n2 c2 : Nat) (h0 : a.eval x0 = .slice p n c) (h1 : a.eval x1 = .slice p2 n2 c2) (h : ∀ (tb : Nat) (wq : World), tb = w.heap.size → wq = w.alloc (.cells #[.slice p n c, .slice p2 n2 c2] 72) → K (a.put o.dst (.slice (some ⟨tb, 0, none⟩) 2 2)) wq) : o.wp Tryz.prog a w K Q := by
 have hr := buildL2D p p2 n c n2 c2 w
 unfold Oper.wp execOp
 simp only [ho, Sem.run_bind, Sem.run_pure, Result.andThen_ok, List.map_toArray, List.map_cons, List.map_nil, h0, h1, hr]
 exact h _ _ rfl rfl
theorem new_more2D {base s m Kg nq x1 x2 cv : Nat} {Pv : Option Addr} {w w2 : World} {vs : List Value} {Q : List (List Tm)} {X Y : List Tm} {R1 R2 P4 : Option Addr} {e1 e2 c4 : Nat} (h : Dy base w s m Kg (.slice Pv nq cv) vs Q) (hq : Q.length = nq) (hx : X.length = x1) (hy : Y.length = x2) (hu : w.ownsRow 0 116 6 (.slice R1 x1 e1) x1 (tls X)) (hu2 : w.ownsRow 0 116 6 (.slice R2 x2 e2) x2 (tls Y)) (hX : Ls Sm.L X) (hY : Ls Sm.L Y) (ho : w2.ownsRow base 72 1 (.slice P4 (nq + 2) c4) (nq + 2) (vs ++ [.slice R1 x1 e1, .slice R2 x2 e2])) (hg : w.grownBy w2 (Value.slice Pv nq cv).ownBlock) :
  Dy base (w2.setCell ⟨s, 2, none⟩ (.slice P4 (nq + 2) c4)) s m Kg (.slice P4 (nq + 2) c4) (vs ++ [.slice R1 x1 e1, .slice R2 x2 e2]) (Q ++ [X, Y]) := by
 subst hq
 subst hx
 subst hy
 refine h.moreL (us := [.slice R1 X.length e1, .slice R2 Y.length e2]) (Xs := [X, Y]) (fun i Z hZ => ?_) (fun Z hZ => ?_) ho hg
 ·have hi := (List.getElem?_eq_some_iff.1 hZ).1
  obtain rfl | rfl : i = 0 ∨ i = 1 := by simp at hi; omega
  ·simp only [List.getElem?_cons_zero, Option.some.injEq] at hZ
   subst hZ
   exact ⟨_, rfl, hu⟩
  ·simp only [List.getElem?_cons_succ, List.getElem?_cons_zero, Option.some.injEq] at hZ
   subst hZ
   exact ⟨_, rfl, hu2⟩
 ·simp only [List.mem_cons, List.not_mem_nil, or_false] at hZ
  rcases hZ with rfl | rfl
  ·exact hX
  ·exact hY
end Ci
end Go.Proofs.YtghcfcglakbkeaaGreatDoor
namespace Go.Proofs.YtghcfcglakbkeaaGreatDoor
open Go.RowKit
def wn : List Int → Int
 | [] => 0
 | x :: l => x + 65536 * wn l
theorem wn_drop (xs : List Int) (k : Nat) (h : k < xs.length) : wn (xs.drop k) = xs.getD k 0 + 65536 * wn (xs.drop (k + 1)) := by
 rw [List.drop_eq_getElem_cons h]
 simp [wn, List.getD, h]
theorem wn_end (xs : List Int) : wn (xs.drop xs.length) = 0 := by simp [wn]
theorem words_next (N x : Int) (o : E4) (h : o.is N) (t : E4) (ht : t.is (65536 * o.n + x)) : t.is (x + 65536 * N) := by
 refine is_of ht ?_
 rw [Int.add_emod, Int.mul_emod, h.m, ← Int.mul_emod, ← Int.add_emod, Int.add_comm]
set_option maxRecDepth 100000 in
set_option maxHeartbeats 8000000 in
theorem words_any (b n c : Nat) (xs : List Int) (w : World) (hn : xs.length = n) (hm : n < 1000000)
  (hr : ∀ j, j < n → w.cell? ⟨b, j, none⟩ = some (.int .u64 (xs.getD j 0)) ∧ 0 ≤ xs.getD j 0 ∧ xs.getD j 0 < 65536) :
  Calls Tryz.prog 95 #[.slice (some ⟨b, 0, none⟩) n c] w fun e w' => ∃ t : E4, e = .returned t.v ∧ t.is (wn xs) ∧ Below w.heap.size w w' := by
 have HN := Hn hn
 have HR := Hn hr
 have s0 := ((St.nil w).room 52).room 52
 simp only [World.size_alloc] at s0
 have S0 := Hn s0
 clear s0 hn hr
 have nn0 : (0 : Int) ≤ (n : Int) := by omega
 have nn1 : (n : Int) < 1000000 := by omega
 go_enter Tryz.func95, Tryz.ntmps95
 go_wp2_with fail
 go_loopw [4] (fun i w' => ∃ (k : Nat) (o : E4), k ≤ n ∧ i = .int .i64 ((k : Int) - 1) ∧ o.is (wn (xs.drop k)) ∧ St w [(w.heap.size + 1, o), (w.heap.size, zero4)] [w.heap.size + 1, w.heap.size] w') (fun i _ => (intOf i + 1).toNat)
 case atStart => exact ⟨n, zero4, by omega, rfl, by rw [← HN.out, wn_end]; exact zero_lst.symm, S0.out⟩
 case round =>
  obtain ⟨k, o, hk, rfl, ho, hst⟩ := hrel
  clear S0
  cases k with
  | zero =>
   have S1 := Hn hst
   have c0 := (hst.live (w.heap.size + 1, o) (by simp)).c0
   have c1 := (hst.live (w.heap.size + 1, o) (by simp)).c1
   have c2 := (hst.live (w.heap.size + 1, o) (by simp)).c2
   have c3 := (hst.live (w.heap.size + 1, o) (by simp)).c3
   have d0 := (hst.live (w.heap.size, zero4) (by simp)).c0
   have d1 := (hst.live (w.heap.size, zero4) (by simp)).c1
   have d2 := (hst.live (w.heap.size, zero4) (by simp)).c2
   have d3 := (hst.live (w.heap.size, zero4) (by simp)).c3
   obtain ⟨f0, f1, f2, f3⟩ := (hst.wrt w.heap.size (by simp)).1
   have HO := Hn ho
   clear hst ho
   rw [show ((0 : Nat) : Int) - 1 = -1 from rfl]
   go_wp2_with fail
   refine bodyPost_ret (v := .agg #[.int .u64 o.x0, .int .u64 o.x1, .int .u64 o.x2, .int .u64 o.x3]) (by simp [results, Tryz.results95, go_sem, d0, d1, d2, d3]) rfl ⟨o, rfl, HO.out, ?_⟩
   exact set4_below _ _ _ S1.out.bel (Nat.le_refl _)
  | succ k =>
   have kk0 : (0 : Int) ≤ (k : Int) := by omega
   have kk1 : (k : Int) < 1000000 := by omega
   have kn : (k : Int) < (n : Int) := by omega
   obtain ⟨hc, hx0, hx1⟩ := HR.out k (by omega)
   have hwd := wn_drop xs k (by rw [HN.out]; omega)
   obtain ⟨x, hx⟩ : ∃ x, x = xs.getD k 0 := ⟨_, rfl⟩
   rw [← hx] at hc hx0 hx1 hwd
   have RS := Hn (fun w => rstep_any o x w ho.ok ho.lt hx0 hx1)
   have NX := Hn (words_next _ x o ho)
   have HWD := Hn hwd
   have HK := Hn hk
   have SD := Hn hst.drew
   have hc2 : wr.drew.cell? ⟨b, k, none⟩ = some (.int .u64 x) := cell_keep hc SD.out.bel
   have c0 : wr.drew.cell? ⟨w.heap.size + 1, 0, none⟩ = some (.int .u64 o.x0) := (SD.out.live (w.heap.size + 1, o) (by simp)).c0
   have c1 : wr.drew.cell? ⟨w.heap.size + 1, 1, none⟩ = some (.int .u64 o.x1) := (SD.out.live (w.heap.size + 1, o) (by simp)).c1
   have c2 : wr.drew.cell? ⟨w.heap.size + 1, 2, none⟩ = some (.int .u64 o.x2) := (SD.out.live (w.heap.size + 1, o) (by simp)).c2
   have c3 : wr.drew.cell? ⟨w.heap.size + 1, 3, none⟩ = some (.int .u64 o.x3) := (SD.out.live (w.heap.size + 1, o) (by simp)).c3
   clear hst hc ho hx hwd hx0 hx1
   rw [show ((k + 1 : Nat) : Int) - 1 = (k : Int) by omega]
   simp only [E4.v] at RS
   go_upto_region 5 with fail
   go_region_with (first | (go_at_call 89; with_reducible refine (RS.out _).mono ?_; rintro e wz ⟨t, rfl, ht, hb⟩; have S2 := SD.out.keep hb; have z0 := (S2.live (w.heap.size + 1, o) (by simp)).c0; have z1 := (S2.live (w.heap.size + 1, o) (by simp)).c1; have z2 := (S2.live (w.heap.size + 1, o) (by simp)).c2; have z3 := (S2.live (w.heap.size + 1, o) (by simp)).c3; obtain ⟨f0, f1, f2, f3⟩ := (S2.wrt (w.heap.size + 1) (by simp)).1; have S3 := Hn (S2.set (b := w.heap.size + 1) (M := [(w.heap.size, zero4)]) t (old := o) (by simp) (by omega) (by simp)); have HT := Hn (NX.out t ht); clear S2 ht hb))
   all_goals
    clear c0 c1 c2 c3 hc2 z0 z1 z2 z3 f0 f1 f2 f3
    go_wp2_with fail
    go_roundw
    case rel => exact ⟨k, t, by omega, by go_num, by rw [HWD.out]; exact HT.out, S3.out⟩
    case measure => simp [intOf]
end Go.Proofs.YtghcfcglakbkeaaGreatDoor
namespace Go.Proofs.YtghcfcglakbkeaaGreatDoor
open Go.RowKit
theorem u64info : (Tryz.prog.info? 39).map (fun i => (i.zero, i.size, i.bytes)) = some (some (.int .u64 0), 1, 8) := by kernel_rfl
theorem step_append_own {P : Program} {ops : Array Oper} {o : Oper} {a : Act} {w : World} {K : Act → World → Prop} {Q : Exit → Act → World → Prop} {E : Prop}
  (hg : o.guard = none) (s x : Operand) (t : TypeId) (hop : o.op = Op.call { callee := Callee.builtin Builtin.append, args := #[s, x], argTypes := #[t, t] })
  (base : Nat) (e : TypeId) (i : TypeInfo) (z : Value) (size bytes : Nat) (ht : P.underlying t = some (.slice e)) (hi : P.info? e = some i) (hz : i.zero = some z)
  (hsize : i.size = size) (hby : i.bytes = bytes) (hzs : z.cells.size = size) (hsz : 0 < size)
  (v : Value) (n : Nat) (xs : List Value) (hs : a.eval s = v) (hown : w.ownsRow base e size v n xs)
  (ad : Addr) (m c : Nat) (news : List Value) (hx : a.eval x = .slice (some ad) m c) (hl : news.length = m * size) (hnews : ∀ j u, news[j]? = some u → w.cell? (ad.add j) = some u) (h1 : ∀ u ∈ news, u.oneCell' = true)
  (h63 : n + m ≤ maxLen) (hbytes : (n + m) * bytes ≤ 140737488355328) (hbase : base ≤ w.heap.size)
  (h : ∀ v' w', w'.ownsRow base e size v' (n + m) (xs ++ news) → w.grownBy w' v.ownBlock → K (a.put o.dst v') w') :
  if Region.wanted o (yielded ops a.tmps) = true then Oper.wp P o a w K Q else E := by
 have hw : Region.wanted o (yielded ops a.tmps) = true := by simp [Region.wanted, hg]
 rw [if_pos hw]
 exact wp_append_own w s x t hop base e i z size bytes ht hi hz hsize hby hzs hsz v n xs hs hown ad m c news hx hl hnews h1 h63 hbytes hbase fun v' w' h2 h3 _ => h v' w' h2 h3
theorem cells_new (w : World) (cs : List Value) (t : TypeId) : ∀ j u, cs[j]? = some u → (w.alloc (.cells cs.toArray t)).cell? ((⟨w.heap.size, 0, none⟩ : Addr).add j) = some u := by
 intro j u hu
 have hadd : (⟨w.heap.size, 0, none⟩ : Addr).add j = ⟨w.heap.size, j, none⟩ := by unfold Addr.add; split <;> simp_all
 rw [hadd, cell_of_row (w.alloc (.cells cs.toArray t)) w.heap.size j cs.toArray t (0, 0) (heap_alloc_new w _)]
 simpa using hu
theorem St.grown {w0 : World} {L : List (Nat × E4)} {R : List Nat} {w1 w2 : World} {row : Option Nat} (h : St w0 L R w1) (hg : w1.grownBy w2 row) (hr : ∀ g, row = some g → w0.heap.size ≤ g ∧ (∀ p ∈ L, p.1 ≠ g) ∧ ∀ b ∈ R, b ≠ g) : St w0 L R w2 := by
 refine ⟨fun p hp => ?_, fun b hb => ?_, ⟨hg.os.trans h.bel.os, hg.tape.trans h.bel.tape, hg.output.trans h.bel.output, Nat.le_trans h.bel.size hg.size, fun k hk => ?_⟩⟩
 ·have hl := h.live p hp
  have hne : some p.1 ≠ row := fun e => (hr p.1 e.symm).2.1 p hp rfl
  exact ⟨hg.cell hl.c0 hne, hg.cell hl.c1 hne, hg.cell hl.c2 hne, hg.cell hl.c3 hne⟩
 ·obtain ⟨⟨f0, f1, f2, f3⟩, hlt⟩ := h.wrt b hb
  have hne : some b ≠ row := fun e => (hr b e.symm).2.2 b hb rfl
  have hblk := hg.block b hlt hne
  exact ⟨⟨(World.frozen?_of_block (a := ⟨b, 0, none⟩) hblk).trans f0, (World.frozen?_of_block (a := ⟨b, 1, none⟩) hblk).trans f1, (World.frozen?_of_block (a := ⟨b, 2, none⟩) hblk).trans f2, (World.frozen?_of_block (a := ⟨b, 3, none⟩) hblk).trans f3⟩, Nat.lt_of_lt_of_le hlt hg.size⟩
 ·rw [hg.block k (Nat.lt_of_lt_of_le hk h.bel.size) (fun e => by have := (hr k e.symm).1; omega)]
  exact h.bel.block k hk
def wd4 (x : Int) : List Int := [x % 65536, x / 65536 % 65536, x / 4294967296 % 65536, x / 281474976710656]
def wsl (a : E4) : Nat → List Int
 | 0 => []
 | k + 1 => wsl a k ++ wd4 (a.get k)
theorem wn_app (xs ys : List Int) : wn (xs ++ ys) = wn xs + 65536 ^ xs.length * wn ys := by
 induction xs with
 | nil => simp [wn]
 | cons x l ih => simp only [List.cons_append, wn, ih, List.length_cons, Int.pow_succ]; grind
theorem wn_wd4 (x : Int) : wn (wd4 x) = x := by simp only [wd4, wn]; omega
theorem wsl_len (a : E4) (k : Nat) : (wsl a k).length = 4 * k := by
 induction k with
 | zero => rfl
 | succ k ih => simp [wsl, ih, wd4]; omega
theorem wn_wsl (a : E4) : wn (wsl a 4) = a.n := by
 simp only [wsl, wn_app, wn_wd4, List.nil_append, E4.get, E4.n, Sm.V]
 simp [wd4]
theorem wd4_in (x : Int) (h : Sm.Wd x) : ∀ z ∈ wd4 x, 0 ≤ z ∧ z < 65536 := by
 unfold Sm.Wd at h
 intro z hz
 simp only [wd4, List.mem_cons, List.not_mem_nil, or_false] at hz
 rcases hz with rfl | rfl | rfl | rfl <;> omega
theorem wsl_in (a : E4) (h : a.ok) (k : Nat) : ∀ z ∈ wsl a k, 0 ≤ z ∧ z < 65536 := by
 induction k with
 | zero => intro z hz; simp [wsl] at hz
 | succ k ih =>
  intro z hz
  rcases List.mem_append.1 hz with hz | hz
  ·exact ih z hz
  ·exact wd4_in _ (E4.get_wd h k) z hz
theorem and16 (u : Int) (h0 : 0 ≤ u) (h1 : u ≤ 18446744073709551615) : bits .and .u64 u 65535 = u % 65536 := by
 rw [u64_and u 65535 h0 (by omega) (by omega) (by omega)]
 have : u.toNat &&& (65535 : Int).toNat = u.toNat % 65536 := Nat.and_two_pow_sub_one_eq_mod u.toNat 16
 rw [this]; omega
set_option maxRecDepth 100000 in
set_option maxHeartbeats 8000000 in
theorem rleast_any (a : E4) (w : World) (ha : a.ok) :
  Calls Tryz.prog 53 #[a.v] w fun e w' => ∃ t : E4, e = .returned t.v ∧ t.is a.n ∧ Below w.heap.size w w' := by
 have HA := Hn ha
 have s0 := (St.start w a 40).room 52
 simp only [World.size_alloc] at s0
 have S0 := Hn s0
 clear s0 ha
 obtain ⟨i0, hi, hz0, hz1, hz2⟩ := info_parts u64info
 have HI := Hn hi
 have HZ0 := Hn hz0
 have HZ1 := Hn hz1
 have HZ2 := Hn hz2
 clear hi hz0 hz1 hz2
 simp only [E4.v]
 go_enter Tryz.func53, Tryz.ntmps53
 go_wp2_with fail
 go_loopw [3, 4] (fun v i w' => ∃ k : Nat, k ≤ 4 ∧ i = .int .i64 k ∧ w'.ownsRow (w.heap.size + 1 + 1) 39 1 v (4 * k) ((wsl a k).map fun z => Value.int .u64 z) ∧ w.heap.size + 1 + 1 ≤ w'.heap.size ∧ St w [(w.heap.size + 1, zero4), (w.heap.size, a)] [w.heap.size + 1] w') (fun _ i _ => 4 - (intOf i).toNat)
 case atStart => exact ⟨0, by omega, rfl, World.ownsRow_nil _ _ _ _, by simp, S0.out⟩
 case round =>
  obtain ⟨k, hk, rfl, hown, hsz, hst⟩ := hrel
  clear S0
  by_cases hk4 : k < 4
  ·have kk0 : (0 : Int) ≤ (k : Int) := by omega
   have kk1 : (k : Int) < 4 := by omega
   obtain ⟨x, hx⟩ : ∃ x, a.get k = x := ⟨_, rfl⟩
   have xb : Sm.Wd x := by rw [← hx]; exact E4.get_wd HA.out k
   unfold Sm.Wd at xb
   have A0 := and16 x (by omega) (by omega)
   have A1 := and16 (x / 65536) (by omega) (by omega)
   have A2 := and16 (x / 4294967296) (by omega) (by omega)
   have ca : wr.drew.cell? ⟨w.heap.size, k, none⟩ = some (.int .u64 x) := by rw [← hx]; exact ((hst.live (w.heap.size, a) (by simp)).drew).get k hk4
   have HX := Hn hx
   have KS : Hid (∀ o, St w [(w.heap.size + 1, zero4), (w.heap.size, a)] [w.heap.size + 1] (wr.alloc o).drew) := Hn (fun o => (hst.keep (bl_alloc wr o)).drew)
   have OW := Hn (show wr.drew.ownsRow (w.heap.size + 1 + 1) 39 1 _ (4 * k) ((wsl a k).map fun z => Value.int .u64 z) from hown)
   have SZ : Hid (∀ o, w.heap.size + 1 + 1 ≤ (wr.alloc o).drew.heap.size) := Hn (fun o => by have : (wr.alloc o).drew.heap.size = wr.heap.size + 1 := World.size_alloc wr o; omega)
   clear hown hsz hst hx
   go_upto_region 5 with fail
   go_region_law (refine step_append_own rfl (.tmp 9) (.tmp 28) 159 rfl (w.heap.size + 1 + 1) 39 i0 (.int .u64 0) 1 8 Tryz.underlying159 HI.out HZ0.out HZ1.out HZ2.out rfl (by decide) _ _ _ (by simp [Act.eval]) (OW.out.alloc _) ⟨wr.drew.heap.size, 0, none⟩ 4 4 [.int .u64 (x % 65536), .int .u64 (x / 65536 % 65536), .int .u64 (x / 4294967296 % 65536), .int .u64 (x / 281474976710656)] (by simp [Act.eval]) rfl (cells_new wr.drew _ _) (by simp [Value.oneCell']) (by unfold maxLen; omega) (by omega) (SZ.out _) ?_; intro vn wz hown hgr)
   all_goals
    have S2 := Hn ((KS.out _).grown hgr (fun g hg => by have := (OW.out.lt g hg).1; simp; omega))
    have Z2 := Hn (Nat.le_trans (SZ.out _) hgr.size)
    have O2 := Hn hown
    clear hown hgr
    go_wp2_with fail
    go_roundw
    case rel => exact ⟨k + 1, by omega, by go_num, by rw [wsl, List.map_append, HX.out]; exact O2.out, Z2.out, S2.out⟩
    case measure => simp [intOf]; omega
  ·have hkk : k = 4 := by omega
   subst hkk
   rcases hown.2 with ⟨_, h0⟩ | ⟨g, cap, cur, rfl, hg, hblk, hnc, hcm, hcs, htake⟩
   ·omega
   have WA := Hn (words_any g 16 cap (wsl a 4) wr (wsl_len a 4) (by omega) (fun j hj => by
    have hj2 : j < (wsl a 4).length := by rw [wsl_len]; omega
    have e1 : (wsl a 4).getD j 0 = (wsl a 4)[j] := by simp [List.getD, hj2]
    have hc := hown.cells (g := g) rfl j (.int .u64 ((wsl a 4).getD j 0)) (by simp [hj2])
    have hadd : (⟨g, 0, none⟩ : Addr).add j = ⟨g, j, none⟩ := by unfold Addr.add; split <;> simp_all
    rw [hadd] at hc
    exact ⟨hc, by rw [e1]; exact wsl_in a HA.out 4 _ (List.getElem_mem hj2)⟩))
   have ST := Hn hst
   clear hown hst hblk hcs htake hnc hcm
   simp only [Nat.reduceMul]
   go_wp2_with fail
   refine WA.out.mono ?_
   rintro e w2 ⟨t, rfl, ht, hb⟩
   have S2 := ST.out.keep hb
   have z0 := (S2.live (w.heap.size + 1, zero4) (by simp)).c0
   have z1 := (S2.live (w.heap.size + 1, zero4) (by simp)).c1
   have z2 := (S2.live (w.heap.size + 1, zero4) (by simp)).c2
   have z3 := (S2.live (w.heap.size + 1, zero4) (by simp)).c3
   obtain ⟨f0, f1, f2, f3⟩ := (S2.wrt (w.heap.size + 1) (by simp)).1
   have S3 := Hn S2
   have HT := Hn ht
   clear S2 ht hb
   simp only [E4.v]
   go_wp2_with fail
   refine bodyPost_ret (v := .agg #[.int .u64 t.x0, .int .u64 t.x1, .int .u64 t.x2, .int .u64 t.x3]) (by simp [results, Tryz.results53, go_sem, z0, z1, z2, z3]) rfl ⟨t, rfl, by rw [← wn_wsl]; exact HT.out, ?_⟩
   exact set4_below _ _ _ S3.out.bel (by omega)
end Go.Proofs.YtghcfcglakbkeaaGreatDoor
namespace Go.Proofs.YtghcfcglakbkeaaGreatDoor
open Go.RowKit
set_option linter.unusedVariables false
set_option linter.unusedSimpArgs false
open Cm (Wr Tm co bf Ls lf ins Eqm)
namespace Ci
set_option maxRecDepth 100000
set_option maxHeartbeats 4000000
theorem num19_any (a : E4) (ha : a.ok) (w : World) : Calls Tryz.prog 12 #[.agg #[.int .u64 a.x0, .int .u64 a.x1, .int .u64 a.x2, .int .u64 a.x3]] w fun e w' => e = .returned (.agg #[.int .u64 (lst a.n).x0, .int .u64 (lst a.n).x1, .int .u64 (lst a.n).x2, .int .u64 (lst a.n).x3]) ∧ Below w.heap.size w w' := by
 have RL := fun y => fix (rleast_any a y ha) rfl
 simp only [E4.v] at RL
 obtain ⟨z, hz⟩ : ∃ z, lst a.n = z := ⟨_, rfl⟩
 simp only [hz] at RL ⊢
 replace RL := Hn RL
 clear hz ha
 have e0 : ((w.alloc (.cells #[.int .u64 a.x0, .int .u64 a.x1, .int .u64 a.x2, .int .u64 a.x3] 41)).alloc (.cells #[.int .u64 0, .int .u64 0, .int .u64 0, .int .u64 0] 52)).cell? ⟨w.heap.size + 1, 0, none⟩ = some (.int .u64 0) := by go_simp
 have f0 : ((w.alloc (.cells #[.int .u64 a.x0, .int .u64 a.x1, .int .u64 a.x2, .int .u64 a.x3] 41)).alloc (.cells #[.int .u64 0, .int .u64 0, .int .u64 0, .int .u64 0] 52)).frozen? ⟨w.heap.size + 1, 0, none⟩ = false := by go_simp
 have e1 : ((w.alloc (.cells #[.int .u64 a.x0, .int .u64 a.x1, .int .u64 a.x2, .int .u64 a.x3] 41)).alloc (.cells #[.int .u64 0, .int .u64 0, .int .u64 0, .int .u64 0] 52)).cell? ⟨w.heap.size + 1, 1, none⟩ = some (.int .u64 0) := by go_simp
 have f1 : ((w.alloc (.cells #[.int .u64 a.x0, .int .u64 a.x1, .int .u64 a.x2, .int .u64 a.x3] 41)).alloc (.cells #[.int .u64 0, .int .u64 0, .int .u64 0, .int .u64 0] 52)).frozen? ⟨w.heap.size + 1, 1, none⟩ = false := by go_simp
 have e2 : ((w.alloc (.cells #[.int .u64 a.x0, .int .u64 a.x1, .int .u64 a.x2, .int .u64 a.x3] 41)).alloc (.cells #[.int .u64 0, .int .u64 0, .int .u64 0, .int .u64 0] 52)).cell? ⟨w.heap.size + 1, 2, none⟩ = some (.int .u64 0) := by go_simp
 have f2 : ((w.alloc (.cells #[.int .u64 a.x0, .int .u64 a.x1, .int .u64 a.x2, .int .u64 a.x3] 41)).alloc (.cells #[.int .u64 0, .int .u64 0, .int .u64 0, .int .u64 0] 52)).frozen? ⟨w.heap.size + 1, 2, none⟩ = false := by go_simp
 have e3 : ((w.alloc (.cells #[.int .u64 a.x0, .int .u64 a.x1, .int .u64 a.x2, .int .u64 a.x3] 41)).alloc (.cells #[.int .u64 0, .int .u64 0, .int .u64 0, .int .u64 0] 52)).cell? ⟨w.heap.size + 1, 3, none⟩ = some (.int .u64 0) := by go_simp
 have f3 : ((w.alloc (.cells #[.int .u64 a.x0, .int .u64 a.x1, .int .u64 a.x2, .int .u64 a.x3] 41)).alloc (.cells #[.int .u64 0, .int .u64 0, .int .u64 0, .int .u64 0] 52)).frozen? ⟨w.heap.size + 1, 3, none⟩ = false := by go_simp
 have HB := Hn (bl_trans (bl_alloc w (.cells #[.int .u64 a.x0, .int .u64 a.x1, .int .u64 a.x2, .int .u64 a.x3] 41)) (bl_alloc (w.alloc (.cells #[.int .u64 a.x0, .int .u64 a.x1, .int .u64 a.x2, .int .u64 a.x3] 41)) (.cells #[.int .u64 0, .int .u64 0, .int .u64 0, .int .u64 0] 52)))
 go_enter Tryz.func12, Tryz.ntmps12
 go_wp2_with (first | (go_at_call 53; refine (RL.out _).mono ?_; rintro e wa ⟨rfl, hb⟩; have d0 := cell_keep e0 hb; have g0 := (hb.frozen (p := ⟨w.heap.size + 1, 0, none⟩) (by simp)).trans f0; have d1 := cell_keep e1 hb; have g1 := (hb.frozen (p := ⟨w.heap.size + 1, 1, none⟩) (by simp)).trans f1; have d2 := cell_keep e2 hb; have g2 := (hb.frozen (p := ⟨w.heap.size + 1, 2, none⟩) (by simp)).trans f2; have d3 := cell_keep e3 hb; have g3 := (hb.frozen (p := ⟨w.heap.size + 1, 3, none⟩) (by simp)).trans f3; have BE := Hn (bl_trans HB.out hb); clear hb))
 refine bodyPost_ret (v := .agg #[.int .u64 z.x0, .int .u64 z.x1, .int .u64 z.x2, .int .u64 z.x3]) (by simp [results, Tryz.results12, go_sem, d0, d1, d2, d3]) rfl ⟨rfl, ?_⟩
 exact set4_below _ _ _ BE.out (by omega)
theorem wire19_any (q : Wr) (w : World) : Calls Tryz.prog 78 #[.agg #[.int .i64 q.1, .int .i64 q.2]] w fun e w' => e = .returned (.agg #[.int .i64 q.1, .int .i64 q.2]) ∧ Below w.heap.size w w' := by
 obtain ⟨qk, qi⟩ := q
 simp only
 go_enter Tryz.func78, Tryz.ntmps78
 go_wp2_with fail
 refine bodyPost_ret (v := .agg #[.int .i64 qk, .int .i64 qi]) (by simp [results, Tryz.results78, go_sem]) rfl ⟨rfl, ?_⟩
 exact bl_trans (bl_alloc w _) (bl_alloc _ _)
end Ci
end Go.Proofs.YtghcfcglakbkeaaGreatDoor
