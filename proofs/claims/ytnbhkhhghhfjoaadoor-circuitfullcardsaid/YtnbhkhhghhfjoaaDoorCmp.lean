import Derived.Test.YtnbhkhhghhfjoaaDoorCmo
namespace Go.Proofs.YtnbhkhhghhfjoaaDoor
open Go.RowKit
set_option linter.unusedVariables false
set_option linter.unusedSimpArgs false
open Cm (Wr Tm co bf Ls lf ins Eqm)
namespace Ci
set_option maxRecDepth 100000
set_option maxHeartbeats 4000000
theorem tls_app (X Y : List Tm) : tls (X ++ Y) = tls X ++ tls Y := by rw [tls_map, tls_map, tls_map, List.flatMap_append]
theorem three_is : lst 3 = ⟨3, 0, 0, 0⟩ := int_is 3 (by unfold Sm.Wd; omega)
theorem cs3 (i : Nat) : (tmOf ((2, (i : Int)), 3)).cs = [.int .i64 2, .int .i64 (i : Int), .int .u64 3, .int .u64 0, .int .u64 0, .int .u64 0] := by simp [tmOf, Trm.cs, three_is]
theorem six_any (a b c d e f : Int) : ∀ u ∈ ([.int .i64 a, .int .i64 b, .int .u64 c, .int .u64 d, .int .u64 e, .int .u64 f] : List Value), u.oneCell' = true := by
  intro v hv
  simp only [List.mem_cons, List.not_mem_nil, or_false] at hv
  rcases hv with rfl | rfl | rfl | rfl | rfl | rfl <;> rfl
theorem long_any (w : World) : Calls Tryd.prog 22 #[.int .i64 1023] w fun e w' => ∃ g c, e = .returned (.slice (some ⟨g, 0, none⟩) 2046 c) ∧ w'.ownsRow w.heap.size 49 6 (.slice (some ⟨g, 0, none⟩) 2046 c) 2046 (tls (lng 1023)) ∧ Below w.heap.size w w' := by
  have C := fun y => fix (R := ⟨3, 0, 0, 0⟩) (Int_any 3 y (by unfold Sm.Wd; omega)) three_is
  simp only [E4.v] at C
  replace C := hidden C
  have HI := hidden tinfo
  have HZ0 : Hid ((Tryd.prog.info? 49).get!.zero = some (.agg #[.int .i64 0, .int .i64 0, .int .u64 0, .int .u64 0, .int .u64 0, .int .u64 0])) := hidden (by kernel_rfl)
  have HZ1 : Hid ((Tryd.prog.info? 49).get!.size = 6) := hidden (by kernel_rfl)
  have HZ2 : Hid ((Tryd.prog.info? 49).get!.bytes = 48) := hidden (by kernel_rfl)
  have T1 : Hid (Tryd.prog.underlying 33 = some (.slice 49)) := hidden (by kernel_rfl)
  have R0 : Hid (w.ownsRow w.heap.size 49 6 (.slice none 0 0) 0 (tls (lw 3 0)) ∧ Below w.heap.size w w) := hidden ⟨World.ownsRow_nil _ _ _ _, Below.refl _ _⟩
  go_enter Tryd.func22, Tryd.ntmps22
  go_wp2_with fail
  go_loopw [3, 4] (fun v iv w' => ∃ i : Nat, i ≤ 1023 ∧ iv = .int .i64 i ∧ Hid (w'.ownsRow w.heap.size 49 6 v i (tls (lw 3 i)) ∧ Below w.heap.size w w')) (fun _ i _ => 1023 - (intOf i).toNat)
  case atStart => exact ⟨0, by omega, rfl, R0⟩
  case round =>
    clear R0
    obtain ⟨i, hi, rfl, hR⟩ := hrel
    by_cases hin : i < 1023
    · have i1 : (i : Int) < 1023 := by omega
      have w9 : IntKind.i64.wrap ((i : Int) + 1) = (i : Int) + 1 := IntWalk.i64_in _ (by omega)
      go_wp2_with (first | (go_at_call 13; refine (C.out _).mono ?_; rintro e w1 ⟨rfl, hb⟩; have B1 := hidden hb; clear hb) | (at_builtin; have x1 := own_keepT hR.out.1 (bl_trans B1.out (bl_alloc w1 (.cells #[.int .i64 2, .int .i64 (i : Int), .int .u64 3, .int .u64 0, .int .u64 0, .int .u64 0] 49))); have x2 := cells_newT w1 [.int .i64 2, .int .i64 (i : Int), .int .u64 3, .int .u64 0, .int .u64 0, .int .u64 0] 49; have x4 : i + 1 ≤ maxLen := (by unfold maxLen; omega); have x5 : (i + 1) * 48 ≤ 140737488355328 := (by omega); have x6 : w.heap.size ≤ (w1.alloc (.cells #[.int .i64 2, .int .i64 (i : Int), .int .u64 3, .int .u64 0, .int .u64 0, .int .u64 0] 49)).heap.size := (by have := hR.out.2.size; have := B1.out.size; simp; omega); refine wpList_append_own_at _ rfl _ _ 33 rfl w.heap.size 49 _ _ 6 48 T1.out HI.out HZ0.out HZ1.out HZ2.out rfl (by decide) _ i (tls (lw 3 i)) rfl x1 ⟨w1.heap.size, 0, none⟩ 1 1 [.int .i64 2, .int .i64 (i : Int), .int .u64 3, .int .u64 0, .int .u64 0, .int .u64 0] rfl rfl x2 (six_any _ _ _ _ _ _) x4 x5 x6 ?_; intro v4 w4 ho4 hg4 _ _; have O4 := hidden ho4; have G4 := hidden hg4; clear ho4 hg4 x1 x2 x4 x5 x6))
      have PN : Hid (w4.ownsRow w.heap.size 49 6 v4 (i + 1) (tls (lw 3 (i + 1))) ∧ Below w.heap.size w w4) := hidden ⟨by rw [lw_succ, tls_snoc, cs3]; exact O4.out, told_bel hR.out.2 (bl_trans B1.out (bl_alloc w1 (.cells #[.int .i64 2, .int .i64 (i : Int), .int .u64 3, .int .u64 0, .int .u64 0, .int .u64 0] 49))) hR.out.1 G4.out⟩
      clear O4 G4 B1 hR
      go_roundw
      case rel => exact ⟨i + 1, by omega, by go_num, PN⟩
      case measure => simp [intOf]; omega
    · obtain rfl : i = 1023 := by omega
      obtain ⟨P, c, e1, hc, hg⟩ := own_shT hR.out.1
      obtain ⟨g, rfl⟩ := hg (by omega)
      subst e1
      have HC : Hid (∀ j u, (tls (lw 3 1023))[j]? = some u → wr.cell? ((⟨g, 0, none⟩ : Addr).add j) = some u) := hidden (fun j u hu => hR.out.1.cells (g := g) rfl j u hu)
      have HL : Hid ((tls (lw 3 1023)).length = 1023 * 6) := hidden (by rw [tls_len, lw_len])
      have H1 := hidden (tls_one (lw 3 1023))
      have HX : Hid (tls (lw 3 1023) ++ tls (lw 3 1023) = tls (lng 1023)) := hidden (by rw [← tls_app]; rfl)
      clear hc
      generalize tls (lw 3 1023) = ts at *
      go_wp2_with (first | (at_builtin; have x4 : 1023 + 1023 ≤ maxLen := (by unfold maxLen; omega); refine wpList_append_own_at _ rfl _ _ 33 rfl w.heap.size 49 _ _ 6 48 T1.out HI.out HZ0.out HZ1.out HZ2.out rfl (by decide) _ 1023 ts rfl hR.out.1 ⟨g, 0, none⟩ 1023 c ts rfl HL.out HC.out H1.out x4 (by decide) hR.out.2.size ?_; intro v4 w4 ho4 hg4 _ _; have O4 := hidden ho4; have G4 := hidden hg4; clear ho4 hg4 x4))
      have O5 := O4.out
      rw [HX.out] at O5
      obtain ⟨P5, c5, e5, _, hg5⟩ := own_shT O5
      obtain ⟨g5, rfl⟩ := hg5 (by omega)
      subst e5
      refine bodyPost_ret (v := .slice (some ⟨g5, 0, none⟩) 2046 c5) (by simp [results, Tryd.results22, go_sem]) rfl ⟨g5, c5, rfl, O5, ?_⟩
      exact hR.out.2.grown G4.out hR.out.2.size (fun k hk => (hR.out.1.lt k hk).1)
/-- append of one term: the old row stays -/
theorem run_tellC (w : World) (base : Nat) (g n cap : Nat) (xs : List Value) (hown : w.ownsRow base 49 6 (.slice (some ⟨g, 0, none⟩) n cap) n xs) (hn : 0 < n) (ty : TypeId)
    (a : Addr) (news : List Value) (hl : news.length = 6) (hnews : ∀ j u, news[j]? = some u → w.cell? (a.add j) = some u) (h1 : ∀ u ∈ news, u.oneCell' = true)
    (hbytes : (n + 1) * 48 ≤ 140737488355328) (hbase : base ≤ w.heap.size) :
    ∃ P' c' w', (Builtin.append_ #[33, 33] ty #[.slice (some ⟨g, 0, none⟩) n cap, .slice (some a) 1 1]).run Tryd.prog w = .ok (.slice P' (n + 1) c') w' ∧ w'.ownsRow base 49 6 (.slice P' (n + 1) c') (n + 1) (xs ++ news) ∧ w.grownBy w' (some g) ∧ w'.ownsRow base 49 6 (.slice (some ⟨g, 0, none⟩) n cap) n xs := by
  have ht : Tryd.prog.underlying 33 = some (.slice 49) := by kernel_rfl
  have hi := tinfo
  have hz : (Tryd.prog.info? 49).get!.zero = some (.agg #[.int .i64 0, .int .i64 0, .int .u64 0, .int .u64 0, .int .u64 0, .int .u64 0]) := by kernel_rfl
  have hsize : (Tryd.prog.info? 49).get!.size = 6 := by kernel_rfl
  have hby : (Tryd.prog.info? 49).get!.bytes = 48 := by kernel_rfl
  obtain ⟨v', w', hr, ho', hg, _, hat⟩ := run_append_own_at (P := Tryd.prog) w base 33 ty 49 _ _ 6 48 ht hi hz hsize hby rfl (by decide) (.slice (some ⟨g, 0, none⟩) n cap) n xs hown a 1 1 news (by omega) hnews h1 (by unfold maxLen; omega) hbytes hbase
  obtain ⟨P', c', e', _, hp⟩ := own_shT ho'
  subst e'
  refine ⟨P', c', w', hr, ho', hg, ?_⟩
  rcases hown.2 with ⟨h', _⟩ | ⟨g', cap', cur, h', hbg, hgg, hnc, hcm, hcs, htake⟩
  · simp at h'
  · simp only [Value.slice.injEq, Option.some.injEq, Addr.mk.injEq, and_true, true_and] at h'
    obtain ⟨rfl, rfl⟩ := h'
    by_cases hroom : n + 1 ≤ cap
    · have hr2 := run_append_room (P := Tryd.prog) w 33 ty 49 _ ht hi g n cap cur hgg a 1 1 news (by omega) hnews h1 hroom (by rw [hsize, hcs, hl]; have h9 := Nat.mul_le_mul_right 6 hroom; rw [Nat.add_mul, Nat.one_mul] at h9; exact h9)
      rw [hr] at hr2
      simp only [Result.ok.injEq, Value.slice.injEq] at hr2
      obtain ⟨⟨rfl, _, rfl⟩, _⟩ := hr2
      rcases ho'.2 with ⟨f', _⟩ | ⟨g2, cap2, cur2, f', k1, k2, k3, k4, k5, k6⟩
      · simp at f'
      · simp only [Value.slice.injEq, Option.some.injEq, Addr.mk.injEq, and_true, true_and] at f'
        obtain ⟨rfl, rfl⟩ := f'
        refine ⟨hown.1, .inr ⟨g, _, cur2, rfl, k1, k2, hnc, hcm, k5, ?_⟩⟩
        have h1' := congrArg (List.take (n * 6)) k6
        rw [List.take_take, Nat.min_eq_left (by omega), List.take_left' hown.1] at h1'
        exact h1'
    · have hr2 := run_append_grow (P := Tryd.prog) w 33 ty 49 _ _ ht hi hz ⟨g, 0, none⟩ n cap xs (by rw [hsize]; exact hown.1) (hown.cells (g := g) rfl) a 1 1 news (by omega) hnews (by omega) (by omega) (growslice_fits (by omega) (by rw [hby]; exact hbytes))
      rw [hr] at hr2
      simp only [Result.ok.injEq] at hr2
      obtain ⟨_, rfl⟩ := hr2
      exact own_keepT hown ⟨rfl, rfl, rfl, by simp, fun k hk => heap_alloc_old w.drew _ hk⟩
theorem wpList_tellC {w : World} {ops : Array Oper} {rest : List Oper} {o : Oper} {a : Act} {Q : Exit → Act → World → Prop} (hw : Region.wanted o (yielded ops a.tmps) = true) (s x : Operand)
    (ho : o.op = .call { callee := .builtin .append, args := #[s, x], argTypes := #[33, 33] })
    (base g n cap : Nat) (xs : List Value) (hs : a.eval s = .slice (some ⟨g, 0, none⟩) n cap) (hown : w.ownsRow base 49 6 (.slice (some ⟨g, 0, none⟩) n cap) n xs) (hn : 0 < n)
    (ad : Addr) (us : List Value) (hx : a.eval x = .slice (some ad) 1 1) (hus : us.length = 6) (hc : ∀ j y, us[j]? = some y → w.cell? (ad.add j) = some y) (h1 : ∀ u ∈ us, u.oneCell' = true) (hbytes : (n + 1) * 48 ≤ 140737488355328) (hbase : base ≤ w.heap.size)
    (h : ∀ P' c' w', w'.ownsRow base 49 6 (.slice P' (n + 1) c') (n + 1) (xs ++ us) → w.grownBy w' (some g) → w'.ownsRow base 49 6 (.slice (some ⟨g, 0, none⟩) n cap) n xs → wpList Tryd.prog ops Q rest (a.put o.dst (.slice P' (n + 1) c')) w') : wpList Tryd.prog ops Q (o :: rest) a w := by
  unfold wpList
  rw [if_pos hw]
  refine Or.inl ?_
  obtain ⟨P', c', w', hr, h2, h3, h4⟩ := run_tellC w base g n cap xs hown hn o.type ad us hus hc h1 hbytes hbase
  unfold Oper.wp execOp
  simp only [ho, resolve, invoke, builtin, Sem.run_bind, Sem.run_pure, Result.andThen_ok, List.map_toArray, List.map_cons, List.map_nil, hs, hx, hr]
  exact h P' c' w' h2 h3 h4
/-- a row of terms that is none of the system's changes -/
theorem Sy.rowT {base : Nat} {w : World} {s m Kg : Nat} {v : Value} {vs : List Value} {Q : List (List Tm)} (h : Sy base w s m Kg v vs Q) {w' : World} {g : Nat} {cur : Array Value} (hg : w.heap[g]? = some (.cells cur 49 (0, 0))) (k : w.grownBy w' (some g)) (hn : ∀ u ∈ vs, u.ownBlock ≠ some g) : Sy base w' s m Kg v vs Q := by
  have hsg : s ≠ g := fun e => by
    subst e
    have := h.h
    rw [hg] at this
    simp only [Option.some.injEq, Obj.cells.injEq] at this
    exact absurd this.2.1 (by decide)
  refine ⟨(k.block s h.lt (fun e => hsg (Option.some.inj e))).trans h.h, ⟨h.row.1, ?_⟩, fun i X hX => ?_, h.bs, h.sm⟩
  · rcases h.row.2 with h' | ⟨g', c, cu, e1, e2, e3, e4⟩
    · exact .inl h'
    · refine .inr ⟨g', c, cu, e1, e2, (k.block g' (Array.getElem?_eq_some_iff.1 e3).1 (fun e => ?_)).trans e3, e4⟩
      have e := Option.some.inj e
      subst e
      rw [hg] at e3
      simp only [Option.some.injEq, Obj.cells.injEq] at e3
      exact absurd e3.2.1 (by decide)
  · obtain ⟨u, h1, h2⟩ := h.ls i X hX
    refine ⟨u, h1, ⟨h2.1, ?_⟩⟩
    rcases h2.2 with h' | ⟨g', c, cu, e1, e2, e3, e4⟩
    · exact .inl h'
    · refine .inr ⟨g', c, cu, e1, e2, (k.block g' (Array.getElem?_eq_some_iff.1 e3).1 (fun e => ?_)).trans e3, e4⟩
      have e := Option.some.inj e
      subst e
      exact hn u (List.mem_of_getElem? h1) (by rw [e1]; rfl)
/-- rows of terms stay when a requirement is added -/
theorem Fz.own {base : Nat} {w : World} {s m Kg : Nat} {v : Value} {vs : List Value} {Q : List (List Tm)} (h : Sy base w s m Kg v vs Q) {w' : World} (k : Fz s v w w') {b' n : Nat} {u : Value} {xs : List Value} (ho : w.ownsRow b' 49 6 u n xs) : w'.ownsRow b' 49 6 u n xs := ⟨ho.1, by
  rcases ho.2 with h' | ⟨g, c, cu, e1, e2, e3, e4⟩
  · exact .inl h'
  · refine .inr ⟨g, c, cu, e1, e2, (k.block g (Array.getElem?_eq_some_iff.1 e3).1 (fun e => ?_) (fun e => ?_)).trans e3, e4⟩
    · subst e
      have := h.h
      rw [e3] at this
      simp only [Option.some.injEq, Obj.cells.injEq] at this
      exact absurd this.2.1 (by decide)
    · rcases h.row.2 with ⟨f1, _⟩ | ⟨g', c', cu', f1, _, k1, _⟩
      · rw [f1] at e; cases e
      · rw [f1] at e
        simp only [Value.ownBlock, Option.some.injEq] at e
        subst e
        rw [k1] at e3
        simp only [Option.some.injEq, Obj.cells.injEq] at e3
        exact absurd e3.2.1 (by decide)⟩
/-- gates being made -/
def Gt (w : World) (s K : Nat) (w' : World) : Prop := ∃ Pv cv, Sy w.heap.size w' s 0 K (.slice Pv 0 cv) [] [] ∧ Below w.heap.size w w'
theorem lng_ok : ∀ k, k < 2046 → (ft (lng 1023) k).a.ok := fun k _ => lst_ok _
theorem cs1 : (tmOf ((2, ((1023 : Nat) : Int)), 1)).cs = [.int .i64 2, .int .i64 1023, .int .u64 1, .int .u64 0, .int .u64 0, .int .u64 0] := by simp [tmOf, Trm.cs, one_is]
theorem sy_lt (w : World) {s K Q} {v vs} (h : Sy w.heap.size w s K 0 v vs Q) : True := trivial
theorem lst_app {Lg : List Tm} (e46 : Lg.length = 2046) {w w2 w3 w4 w5 : World} {s m Kg g c : Nat} {v3 u3 : Value} {Q : List (List Tm)} {P5 : Option Addr} {c5 : Nat} (hb : Below w.heap.size w w3) (h : Sy w.heap.size w3 s m Kg v3 ([] ++ [u3]) Q) (h5 : Below w3.heap.size w3 w4) (hg : g < w2.heap.size) (hu : ∀ k, u3.ownBlock = some k → w2.heap.size ≤ k) (x1 : (w4.alloc (.cells #[.int .i64 2, .int .i64 1023, .int .u64 1, .int .u64 0, .int .u64 0, .int .u64 0] 49)).ownsRow w.heap.size 49 6 (.slice (some ⟨g, 0, none⟩) 2046 c) 2046 (tls Lg)) (ho : w5.ownsRow w.heap.size 49 6 (.slice P5 2047 c5) 2047 (tls Lg ++ [.int .i64 2, .int .i64 1023, .int .u64 1, .int .u64 0, .int .u64 0, .int .u64 0])) (hgr : (w4.alloc (.cells #[.int .i64 2, .int .i64 1023, .int .u64 1, .int .u64 0, .int .u64 0, .int .u64 0] 49)).grownBy w5 (some g)) (hold : w5.ownsRow w.heap.size 49 6 (.slice (some ⟨g, 0, none⟩) 2046 c) 2046 (tls Lg)) :
    Below w.heap.size w w5 ∧ Sy w.heap.size w5 s m Kg v3 ([] ++ [u3]) Q ∧ Lt w5 P5 (Lg ++ [((2, ((1023 : Nat) : Int)), 1)]).length (ft (Lg ++ [((2, ((1023 : Nat) : Int)), 1)])) ∧ Lt w5 (some ⟨g, 0, none⟩) 2046 (ft Lg) := by
  have hb4 := bl_trans h5 (bl_alloc w4 (.cells #[.int .i64 2, .int .i64 1023, .int .u64 1, .int .u64 0, .int .u64 0, .int .u64 0] 49))
  have hb5 := hb.trans (hb4.mono hb.size)
  have hcur : ∃ cur, (w4.alloc (.cells #[.int .i64 2, .int .i64 1023, .int .u64 1, .int .u64 0, .int .u64 0, .int .u64 0] 49)).heap[g]? = some (.cells cur 49 (0, 0)) := by
    rcases x1.2 with ⟨h', _⟩ | ⟨g', c', cur, h', _, k1, _⟩
    · simp at h'
    · simp only [Value.slice.injEq, Option.some.injEq, Addr.mk.injEq, and_true, true_and] at h'
      obtain ⟨rfl, rfl⟩ := h'
      exact ⟨cur, k1⟩
  obtain ⟨cur, hcur⟩ := hcur
  refine ⟨hb5.grown hgr hb5.size (fun k hk => by obtain rfl := Option.some.inj hk; exact (x1.lt g rfl).1), (h.keep hb4).rowT hcur hgr (fun u hu' e => ?_), ?_, ?_⟩
  · simp only [List.nil_append, List.mem_singleton] at hu'
    subst hu'
    have := hu g e
    omega
  · have e47 : (Lg ++ [((2, ((1023 : Nat) : Int)), (1 : Int))]).length = 2047 := by rw [List.length_append, e46]; rfl
    refine own_lts (base := w.heap.size) (c := c5) (t := 49) ?_
    rw [e47, tls_snoc, cs1]
    exact ho
  · have := own_lts (base := w.heap.size) (c := c) (t := 49) (X := Lg) (P := some ⟨g, 0, none⟩) (w := w5) (by rw [e46]; exact hold)
    rwa [e46] at this
theorem req_wire {Lg : List Tm} (e46 : Lg.length = 2046) {w : World} {base s m : Nat} {v : Value} {vs : List Value} {Q : List (List Tm)} {P5 : Option Addr} {c : Nat} (hn : nm m 1023 (lf Sm.L (glL (Lg ++ [((2, ((1023 : Nat) : Int)), 1)]).length (ft (Lg ++ [((2, ((1023 : Nat) : Int)), 1)])))).length (ft (lf Sm.L (glL (Lg ++ [((2, ((1023 : Nat) : Int)), 1)]).length (ft (Lg ++ [((2, ((1023 : Nat) : Int)), 1)]))))) = false) (hT : Tb w) (h : Sy base w s m 1023 v vs Q) (hl : Lt w P5 (Lg ++ [((2, ((1023 : Nat) : Int)), 1)]).length (ft (Lg ++ [((2, ((1023 : Nat) : Int)), 1)]))) : Calls Tryd.prog 11 #[.pointer (some ⟨s, 0, none⟩), .slice P5 2047 c] w fun e w' => e = .returned (.int .i64 200) ∧ Below w.heap.size w w' := by
  have e47 : (Lg ++ [((2, ((1023 : Nat) : Int)), (1 : Int))]).length = 2047 := by rw [List.length_append, e46]; rfl
  generalize Lg ++ [((2, ((1023 : Nat) : Int)), (1 : Int))] = Mg at *
  have C := Require_wire h hT P5 Mg.length c (ft Mg) (by omega) (fun k hk => lst_ok _) hl hn
  rw [e47] at C
  exact C
theorem wire_no (m : Nat) : nm m 1023 (lf Sm.L (glL (lng 1023 ++ [((2, ((1023 : Nat) : Int)), 1)]).length (ft (lng 1023 ++ [((2, ((1023 : Nat) : Int)), 1)])))).length (ft (lf Sm.L (glL (lng 1023 ++ [((2, ((1023 : Nat) : Int)), 1)]).length (ft (lng 1023 ++ [((2, ((1023 : Nat) : Int)), 1)]))))) = false := by
  obtain ⟨x, hx, e⟩ := more_wire
  refine nm_false hx ?_
  rw [e]
  unfold hs ct
  simp
theorem longest_any (w : World) (hT : Tb w) : Calls Tryd.prog 14 #[] w fun e w' => e = .returned (.bool true) ∧ Below w.heap.size w w' := by
  have C0 := hidden (New_any 0 w hT (by omega))
  have C1 := hidden long_any
  have HT := hidden hT
  clear hT
  go_enter Tryd.func14, Tryd.ntmps14
  go_upto_region 2 with (go_at_call 5; refine C0.out.mono ?_; rintro e w1 ⟨rfl, hn⟩; have N1 := hidden hn; clear hn)
  clear C0
  have G0 : Hid (Gt w w.heap.size 0 w1) := hidden (by
    obtain ⟨Pv, cv, vs, sy, hb⟩ := N1.out
    have : vs = [] := by have := sy.row.1; simp [enl] at this; exact this
    subst this
    exact ⟨Pv, cv, sy, hb⟩)
  clear N1
  generalize hs : w.heap.size = s at *
  have HSS := hidden hs
  clear hs
  go_wp2_with fail
  go_loopw [2, 3] (fun ev iv w' => ∃ i : Nat, i ≤ 1023 ∧ ev = .int .i64 0 ∧ iv = .int .i64 i ∧ Hid (Gt w s i w')) (fun _ i _ => 1023 - (intOf i).toNat)
  case atStart => exact ⟨0, by omega, rfl, rfl, G0⟩
  case round =>
    clear G0
    obtain ⟨i, hi, rfl, rfl, hG⟩ := hrel
    by_cases hin : i < 1023
    · have i1 : (i : Int) < 1023 := by omega
      have w9 : IntKind.i64.wrap ((i : Int) + 1) = (i : Int) + 1 := IntWalk.i64_in _ (by omega)
      obtain ⟨Pv, cv, sy, hb⟩ := hG.out
      have C2 := Gate_ok sy (by omega)
      simp only [tup] at C2
      replace C2 := hidden C2
      have GN : ∀ y, Sy w.heap.size y s 0 (i + 1) (.slice Pv 0 cv) [] [] → wr.grownBy y (some s) → Gt w s (i + 1) y := fun y h1 h2 => ⟨Pv, cv, h1, hb.grown h2 hb.size (fun k hk => by obtain rfl := Option.some.inj hk; exact h1.bs)⟩
      have GNH := hidden GN
      clear GN sy hb hG
      go_wp2_with (go_at_call 8; refine C2.out.mono ?_; rintro e w2 ⟨rfl, h1, h2⟩; have PN := hidden (GNH.out w2 h1 h2); clear h1 h2)
      go_roundw
      case rel => exact ⟨i + 1, by omega, rfl, by go_num, PN⟩
      case measure => simp [intOf]; omega
    · obtain rfl : i = 1023 := by omega
      obtain ⟨Pv, cv, sy, hb⟩ := hG.out
      have S1 := hidden sy
      have B1 := hidden hb
      clear sy hb hG
      go_upto_region 7 with (go_at_call 22; refine (C1.out _).mono ?_; rintro e w2 ⟨g, c, rfl, ho, hb⟩; have O2 := hidden ho; have B2 := hidden hb; clear ho hb)
      clear C1
      have nm0 := nm_lf (m := 0) (Kg := 1023) (lng_wires 0 1023 (by omega))
      have nm1 := wire_no 0
      have rl := req_len
      have e46 : (lng 1023).length = 2046 := by rw [lng_len]
      generalize lng 1023 = Lg at *
      have NW1 := hidden nm1
      clear nm1
      have S2 := hidden (S1.out.keep B2.out)
      have B3 := hidden (bl_trans B1.out B2.out)
      have T2 := HT.out.keep B3.out
      have LTT : Lt w2 (some ⟨g, 0, none⟩) Lg.length (ft Lg) := own_lts (by have := O2.out; rwa [← e46] at this)
      have CR := Require_ok S2.out T2 (some ⟨g, 0, none⟩) Lg.length c (ft Lg) (by omega) (fun k hk => lst_ok _) LTT nm0 (by simp)
      rw [e46] at CR
      replace CR := hidden CR
      generalize lf Sm.L (glL 2046 (ft Lg)) = Xz at CR
      clear T2 LTT
      have CI := fun y => fix (R := ⟨1, 0, 0, 0⟩) (Int_any 1 y (by unfold Sm.Wd; omega)) one_is
      simp only [E4.v] at CI
      replace CI := hidden CI
      have OB := hidden (own_monoT O2.out B1.out.size)
      have GL := hidden (O2.out.lt g rfl).2
      have NM := hidden nm0
      clear nm0
      go_upto_region 9 with (first | (have _t := CR; go_at_call 11; refine CR.out.mono ?_; rintro e w3 ⟨rfl, hq⟩; obtain ⟨v3, u3, sy3, fz3, hu3⟩ := hq; have S3 := hidden sy3; have B4 := hidden (B3.out.trans (fz3.below B3.out.size S2.out.bs (fun k hk => (S2.out.vb k hk).1))); have O3 := hidden (Fz.own S2.out fz3 OB.out); have U3 := hidden hu3; clear sy3 fz3 hu3 CR) | (go_at_call 13; refine (CI.out _).mono ?_; rintro e w4 ⟨rfl, hb⟩; have B5 := hidden hb; clear hb) | (at_builtin; have x1 := own_keepT O3.out (bl_trans B5.out (bl_alloc w4 (.cells #[.int .i64 2, .int .i64 1023, .int .u64 1, .int .u64 0, .int .u64 0, .int .u64 0] 49))); have x2 := cells_newT w4 [.int .i64 2, .int .i64 1023, .int .u64 1, .int .u64 0, .int .u64 0, .int .u64 0] 49; have x6 : w.heap.size ≤ (w4.alloc (.cells #[.int .i64 2, .int .i64 1023, .int .u64 1, .int .u64 0, .int .u64 0, .int .u64 0] 49)).heap.size := (by have := B4.out.size; have := B5.out.size; simp; omega); refine wpList_tellC (by rfl) _ _ rfl w.heap.size g 2046 c ((tls Lg)) rfl x1 (by omega) ⟨w4.heap.size, 0, none⟩ [.int .i64 2, .int .i64 1023, .int .u64 1, .int .u64 0, .int .u64 0, .int .u64 0] rfl rfl x2 (six_any _ _ _ _ _ _) (by omega) x6 ?_; intro P5 c5 w5 ho5 hg5 hold; obtain ⟨b5, s5, l5, l6⟩ := lst_app e46 B4.out S3.out B5.out GL.out U3.out x1 ho5 hg5 hold; have B6 := hidden b5; have S5 := hidden s5; have L6 := hidden l6; have CW := hidden (req_wire e46 (c := c5) NW1.out (HT.out.keep b5) s5 l5); clear x1 x2 x6 ho5 hg5 hold b5 s5 l5 l6) | (go_at_call 11; refine CW.out.mono ?_; rintro e w6 ⟨rfl, hb⟩; have B7 := hidden (B6.out.trans (hb.mono B6.out.size)); have S6 := hidden (S5.out.keep hb); have L7 := hidden (L6.out.keep hb); clear hb))
      clear CW CI S3 B4 O3 U3 B5 B6 S5 L6
      have CM := Multiply_ok S6.out (HT.out.keep B7.out) (some ⟨g, 0, none⟩) (some ⟨g, 0, none⟩) Lg.length c Lg.length c (ft Lg) (ft Lg) (by omega) (by omega) (fun k hk => lst_ok _) (fun k hk => lst_ok _) (by rw [e46]; exact L7.out) (by rw [e46]; exact L7.out) NM.out NM.out (by simp) (by omega)
      rw [e46] at CM rl
      simp only [tup] at CM
      replace CM := hidden CM
      generalize lf Sm.L (glL 1 (cst (2, ((1023 : Nat) : Int))) ++ glN 2046 (ft Lg)) = Xa at CM rl
      generalize lf Sm.L (glL 1 (cst (3, ((1023 : Nat) : Int))) ++ glN 2046 (ft Lg)) = Xb at CM
      have RL := hidden rl
      clear rl e46
      go_upto_region 10 with (go_at_call 10; refine CM.out.mono ?_; rintro e w8 ⟨rfl, hq⟩; obtain ⟨v8, vs8, sy8, fz8⟩ := hq; have S8 := hidden sy8; have B8 := hidden (B7.out.trans (fz8.below B7.out.size S6.out.bs (fun k hk => (S6.out.vb k hk).1))); clear sy8 fz8)
      clear CM S6 L7
      have CQ := Requirement_any S8.out 1 _ (by rfl) (by rw [RL.out]; omega) (by rw [RL.out]; omega) (by simp)
      rw [RL.out] at CQ
      replace CQ := hidden CQ
      have CG := hidden (fun y (hy : Below w8.heap.size w8 y) => Gates_any (S8.out.keep hy))
      have CS := hidden (fun y (hy : Below w8.heap.size w8 y) => Requires_any (S8.out.keep hy))
      simp only [List.nil_append, List.cons_append, List.length_cons, List.length_nil] at CS
      go_wp2_with (first | (go_at_call 23; refine CQ.out.mono ?_; rintro e w9 ⟨P9, c9, rfl, hb⟩; have B9 := hidden hb; clear hb) | (go_at_call 6; refine (CG.out _ B9.out).mono ?_; rintro e w10 ⟨rfl, rfl⟩) | (go_at_call 7; refine (CS.out _ B9.out).mono ?_; rintro e w11 ⟨rfl, rfl⟩))
      refine bodyPost_ret (v := .bool true) (by simp [results, Tryd.results14, go_sem]) rfl ⟨rfl, ?_⟩
      exact B8.out.trans (B9.out.mono B8.out.size)
end Ci
end Go.Proofs.YtnbhkhhghhfjoaaDoor
