import Derived.Test.YtbkiobfjabadeaaDoorYj
namespace Go.Proofs.YtbkiobfjabadeaaDoor
open Go.RowKit
set_option linter.unusedVariables false
theorem wpList_storeE {P : Program} {ops : Array Oper} {rest : List Oper} {op : Oper} {a : Act} {w : World} {Q : Exit → Act → World → Prop} (hgd : op.guard = none) (ty : TypeId) (x y : Operand) (ho : op.op = .store ty x y) (b o : Nat) (cs : List Value) (hx : a.eval x = .pointer (some ⟨b, o, none⟩)) (hy : a.eval y = .agg cs.toArray) (ht : w.there b o cs.length) (hi : (P.info? ty).map (·.size) = some cs.length) (h1 : cs.toArray.all (·.oneCell') = true) (hd : op.dst = none)
    (h : ∀ w', w' = w.setCells b o cs → wpList P ops Q rest a w') : wpList P ops Q (op :: rest) a w :=
  wpList_plain hgd fun K hK => wp_storeE ty x y ho b o cs hx hy ht hi h1 hd (fun w' hw => hK _ _ (h w' hw))
theorem wpList_storeV {P : Program} {ops : Array Oper} {rest : List Oper} {op : Oper} {a : Act} {w : World} {Q : Exit → Act → World → Prop} (hgd : op.guard = none) (ty : TypeId) (x y : Operand) (ho : op.op = .store ty x y) (b o : Nat) (p : Option Addr) (n c : Nat) (hx : a.eval x = .pointer (some ⟨b, o, none⟩)) (hy : a.eval y = .slice p n c) (ht : w.there b o 1) (hi : (P.info? ty).map (·.size) = some 1) (hd : op.dst = none)
    (h : ∀ w', w' = w.setCells b o [.slice p n c] → wpList P ops Q rest a w') : wpList P ops Q (op :: rest) a w :=
  wpList_plain hgd fun K hK => wp_storeV ty x y ho b o p n c hx hy ht hi hd (fun w' hw => hK _ _ (h w' hw))
theorem sa_lst (f : Nat → E4) (i : Nat) : ∃ n, sa f i = lst n := by
  cases i with
  | zero => exact ⟨0, zero_lst.symm⟩
  | succ i => exact ⟨_, rfl⟩
theorem radd_sa (f : Nat → E4) (i : Nat) (w : World) : Calls Tryd.prog 14 #[(sa f i).v, (lst (f i).n).v] w fun e w' => e = .returned (sa f (i + 1)).v ∧ Below w.heap.size w w' := by
  obtain ⟨n, hn⟩ := sa_lst f i
  have := rAdd_any n (f i).n w
  rw [show sa f (i + 1) = lst (n + (f i).n) by rw [sa, hn, lst_add], hn]
  exact this
/-- what the loop keeps -/
def WR (w : World) (B T4 T6 i : Nat) (b c : Int) (q : Nat → Tq) (w' : World) : Prop :=
  ∃ VL VR : Value, Mw w [(T6, tc (sa (fun k => (q k).a) i) (sa (fun k => (q k).r) i) (sa (fun k => (q k).s) i) (sa (fun k => (q k).t) i) VL VR), (T4, tz), (w.heap.size, [.int .i64 b, .int .i64 c])] w' ∧
    w'.ownsRow (T6 + 1) 33 4 VL (i * B) (svs (i * B) (cc B (fun j k => lst ((q j).g k).n))) ∧ w'.ownsRow (T6 + 1) 33 4 VR (i * B) (svs (i * B) (cc B (fun j k => lst ((q j).h k).n))) ∧ Dj VL VR
set_option maxRecDepth 100000 in
set_option maxHeartbeats 16000000 in
theorem rwhole_params (b c : Int) (V : Value) (N : Nat) (q : Nat → Tq) (L R : Nat → Value) (w : World) (hal : al b c = false) (hV : Ts w V N q L R) :
    Calls Tryd.prog 7 #[.agg #[.int .i64 b, .int .i64 c], V] w fun e w' => e = .returned (.tuple #[.agg tz.toArray, .int .i64 130]) ∧ Below w.heap.size w w' := by
  have CA := hidden (fun x => Allowed_any b c x)
  rw [hal] at CA
  have HV := hidden hV
  have M0 := (Mw.start w).new [.int .i64 b, .int .i64 c] 23
  have M1 := M0.new tz 36
  rw [World.size_alloc] at M1
  have MM := hidden M1
  clear M0 M1
  go_enter Tryd.func7, Tryd.ntmps7
  go_upto_region 1 with (refine wpList_rtalloc rfl rfl ?_)
  try simp only [Act.put, List.setIfInBounds_toArray, List.set_cons_zero, List.set_cons_succ, World.size_alloc]
  generalize (w.alloc (.cells #[.int .i64 b, .int .i64 c] 23)).alloc (.cells tz.toArray 36) = w1 at *
  have rp := (MM.out.r (w.heap.size, [.int .i64 b, .int .i64 c]) (by simp)).1
  have cp0 := rp 0 _ rfl
  have cp1 := rp 1 _ rfl
  simp only [Nat.zero_add] at cp0 cp1
  clear rp
  go_upto_region 2 with (first | (go_at_call 18; refine (CA.out _).mono ?_; rintro e w2 ⟨rfl, hb⟩; have MK := hidden (MM.out.keep hb); replace cp0 := cell_keep cp0 hb; replace cp1 := cell_keep cp1 hb; clear hb MM CA))
  clear cp0 cp1
  go_wp2_with (first | (refine wpList_rtbuild rfl rfl ?_) | (refine wpList_storeL rfl 36 _ _ rfl rfl (w.heap.size + 1) 0 tz (by rfl) (by rfl) (MK.out.ther tz (c := w.heap.size + 1) (o := tz) (by simp) rfl) rtinfo (tc_one _ _ _ _ _ _ _ _ _ _) ?_; have MF := hidden (MK.out.set (M := []) tz (c := w.heap.size + 1) (o := tz) (by simp) rfl (by simp)); clear MK; generalize World.setCells _ (w.heap.size + 1) 0 tz = wf at *))
  have LD := hidden (MF.out.var (c := w.heap.size + 1) (ds := tz) (by simp) Tryd.underlying36 rfl rtinfo)
  refine bodyPost_ret (v := .tuple #[.agg tz.toArray, .int .i64 130]) (results_tupM Tryd.results7 _ _ _ _ _ _ (by rfl) (by rfl) LD.out) rfl ⟨rfl, MF.out.bel⟩
set_option maxRecDepth 100000 in
set_option maxHeartbeats 16000000 in
theorem rwhole_count (b c : Int) (V : Value) (N : Nat) (q : Nat → Tq) (L R : Nat → Value) (w : World) (hal : al b c = true) (hV : Ts w V N q L R) (hf : ¬ (N : Int) = c) :
    Calls Tryd.prog 7 #[.agg #[.int .i64 b, .int .i64 c], V] w fun e w' => e = .returned (.tuple #[.agg tz.toArray, .int .i64 2]) ∧ Below w.heap.size w w' := by
  have CA := hidden (fun x => Allowed_any b c x)
  rw [hal] at CA
  obtain ⟨P, cV, hVe, -⟩ := id hV
  subst hVe
  have HV := hidden hV
  have M0 := (Mw.start w).new [.int .i64 b, .int .i64 c] 23
  have M1 := M0.new tz 36
  rw [World.size_alloc] at M1
  have MM := hidden M1
  clear M0 M1
  go_enter Tryd.func7, Tryd.ntmps7
  go_upto_region 1 with (refine wpList_rtalloc rfl rfl ?_)
  try simp only [Act.put, List.setIfInBounds_toArray, List.set_cons_zero, List.set_cons_succ, World.size_alloc]
  generalize (w.alloc (.cells #[.int .i64 b, .int .i64 c] 23)).alloc (.cells tz.toArray 36) = w1 at *
  have rp := (MM.out.r (w.heap.size, [.int .i64 b, .int .i64 c]) (by simp)).1
  have cp0 := rp 0 _ rfl
  have cp1 := rp 1 _ rfl
  simp only [Nat.zero_add] at cp0 cp1
  clear rp
  go_upto_region 4 with (first | (go_at_call 18; refine (CA.out _).mono ?_; rintro e w2 ⟨rfl, hb⟩; have MK := hidden (MM.out.keep hb); replace cp0 := cell_keep cp0 hb; replace cp1 := cell_keep cp1 hb; clear hb MM CA))
  clear cp0 cp1
  go_wp2_with (first | (refine wpList_rtbuild rfl rfl ?_) | (refine wpList_storeL rfl 36 _ _ rfl rfl (w.heap.size + 1) 0 tz (by rfl) (by rfl) (MK.out.ther tz (c := w.heap.size + 1) (o := tz) (by simp) rfl) rtinfo (tc_one _ _ _ _ _ _ _ _ _ _) ?_; have MF := hidden (MK.out.set (M := []) tz (c := w.heap.size + 1) (o := tz) (by simp) rfl (by simp)); clear MK; generalize World.setCells _ (w.heap.size + 1) 0 tz = wf at *))
  have LD := hidden (MF.out.var (c := w.heap.size + 1) (ds := tz) (by simp) Tryd.underlying36 rfl rtinfo)
  refine bodyPost_ret (v := .tuple #[.agg tz.toArray, .int .i64 2]) (results_tupM Tryd.results7 _ _ _ _ _ _ (by rfl) (by rfl) LD.out) rfl ⟨rfl, MF.out.bel⟩
theorem Mw.kept {w0 : World} {L : List (Nat × List Value)} {w w' : World} {r : Option Nat} (h : Mw w0 L w) (hg : w.grownBy w' r) (hne : ∀ p ∈ L, ¬ r = some p.1) (h0 : ∀ k, r = some k → w0.heap.size ≤ k) : Mw w0 L w' := by
  refine ⟨below_transI h.bel (bl_grown hg h.bel.size h0), fun p hp => ?_⟩
  obtain ⟨k1, k2, k3, k4⟩ := h.r p hp
  exact ⟨range_gr k1 hg (fun e => hne p hp e.symm), there_gr k2 hg (fun e => hne p hp e.symm), k3, Nat.lt_of_lt_of_le k4 hg.size⟩
theorem nx_of {u v : Value} {N : Nat} (h : v.ownBlock = u.ownBlock ∨ v.ownBlock = some N) : Nx u v N := h.imp id (fun h j hj => Nat.le_of_eq (Option.some.inj (h.symm.trans hj)))
set_option maxRecDepth 100000 in
set_option maxHeartbeats 16000000 in
theorem rwhole_loop (B C : Nat) (V : Value) (N : Nat) (q : Nat → Tq) (L R : Nat → Value) (w : World) (hB : B ≤ 64) (hC : C ≤ 16) (hal : al (B : Int) (C : Int) = true) (hV : Ts w V N (fun i => (q i).doc) L R) (hN : N = C) (hq : ∀ i, i < N → (q i).ok) :
    Calls Tryd.prog 7 #[.agg #[.int .i64 (B : Int), .int .i64 (C : Int)], V] w fun e w' => (¬ Fits N q (B : Int) ∧ e = .returned (.tuple #[.agg tz.toArray, .int .i64 2]) ∧ Below w.heap.size w w') ∨ (Fits N q (B : Int) ∧ ∃ (p1 : Option Addr) (k1 : Nat) (p2 : Option Addr) (k2 : Nat), e = .returned (.tuple #[.agg (tc (sa (fun k => (q k).a) N) (sa (fun k => (q k).r) N) (sa (fun k => (q k).s) N) (sa (fun k => (q k).t) N) (.slice p1 (N * B) k1) (.slice p2 (N * B) k2)).toArray, .int .i64 0]) ∧
      w'.ownsRow w.heap.size 33 4 (.slice p1 (N * B) k1) (N * B) (svs (N * B) (cc B (fun j k => lst ((q j).g k).n))) ∧ w'.ownsRow w.heap.size 33 4 (.slice p2 (N * B) k2) (N * B) (svs (N * B) (cc B (fun j k => lst ((q j).h k).n))) ∧ Dj (.slice p1 (N * B) k1) (.slice p2 (N * B) k2) ∧ Below w.heap.size w w') := by
  obtain ⟨b, hb0⟩ : ∃ b : Int, (B : Int) = b := ⟨_, rfl⟩
  obtain ⟨c, hc0⟩ : ∃ c : Int, (C : Int) = c := ⟨_, rfl⟩
  have CA := hidden (fun x => Allowed_any b c x)
  rw [hb0, hc0] at hal
  rw [hal] at CA
  have HC : Hid (N ≤ 16 ∧ B ≤ 64) := hidden ⟨by omega, hB⟩
  have HQ := hidden hq
  have U36 : Hid (Tryd.prog.underlying 36 = some _) := hidden Tryd.underlying36
  obtain ⟨i0, hi, hz0, hz1, hz2⟩ := info_parts info33
  have HI := hidden hi
  have HZ0 := hidden hz0
  have HZ1 := hidden hz1
  have HZ2 := hidden hz2
  have HU : Hid (Tryd.prog.underlying 34 = some (.slice 33)) := hidden (by kernel_rfl)
  have nn0 : (0 : Int) ≤ (N : Int) := by omega
  have eNc : (N : Int) = c := by rw [← hc0, hN]
  rw [hb0, hc0]
  have HB0 := hidden hb0
  obtain ⟨P, cV, hVe, -⟩ := id hV
  subst hVe
  clear hal hq hB hC hc0 hb0 hN hi hz0 hz1 hz2
  have HV := hidden hV
  have M0 := (Mw.start w).new [.int .i64 b, .int .i64 c] 23
  have M1 := M0.new tz 36
  rw [World.size_alloc] at M1
  have MM := hidden M1
  clear M0 M1
  clear hV
  go_enter Tryd.func7, Tryd.ntmps7
  go_upto_region 1 with (refine wpList_rtalloc rfl rfl ?_)
  try simp only [Act.put, List.setIfInBounds_toArray, List.set_cons_zero, List.set_cons_succ, World.size_alloc]
  generalize (w.alloc (.cells #[.int .i64 b, .int .i64 c] 23)).alloc (.cells tz.toArray 36) = w1 at *
  have rp := (MM.out.r (w.heap.size, [.int .i64 b, .int .i64 c]) (by simp)).1
  have cp0 := rp 0 _ rfl
  have cp1 := rp 1 _ rfl
  simp only [Nat.zero_add] at cp0 cp1
  clear rp
  go_upto_region 6 with (first | (go_at_call 18; refine (CA.out _).mono ?_; rintro e w2 ⟨rfl, hb⟩; have MK := hidden (MM.out.keep hb); replace cp0 := cell_keep cp0 hb; replace cp1 := cell_keep cp1 hb; clear hb MM CA) | (refine wpList_rtalloc rfl rfl ?_))
  try simp only [Act.put, List.setIfInBounds_toArray, List.set_cons_zero, List.set_cons_succ]
  clear eNc
  have M6 := hidden (MK.out.new tz 36)
  have L6 : Hid (w.heap.size + 1 < w2.heap.size) := hidden (MK.out.r (w.heap.size + 1, tz) (by simp)).2.2.2
  clear MK
  generalize w2.alloc (.cells tz.toArray 36) = w6 at *
  generalize w2.heap.size = T6 at *
  obtain ⟨T4, hT4⟩ : ∃ T4, T4 = w.heap.size + 1 := ⟨_, rfl⟩
  have H4 : Hid (w.heap.size < T4) := hidden (by omega)
  simp only [← hT4] at M6 L6 ⊢
  clear hT4
  have I0 : Hid (WR w B T4 T6 0 b c q w6) := hidden ⟨.slice none 0 0, .slice none 0 0, M6.out, by rw [Nat.zero_mul]; exact World.ownsRow_nil _ _ _ _, by rw [Nat.zero_mul]; exact World.ownsRow_nil _ _ _ _, fun k hk => by simp [Value.ownBlock] at hk⟩
  clear M6 cp0 cp1
  go_wp2_with fail
  go_loopw [7] (fun iv w' => ∃ i : Nat, i ≤ N ∧ iv = .int .i64 i ∧ Hid (∀ j, j < i → ((q j).n : Int) = b ∧ ((q j).m : Int) = b) ∧ Hid (WR w B T4 T6 i b c q w')) (fun i _ => N - (intOf i).toNat)
  case atStart => exact ⟨0, by omega, rfl, hidden (fun j hj => by omega), I0⟩
  case round =>
    clear I0
    obtain ⟨i, hi, rfl, HFI, HI9⟩ := hrel
    obtain ⟨VL, VR, mw, oL, oR, dj⟩ := HI9.out
    clear HI9
    have ML := hidden mw
    have OL := hidden oL
    have OR := hidden oR
    have DJ := hidden dj
    clear mw oL oR dj
    by_cases hin : i < N
    · have ii0 : (0 : Int) ≤ (i : Int) := by omega
      have ii1 : (i : Int) < (N : Int) := by omega
      have w9 : IntKind.i64.wrap ((i : Int) + 1) = (i : Int) + 1 := IntWalk.i64_in _ (by have := HC.out; omega)
      obtain ⟨P', c', e', hl, hi2⟩ := HV.out.keep ML.out.bel
      simp only [Value.slice.injEq, true_and] at e'
      obtain ⟨rfl, rfl⟩ := e'
      obtain ⟨bb, off, rfl, hr⟩ := hl (by omega)
      have RQ := hidden (hr i hin)
      have IL := hidden ((HV.out.choose_spec.choose_spec.2.2 i hin).1)
      have IR := hidden ((HV.out.choose_spec.choose_spec.2.2 i hin).2)
      obtain ⟨pL, kL, eL, -⟩ := IL.out
      obtain ⟨pR, kR, eR, -⟩ := IR.out
      simp only [] at RQ
      rw [eL, eR] at RQ
      rw [eL] at IL
      rw [eR] at IR
      clear hl hr hi2 eL eR
      simp only [Tq.doc] at IL IR RQ
      have T8e : Hid (T6 < wr.heap.size) := hidden (ML.out.r (T6, tc (sa (fun k => (q k).a) i) (sa (fun k => (q k).r) i) (sa (fun k => (q k).s) i) (sa (fun k => (q k).t) i) VL VR) (by simp)).2.2.2
      obtain ⟨nL, hnL⟩ : ∃ n, (q i).n = n := ⟨_, rfl⟩
      obtain ⟨nR, hnR⟩ : ∃ n, (q i).m = n := ⟨_, rfl⟩
      have HNL := hidden hnL
      have HNR := hidden hnR
      rw [hnL] at IL
      rw [hnR] at IR
      rw [hnL, hnR] at RQ
      clear hnL hnR
      have SUM : Hid ((∀ x, Calls Tryd.prog 14 #[(sa (fun k => (q k).a) i).v, (lst (q i).a.n).v] x fun e w' => e = .returned (sa (fun k => (q k).a) (i + 1)).v ∧ Below x.heap.size x w') ∧ (∀ x, Calls Tryd.prog 14 #[(sa (fun k => (q k).r) i).v, (lst (q i).r.n).v] x fun e w' => e = .returned (sa (fun k => (q k).r) (i + 1)).v ∧ Below x.heap.size x w') ∧ (∀ x, Calls Tryd.prog 14 #[(sa (fun k => (q k).s) i).v, (lst (q i).s.n).v] x fun e w' => e = .returned (sa (fun k => (q k).s) (i + 1)).v ∧ Below x.heap.size x w') ∧ (∀ x, Calls Tryd.prog 14 #[(sa (fun k => (q k).t) i).v, (lst (q i).t.n).v] x fun e w' => e = .returned (sa (fun k => (q k).t) (i + 1)).v ∧ Below x.heap.size x w')) :=
        hidden ⟨fun x => radd_sa (fun k => (q k).a) i x, fun x => radd_sa (fun k => (q k).r) i x, fun x => radd_sa (fun k => (q k).s) i x, fun x => radd_sa (fun k => (q k).t) i x⟩
      have GOAL : Hid (∀ wz VL VR, Mw w [(T6, tc (sa (fun k => (q k).a) (i + 1)) (sa (fun k => (q k).r) (i + 1)) (sa (fun k => (q k).s) (i + 1)) (sa (fun k => (q k).t) (i + 1)) VL VR), (T4, tz), (w.heap.size, [.int .i64 b, .int .i64 c])] wz → wz.ownsRow (T6 + 1) 33 4 VL (i * B + B) (svs (i * B + B) (cc B (fun j k => lst ((q j).g k).n))) → wz.ownsRow (T6 + 1) 33 4 VR (i * B + B) (svs (i * B + B) (cc B (fun j k => lst ((q j).h k).n))) → Dj VL VR → WR w B T4 T6 (i + 1) b c q wz) :=
        hidden (fun wz VL VR h1 h2 h3 h4 => ⟨VL, VR, h1, by rw [Nat.succ_mul]; exact h2, by rw [Nat.succ_mul]; exact h3, h4⟩)
      generalize sa (fun k => (q k).a) (i + 1) = A1 at *
      generalize sa (fun k => (q k).r) (i + 1) = R1 at *
      generalize sa (fun k => (q k).s) (i + 1) = S1 at *
      generalize sa (fun k => (q k).t) (i + 1) = T1 at *
      generalize sa (fun k => (q k).a) i = A0 at *
      generalize sa (fun k => (q k).r) i = R0 at *
      generalize sa (fun k => (q k).s) i = S0 at *
      generalize sa (fun k => (q k).t) i = T0 at *
      generalize lst (q i).a.n = dA at *
      generalize lst (q i).r.n = dR at *
      generalize lst (q i).s.n = dS at *
      generalize lst (q i).t.n = dT at *
      obtain ⟨DQ, hDQ⟩ : ∃ DQ, tc dA dR dS dT (.slice pL nL kL) (.slice pR nR kR) = DQ := ⟨_, rfl⟩
      have TQL : Hid (DQ.length = 18) := hidden (by rw [← hDQ]; rfl)
      have ONQ : Hid (DQ.toArray.all (·.oneCell') = true) := hidden (by rw [← hDQ]; exact tc_one _ _ _ _ _ _ _ _ _ _)
      have DC0 : Hid (DQ[0]? = some (.int .u64 dA.x0) ∧ DQ[1]? = some (.int .u64 dA.x1) ∧ DQ[2]? = some (.int .u64 dA.x2) ∧ DQ[3]? = some (.int .u64 dA.x3)) := hidden (by rw [← hDQ]; exact ⟨rfl, rfl, rfl, rfl⟩)
      have DC1 : Hid (DQ[4]? = some (.int .u64 dR.x0) ∧ DQ[5]? = some (.int .u64 dR.x1) ∧ DQ[6]? = some (.int .u64 dR.x2) ∧ DQ[7]? = some (.int .u64 dR.x3)) := hidden (by rw [← hDQ]; exact ⟨rfl, rfl, rfl, rfl⟩)
      have DC2 : Hid (DQ[8]? = some (.int .u64 dS.x0) ∧ DQ[9]? = some (.int .u64 dS.x1) ∧ DQ[10]? = some (.int .u64 dS.x2) ∧ DQ[11]? = some (.int .u64 dS.x3)) := hidden (by rw [← hDQ]; exact ⟨rfl, rfl, rfl, rfl⟩)
      have DC3 : Hid (DQ[12]? = some (.int .u64 dT.x0) ∧ DQ[13]? = some (.int .u64 dT.x1) ∧ DQ[14]? = some (.int .u64 dT.x2) ∧ DQ[15]? = some (.int .u64 dT.x3)) := hidden (by rw [← hDQ]; exact ⟨rfl, rfl, rfl, rfl⟩)
      have DC4 : Hid (DQ[16]? = some (.slice pL nL kL)) := hidden (by rw [← hDQ]; rfl)
      have DC5 : Hid (DQ[17]? = some (.slice pR nR kR)) := hidden (by rw [← hDQ]; rfl)
      rw [hDQ] at RQ
      clear hDQ
      have DI : Hid ((Tryd.prog.info? 36).map (·.size) = some DQ.length) := hidden (by rw [TQL.out]; exact rtinfo)
      have DJ2 : Hid ((Tryd.prog.info? 36).map (·.size) = some DQ.toArray.size) := hidden (by rw [List.size_toArray, TQL.out]; exact rtinfo)
      have LL : Hid ((∀ k, VL.ownBlock = some k → k < wr.heap.size) ∧ (∀ k, VR.ownBlock = some k → k < wr.heap.size)) := hidden ⟨fun k hk => (OL.out.lt k hk).2, fun k hk => (OR.out.lt k hk).2⟩
      simp only [E4.v] at SUM
      go_upto_region 10 with (first | (refine wpList_load_mid rfl 36 _ rfl bb (off + i * 18) (by rfl) DQ _ RQ.out U36.out rfl DI.out ?_) | (refine wpList_rtalloc rfl rfl ?_; have M8 := hidden (ML.out.new tz 36); have O1 := hidden (own_keepX OL.out (bl_alloc wr (.cells tz.toArray 36))); have O2 := hidden (own_keepX OR.out (bl_alloc wr (.cells tz.toArray 36))); clear ML OL OR; generalize World.alloc _ _ = w8 at *; generalize wr.heap.size = T8 at *) | (refine wpList_storeL rfl 36 _ _ rfl rfl T8 0 DQ (by rfl) (by rfl) (M8.out.ther DQ (c := T8) (o := tz) (by simp) TQL.out) DJ2.out ONQ.out ?_; have M9 := hidden (M8.out.set (M := [(T6, tc A0 R0 S0 T0 VL VR), (T4, tz), (w.heap.size, [.int .i64 b, .int .i64 c])]) DQ (c := T8) (o := tz) (by simp) TQL.out (by have h1 := T8e.out; have h2 := L6.out; have h3 := H4.out; simp; omega)); replace O1 := hidden (own_setCells O1.out T8 0 DQ (fun e => by have := LL.out.1 _ e; omega)); replace O2 := hidden (own_setCells O2.out T8 0 DQ (fun e => by have := LL.out.2 _ e; omega)); clear M8; generalize World.setCells _ T8 0 DQ = w9' at *))
      try simp only [Act.put, List.setIfInBounds_toArray, List.set_cons_zero, List.set_cons_succ]
      have N0 := hidden (M9.out.sub (M := (T6, tc A0 R0 S0 T0 VL VR) :: [(T8, DQ), (T4, tz), (w.heap.size, [.int .i64 b, .int .i64 c])]) (by intro p hp; simp only [List.mem_cons, List.not_mem_nil, or_false] at hp ⊢; rcases hp with rfl | rfl | rfl | rfl <;> simp))
      clear M9
      have r8 := (N0.out.r (T8, DQ) (by simp)).1
      have g0 := r8 16 _ DC4.out
      have g1 := r8 17 _ DC5.out
      have rp := (N0.out.r (w.heap.size, [.int .i64 b, .int .i64 c]) (by simp)).1
      have cp0 := rp 0 _ rfl
      simp only [Nat.zero_add] at g0 g1 cp0
      clear r8 rp
      by_cases hfit : (nL : Int) = b ∧ (nR : Int) = b
      · have f1 := hfit.1
        have f2 := hfit.2
        have HFIT := hidden hfit
        clear hfit
        go_upto_region 12 with fail
        clear g0 g1 cp0 f1 f2
        obtain ⟨e1, e2⟩ : nL = B ∧ nR = B := ⟨by have := HFIT.out.1; have := HB0.out; omega, by have := HFIT.out.2; have := HB0.out; omega⟩
        rw [e1] at IL DC4
        rw [e2] at IR DC5
        have LE2 : Hid (i * B + B ≤ 1088) := hidden (by have hle : i * B ≤ 16 * 64 := Nat.mul_le_mul (by have := HC.out; omega) HC.out.2; have := HC.out; omega)
        have HNX : Hid (∀ j, j < i + 1 → ((q j).n : Int) = b ∧ ((q j).m : Int) = b) := hidden (fun j hj => by
          by_cases hji : j = i
          · subst hji; exact ⟨by rw [HNL.out]; exact HFIT.out.1, by rw [HNR.out]; exact HFIT.out.2⟩
          · exact HFI.out j (by omega))
        clear e1 e2
        have r6 := (N0.out.r (T6, tc A0 R0 S0 T0 VL VR) (by simp)).1
        have r8 := (N0.out.r (T8, DQ) (by simp)).1
        have a0 := r6 0 _ rfl; have a1 := r6 1 _ rfl; have a2 := r6 2 _ rfl; have a3 := r6 3 _ rfl
        have d0 := r8 0 _ DC0.out.1; have d1 := r8 1 _ DC0.out.2.1; have d2 := r8 2 _ DC0.out.2.2.1; have d3 := r8 3 _ DC0.out.2.2.2
        simp only [Nat.zero_add] at a0 a1 a2 a3 d0 d1 d2 d3
        clear r6 r8
        have SJ : Hid (∀ x, Calls Tryd.prog 14 #[.agg #[.int .u64 A0.x0, .int .u64 A0.x1, .int .u64 A0.x2, .int .u64 A0.x3], .agg #[.int .u64 dA.x0, .int .u64 dA.x1, .int .u64 dA.x2, .int .u64 dA.x3]] x fun e w' => e = .returned (.agg #[.int .u64 A1.x0, .int .u64 A1.x1, .int .u64 A1.x2, .int .u64 A1.x3]) ∧ Below x.heap.size x w') := hidden (fun x => SUM.out.1 x)
        go_upto_region 13 with (first | (go_at_call 14; refine (SJ.out _).mono ?_; rintro e wk0 ⟨rfl, hb⟩; replace N0 := hidden (N0.out.keep hb); replace O1 := hidden (own_keepX O1.out hb); replace O2 := hidden (own_keepX O2.out hb); clear hb SJ a0 a1 a2 a3 d0 d1 d2 d3) | (refine wpList_storeE rfl 33 _ _ rfl T6 0 [.int .u64 A1.x0, .int .u64 A1.x1, .int .u64 A1.x2, .int .u64 A1.x3] (by rfl) (by rfl) (there_part (N0.out.r (T6, tc A0 R0 S0 T0 VL VR) (by simp)).2.1 (by simp [tc])) i4_r (one4 _) rfl ?_; intro wz0 hw; have N1x := (N0.out.patch (M := [(T8, DQ), (T4, tz), (w.heap.size, [.int .i64 b, .int .i64 c])]) (c := T6) (D := tc A0 R0 S0 T0 VL VR) 0 [.int .u64 A1.x0, .int .u64 A1.x1, .int .u64 A1.x2, .int .u64 A1.x3] (by simp) (by simp [tc]) (by have h1 := T8e.out; have h2 := L6.out; have h3 := H4.out; simp; omega)); have N1 : Hid (Mw w ((T6, tc A1 R0 S0 T0 VL VR) :: [(T8, DQ), (T4, tz), (w.heap.size, [.int .i64 b, .int .i64 c])]) _) := hidden N1x; replace O1 := hidden (own_setCells O1.out T6 0 [.int .u64 A1.x0, .int .u64 A1.x1, .int .u64 A1.x2, .int .u64 A1.x3] (fun e => by have := (O1.out.lt _ e).1; omega)); replace O2 := hidden (own_setCells O2.out T6 0 [.int .u64 A1.x0, .int .u64 A1.x1, .int .u64 A1.x2, .int .u64 A1.x3] (fun e => by have := (O2.out.lt _ e).1; omega)); clear N1x N0; rw [← hw] at N1 O1 O2; clear hw))
        have r6 := (N1.out.r (T6, tc A1 R0 S0 T0 VL VR) (by simp)).1
        have r8 := (N1.out.r (T8, DQ) (by simp)).1
        have a0 := r6 4 _ rfl; have a1 := r6 5 _ rfl; have a2 := r6 6 _ rfl; have a3 := r6 7 _ rfl
        have d0 := r8 4 _ DC1.out.1; have d1 := r8 5 _ DC1.out.2.1; have d2 := r8 6 _ DC1.out.2.2.1; have d3 := r8 7 _ DC1.out.2.2.2
        simp only [Nat.zero_add] at a0 a1 a2 a3 d0 d1 d2 d3
        clear r6 r8
        have SJ : Hid (∀ x, Calls Tryd.prog 14 #[.agg #[.int .u64 R0.x0, .int .u64 R0.x1, .int .u64 R0.x2, .int .u64 R0.x3], .agg #[.int .u64 dR.x0, .int .u64 dR.x1, .int .u64 dR.x2, .int .u64 dR.x3]] x fun e w' => e = .returned (.agg #[.int .u64 R1.x0, .int .u64 R1.x1, .int .u64 R1.x2, .int .u64 R1.x3]) ∧ Below x.heap.size x w') := hidden (fun x => SUM.out.2.1 x)
        go_upto_region 14 with (first | (go_at_call 14; refine (SJ.out _).mono ?_; rintro e wk1 ⟨rfl, hb⟩; replace N1 := hidden (N1.out.keep hb); replace O1 := hidden (own_keepX O1.out hb); replace O2 := hidden (own_keepX O2.out hb); clear hb SJ a0 a1 a2 a3 d0 d1 d2 d3) | (refine wpList_storeE rfl 33 _ _ rfl T6 4 [.int .u64 R1.x0, .int .u64 R1.x1, .int .u64 R1.x2, .int .u64 R1.x3] (by rfl) (by rfl) (there_part (N1.out.r (T6, tc A1 R0 S0 T0 VL VR) (by simp)).2.1 (by simp [tc])) i4_r (one4 _) rfl ?_; intro wz1 hw; have N2x := (N1.out.patch (M := [(T8, DQ), (T4, tz), (w.heap.size, [.int .i64 b, .int .i64 c])]) (c := T6) (D := tc A1 R0 S0 T0 VL VR) 4 [.int .u64 R1.x0, .int .u64 R1.x1, .int .u64 R1.x2, .int .u64 R1.x3] (by simp) (by simp [tc]) (by have h1 := T8e.out; have h2 := L6.out; have h3 := H4.out; simp; omega)); have N2 : Hid (Mw w ((T6, tc A1 R1 S0 T0 VL VR) :: [(T8, DQ), (T4, tz), (w.heap.size, [.int .i64 b, .int .i64 c])]) _) := hidden N2x; replace O1 := hidden (own_setCells O1.out T6 4 [.int .u64 R1.x0, .int .u64 R1.x1, .int .u64 R1.x2, .int .u64 R1.x3] (fun e => by have := (O1.out.lt _ e).1; omega)); replace O2 := hidden (own_setCells O2.out T6 4 [.int .u64 R1.x0, .int .u64 R1.x1, .int .u64 R1.x2, .int .u64 R1.x3] (fun e => by have := (O2.out.lt _ e).1; omega)); clear N2x N1; rw [← hw] at N2 O1 O2; clear hw))
        have r6 := (N2.out.r (T6, tc A1 R1 S0 T0 VL VR) (by simp)).1
        have r8 := (N2.out.r (T8, DQ) (by simp)).1
        have a0 := r6 8 _ rfl; have a1 := r6 9 _ rfl; have a2 := r6 10 _ rfl; have a3 := r6 11 _ rfl
        have d0 := r8 8 _ DC2.out.1; have d1 := r8 9 _ DC2.out.2.1; have d2 := r8 10 _ DC2.out.2.2.1; have d3 := r8 11 _ DC2.out.2.2.2
        simp only [Nat.zero_add] at a0 a1 a2 a3 d0 d1 d2 d3
        clear r6 r8
        have SJ : Hid (∀ x, Calls Tryd.prog 14 #[.agg #[.int .u64 S0.x0, .int .u64 S0.x1, .int .u64 S0.x2, .int .u64 S0.x3], .agg #[.int .u64 dS.x0, .int .u64 dS.x1, .int .u64 dS.x2, .int .u64 dS.x3]] x fun e w' => e = .returned (.agg #[.int .u64 S1.x0, .int .u64 S1.x1, .int .u64 S1.x2, .int .u64 S1.x3]) ∧ Below x.heap.size x w') := hidden (fun x => SUM.out.2.2.1 x)
        go_upto_region 15 with (first | (go_at_call 14; refine (SJ.out _).mono ?_; rintro e wk2 ⟨rfl, hb⟩; replace N2 := hidden (N2.out.keep hb); replace O1 := hidden (own_keepX O1.out hb); replace O2 := hidden (own_keepX O2.out hb); clear hb SJ a0 a1 a2 a3 d0 d1 d2 d3) | (refine wpList_storeE rfl 33 _ _ rfl T6 8 [.int .u64 S1.x0, .int .u64 S1.x1, .int .u64 S1.x2, .int .u64 S1.x3] (by rfl) (by rfl) (there_part (N2.out.r (T6, tc A1 R1 S0 T0 VL VR) (by simp)).2.1 (by simp [tc])) i4_r (one4 _) rfl ?_; intro wz2 hw; have N3x := (N2.out.patch (M := [(T8, DQ), (T4, tz), (w.heap.size, [.int .i64 b, .int .i64 c])]) (c := T6) (D := tc A1 R1 S0 T0 VL VR) 8 [.int .u64 S1.x0, .int .u64 S1.x1, .int .u64 S1.x2, .int .u64 S1.x3] (by simp) (by simp [tc]) (by have h1 := T8e.out; have h2 := L6.out; have h3 := H4.out; simp; omega)); have N3 : Hid (Mw w ((T6, tc A1 R1 S1 T0 VL VR) :: [(T8, DQ), (T4, tz), (w.heap.size, [.int .i64 b, .int .i64 c])]) _) := hidden N3x; replace O1 := hidden (own_setCells O1.out T6 8 [.int .u64 S1.x0, .int .u64 S1.x1, .int .u64 S1.x2, .int .u64 S1.x3] (fun e => by have := (O1.out.lt _ e).1; omega)); replace O2 := hidden (own_setCells O2.out T6 8 [.int .u64 S1.x0, .int .u64 S1.x1, .int .u64 S1.x2, .int .u64 S1.x3] (fun e => by have := (O2.out.lt _ e).1; omega)); clear N3x N2; rw [← hw] at N3 O1 O2; clear hw))
        have r6 := (N3.out.r (T6, tc A1 R1 S1 T0 VL VR) (by simp)).1
        have r8 := (N3.out.r (T8, DQ) (by simp)).1
        have a0 := r6 12 _ rfl; have a1 := r6 13 _ rfl; have a2 := r6 14 _ rfl; have a3 := r6 15 _ rfl
        have d0 := r8 12 _ DC3.out.1; have d1 := r8 13 _ DC3.out.2.1; have d2 := r8 14 _ DC3.out.2.2.1; have d3 := r8 15 _ DC3.out.2.2.2
        simp only [Nat.zero_add] at a0 a1 a2 a3 d0 d1 d2 d3
        clear r6 r8
        have SJ : Hid (∀ x, Calls Tryd.prog 14 #[.agg #[.int .u64 T0.x0, .int .u64 T0.x1, .int .u64 T0.x2, .int .u64 T0.x3], .agg #[.int .u64 dT.x0, .int .u64 dT.x1, .int .u64 dT.x2, .int .u64 dT.x3]] x fun e w' => e = .returned (.agg #[.int .u64 T1.x0, .int .u64 T1.x1, .int .u64 T1.x2, .int .u64 T1.x3]) ∧ Below x.heap.size x w') := hidden (fun x => SUM.out.2.2.2 x)
        go_upto_region 16 with (first | (go_at_call 14; refine (SJ.out _).mono ?_; rintro e wk3 ⟨rfl, hb⟩; replace N3 := hidden (N3.out.keep hb); replace O1 := hidden (own_keepX O1.out hb); replace O2 := hidden (own_keepX O2.out hb); clear hb SJ a0 a1 a2 a3 d0 d1 d2 d3) | (refine wpList_storeE rfl 33 _ _ rfl T6 12 [.int .u64 T1.x0, .int .u64 T1.x1, .int .u64 T1.x2, .int .u64 T1.x3] (by rfl) (by rfl) (there_part (N3.out.r (T6, tc A1 R1 S1 T0 VL VR) (by simp)).2.1 (by simp [tc])) i4_r (one4 _) rfl ?_; intro wz3 hw; have N4x := (N3.out.patch (M := [(T8, DQ), (T4, tz), (w.heap.size, [.int .i64 b, .int .i64 c])]) (c := T6) (D := tc A1 R1 S1 T0 VL VR) 12 [.int .u64 T1.x0, .int .u64 T1.x1, .int .u64 T1.x2, .int .u64 T1.x3] (by simp) (by simp [tc]) (by have h1 := T8e.out; have h2 := L6.out; have h3 := H4.out; simp; omega)); have N4 : Hid (Mw w ((T6, tc A1 R1 S1 T1 VL VR) :: [(T8, DQ), (T4, tz), (w.heap.size, [.int .i64 b, .int .i64 c])]) _) := hidden N4x; replace O1 := hidden (own_setCells O1.out T6 12 [.int .u64 T1.x0, .int .u64 T1.x1, .int .u64 T1.x2, .int .u64 T1.x3] (fun e => by have := (O1.out.lt _ e).1; omega)); replace O2 := hidden (own_setCells O2.out T6 12 [.int .u64 T1.x0, .int .u64 T1.x1, .int .u64 T1.x2, .int .u64 T1.x3] (fun e => by have := (O2.out.lt _ e).1; omega)); clear N4x N3; rw [← hw] at N4 O1 O2; clear hw))
        have r6 := (N4.out.r (T6, tc A1 R1 S1 T1 VL VR) (by simp)).1
        have r8 := (N4.out.r (T8, DQ) (by simp)).1
        have a0 := r6 16 _ rfl
        have d0 := r8 16 _ DC4.out
        simp only [Nat.zero_add] at a0 d0
        clear r6 r8
        go_upto_region 17 with (first | (at_builtin; refine wpList_appIn rfl _ _ 34 rfl (T6 + 1) 33 i0 HU.out HI.out HZ0.out HZ1.out HZ2.out VL (i * B) _ (by rfl) O1.out (.slice pL B kL) B (fun k => lst ((q i).g k).n) (by rfl) ((IL.out).keep N4.out.bel) (by have := LE2.out; omega) (Nat.succ_le_of_lt (N4.out.r (T6, tc A1 R1 S1 T1 VL VR) (by simp)).2.2.2) ?_; intro vv wv1 hov hgv hnv; rw [cc_next B i (fun j k => lst ((q j).g k).n)] at hov; obtain ⟨p1, k1, rfl, -⟩ := own_shape4 hov; have LV := hidden (fun k hk => (O1.out.lt k hk).1); have O2n := hidden (DJ.out.kept O2.out hgv); have DJn := hidden (DJ.out.next (nx_of hnv) (fun j hj => (O2.out.lt j hj).2)); have N4n := hidden (N4.out.kept hgv (by intro p hp e; have h1 := LV.out _ e; have h2 := LL.out.1 _ e; have h3 := L6.out; have h4 := H4.out; simp at hp; rcases hp with rfl | rfl | rfl | rfl <;> simp at h1 h2 <;> omega) (fun k hk => by have h1 := LV.out _ hk; have h3 := L6.out; have h4 := H4.out; omega)); have O1n := hidden hov; clear hov hgv hnv N4 O1 O2 DJ a0 d0 LV) | (refine wpList_storeV rfl 34 _ _ rfl T6 16 p1 (i * B + B) k1 (by rfl) (by rfl) (there_part (N4n.out.r (T6, tc A1 R1 S1 T1 VL VR) (by simp)).2.1 (by simp [tc])) i1_r rfl ?_; intro wz16 hw; have N5x := (N4n.out.patch (M := [(T8, DQ), (T4, tz), (w.heap.size, [.int .i64 b, .int .i64 c])]) (c := T6) (D := tc A1 R1 S1 T1 VL VR) 16 [.slice p1 (i * B + B) k1] (by simp) (by simp [tc]) (by have h1 := T8e.out; have h2 := L6.out; have h3 := H4.out; simp; omega)); have N5 : Hid (Mw w ((T6, tc A1 R1 S1 T1 (.slice p1 (i * B + B) k1) VR) :: [(T8, DQ), (T4, tz), (w.heap.size, [.int .i64 b, .int .i64 c])]) _) := hidden N5x; have O1 := hidden (own_setCells O1n.out T6 16 [.slice p1 (i * B + B) k1] (fun e => by have := (O1n.out.lt _ e).1; omega)); have O2 := hidden (own_setCells O2n.out T6 16 [.slice p1 (i * B + B) k1] (fun e => by have := (O2n.out.lt _ e).1; omega)); have DJ := DJn; clear N5x N4n O1n O2n DJn; rw [← hw] at N5 O1 O2; clear hw))
        have r6 := (N5.out.r (T6, tc A1 R1 S1 T1 (.slice p1 (i * B + B) k1) VR) (by simp)).1
        have r8 := (N5.out.r (T8, DQ) (by simp)).1
        have a0 := r6 17 _ rfl
        have d0 := r8 17 _ DC5.out
        simp only [Nat.zero_add] at a0 d0
        clear r6 r8
        go_wp2_with (first | (at_builtin; refine wpList_appIn rfl _ _ 34 rfl (T6 + 1) 33 i0 HU.out HI.out HZ0.out HZ1.out HZ2.out VR (i * B) _ (by rfl) O2.out (.slice pR B kR) B (fun k => lst ((q i).h k).n) (by rfl) ((IR.out).keep N5.out.bel) (by have := LE2.out; omega) (Nat.succ_le_of_lt (N5.out.r (T6, tc A1 R1 S1 T1 (.slice p1 (i * B + B) k1) VR) (by simp)).2.2.2) ?_; intro vv wv2 hov hgv hnv; rw [cc_next B i (fun j k => lst ((q j).h k).n)] at hov; obtain ⟨p2, k2, rfl, -⟩ := own_shape4 hov; have LV := hidden (fun k hk => (O2.out.lt k hk).1); have O1n := hidden (DJ.out.symm.kept O1.out hgv); have DJn := hidden ((DJ.out.symm.next (nx_of hnv) (fun j hj => (O1.out.lt j hj).2)).symm); have N5n := hidden (N5.out.kept hgv (by intro p hp e; have h1 := LV.out _ e; have h2 := LL.out.2 _ e; have h3 := L6.out; have h4 := H4.out; simp at hp; rcases hp with rfl | rfl | rfl | rfl <;> simp at h1 h2 <;> omega) (fun k hk => by have h1 := LV.out _ hk; have h3 := L6.out; have h4 := H4.out; omega)); have O2n := hidden hov; clear hov hgv hnv N5 O2 O1 DJ a0 d0 LV) | (refine wpList_storeV rfl 34 _ _ rfl T6 17 p2 (i * B + B) k2 (by rfl) (by rfl) (there_part (N5n.out.r (T6, tc A1 R1 S1 T1 (.slice p1 (i * B + B) k1) VR) (by simp)).2.1 (by simp [tc])) i1_r rfl ?_; intro wz17 hw; have N6x := (N5n.out.patch (M := [(T8, DQ), (T4, tz), (w.heap.size, [.int .i64 b, .int .i64 c])]) (c := T6) (D := tc A1 R1 S1 T1 (.slice p1 (i * B + B) k1) VR) 17 [.slice p2 (i * B + B) k2] (by simp) (by simp [tc]) (by have h1 := T8e.out; have h2 := L6.out; have h3 := H4.out; simp; omega)); have N6 : Hid (Mw w ((T6, tc A1 R1 S1 T1 (.slice p1 (i * B + B) k1) (.slice p2 (i * B + B) k2)) :: [(T8, DQ), (T4, tz), (w.heap.size, [.int .i64 b, .int .i64 c])]) _) := hidden N6x; have O2 := hidden (own_setCells O2n.out T6 17 [.slice p2 (i * B + B) k2] (fun e => by have := (O2n.out.lt _ e).1; omega)); have O1 := hidden (own_setCells O1n.out T6 17 [.slice p2 (i * B + B) k2] (fun e => by have := (O1n.out.lt _ e).1; omega)); have DJ := DJn; clear N6x N5n O2n O1n DJn; rw [← hw] at N6 O2 O1; clear hw))
        have FIN := hidden (GOAL.out _ _ _ (N6.out.sub (by intro p hp; simp only [List.mem_cons, List.not_mem_nil, or_false] at hp ⊢; rcases hp with rfl | rfl | rfl <;> simp)) O1.out O2.out DJ.out)
        clear N6 O1 O2 DJ
        go_roundw
        case rel => exact ⟨i + 1, by omega, by go_num, HNX, FIN⟩
        case measure => simp [intOf]; omega
      · have NF : ¬ Fits N q b := fun h => hfit ⟨by rw [← HNL.out]; exact (h i hin).1, by rw [← HNR.out]; exact (h i hin).2⟩
        have MK := hidden (N0.out.sub (M := [(T4, tz)]) (by simp))
        by_cases f1 : (nL : Int) = b
        · have f2 : ¬ (nR : Int) = b := fun h => hfit ⟨f1, h⟩
          have HNF := hidden NF
          clear hfit NF
          go_wp2_with (first | (refine wpList_rtbuild rfl rfl ?_) | (refine wpList_storeL rfl 36 _ _ rfl rfl (T4) 0 tz (by rfl) (by rfl) (MK.out.ther tz (c := T4) (o := tz) (by simp) rfl) rtinfo (tc_one _ _ _ _ _ _ _ _ _ _) ?_; have MF := hidden (MK.out.set (M := []) tz (c := T4) (o := tz) (by simp) rfl (by simp)); clear MK; generalize World.setCells _ (T4) 0 tz = wf at *))
          have LD := hidden (MF.out.var (c := T4) (ds := tz) (by simp) Tryd.underlying36 rfl rtinfo)
          refine bodyPost_ret (v := .tuple #[.agg tz.toArray, .int .i64 2]) (results_tupM Tryd.results7 _ _ _ _ _ _ (by rfl) (by rfl) LD.out) rfl (.inl ⟨HNF.out, rfl, MF.out.bel⟩)
        · have HNF := hidden NF
          clear hfit NF g1
          go_wp2_with (first | (refine wpList_rtbuild rfl rfl ?_) | (refine wpList_storeL rfl 36 _ _ rfl rfl (T4) 0 tz (by rfl) (by rfl) (MK.out.ther tz (c := T4) (o := tz) (by simp) rfl) rtinfo (tc_one _ _ _ _ _ _ _ _ _ _) ?_; have MF := hidden (MK.out.set (M := []) tz (c := T4) (o := tz) (by simp) rfl (by simp)); clear MK; generalize World.setCells _ (T4) 0 tz = wf at *))
          have LD := hidden (MF.out.var (c := T4) (ds := tz) (by simp) Tryd.underlying36 rfl rtinfo)
          refine bodyPost_ret (v := .tuple #[.agg tz.toArray, .int .i64 2]) (results_tupM Tryd.results7 _ _ _ _ _ _ (by rfl) (by rfl) LD.out) rfl (.inl ⟨HNF.out, rfl, MF.out.bel⟩)
    · have hin : N = i := by omega
      subst hin
      have lq : ¬ (N : Int) < (N : Int) := by omega
      have FIT : Hid (Fits N q b) := hidden HFI.out
      obtain ⟨A0, hA0⟩ : ∃ x, sa (fun k => (q k).a) N = x := ⟨_, rfl⟩
      have EA := hidden hA0
      rw [hA0] at ML
      clear hA0
      obtain ⟨R0, hR0⟩ : ∃ x, sa (fun k => (q k).r) N = x := ⟨_, rfl⟩
      have ER := hidden hR0
      rw [hR0] at ML
      clear hR0
      obtain ⟨S0, hS0⟩ : ∃ x, sa (fun k => (q k).s) N = x := ⟨_, rfl⟩
      have ES := hidden hS0
      rw [hS0] at ML
      clear hS0
      obtain ⟨T0, hT0⟩ : ∃ x, sa (fun k => (q k).t) N = x := ⟨_, rfl⟩
      have ET := hidden hT0
      rw [hT0] at ML
      clear hT0
      obtain ⟨p1, k1, rfl, -⟩ := own_shape4 OL.out
      obtain ⟨p2, k2, rfl, -⟩ := own_shape4 OR.out
      have TQL : Hid ((tc A0 R0 S0 T0 (.slice p1 (N * B) k1) (.slice p2 (N * B) k2)).length = 18) := hidden rfl
      have ONQ := hidden (tc_one A0 R0 S0 T0 p1 p2 (N * B) k1 (N * B) k2)
      obtain ⟨DQ, hDQ⟩ : ∃ DQ, tc A0 R0 S0 T0 (.slice p1 (N * B) k1) (.slice p2 (N * B) k2) = DQ := ⟨_, rfl⟩
      have HDQ := hidden hDQ
      rw [hDQ] at TQL ONQ ML
      clear hDQ
      have DI : Hid ((Tryd.prog.info? 36).map (·.size) = some DQ.length) := hidden (by rw [TQL.out]; exact rtinfo)
      have DJ2 : Hid ((Tryd.prog.info? 36).map (·.size) = some DQ.toArray.size) := hidden (by rw [List.size_toArray, TQL.out]; exact rtinfo)
      have NE : Hid (T4 < T6) := hidden (by have := L6.out; have := H4.out; omega)
      go_wp2_with (first | (refine wpList_load_mid rfl 36 _ rfl T6 0 (by rfl) DQ _ (ML.out.r (T6, DQ) (by simp)).1 U36.out rfl DI.out ?_) | (refine wpList_storeL rfl 36 _ _ rfl rfl T4 0 DQ (by rfl) (by rfl) (ML.out.ther DQ (c := T4) (o := tz) (by simp) TQL.out) DJ2.out ONQ.out ?_; have MF := hidden (ML.out.set (M := []) DQ (c := T4) (o := tz) (by simp) TQL.out (by simp)); replace OL := hidden (own_setCells OL.out T4 0 DQ (fun e => by have := (OL.out.lt _ e).1; have := NE.out; omega)); replace OR := hidden (own_setCells OR.out T4 0 DQ (fun e => by have := (OR.out.lt _ e).1; have := NE.out; omega)); clear ML; generalize World.setCells _ T4 0 DQ = wf at *))
      have LD := hidden (MF.out.var (c := T4) (ds := DQ) (by simp) U36.out rfl DI.out)
      have LW : w.heap.size ≤ T6 + 1 := by have := L6.out; have := H4.out; omega
      refine bodyPost_ret (v := .tuple #[.agg DQ.toArray, .int .i64 0]) (results_tupM Tryd.results7 _ _ _ _ _ _ (by rfl) (by rfl) LD.out) rfl (.inr ⟨FIT.out, p1, k1, p2, k2, by rw [EA.out, ER.out, ES.out, ET.out, HDQ.out], own_mono OL.out LW, own_mono OR.out LW, DJ.out, MF.out.bel⟩)
end Go.Proofs.YtbkiobfjabadeaaDoor
