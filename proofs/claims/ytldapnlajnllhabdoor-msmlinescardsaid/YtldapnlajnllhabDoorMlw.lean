import Derived.Test.YtldapnlajnllhabDoorMlg
namespace Go.Proofs.YtldapnlajnllhabDoor
open Go.RowKit


theorem num_range : ∀ (k M : Nat), num ((List.range k).map fun j => ((M / 256 ^ j % 256 : Nat) : Int)) = M % 256 ^ k
  | 0, M => by simp [num, Nat.mod_one]
  | k + 1, M => by
    have ih := num_range k (M / 256)
    rw [List.range_succ_eq_map, List.map_cons, List.map_map, num]
    have e : ((fun j : Nat => ((M / 256 ^ j % 256 : Nat) : Int)) ∘ Nat.succ) = fun j => ((M / 256 / 256 ^ j % 256 : Nat) : Int) := by
      funext j
      show ((M / 256 ^ (j + 1) % 256 : Nat) : Int) = _
      rw [Nat.pow_succ, Nat.mul_comm, ← Nat.div_div_eq_div_mul]
    rw [e, ih, Nat.pow_succ, Nat.mul_comm (256 ^ k), Nat.mod_mul]
    simp
    omega
theorem byt_nat (M j : Nat) : byt (M : Int) j = ((M / 256 ^ j % 256 : Nat) : Int) := by unfold byt; simp
theorem num_bytes (M : Nat) (h : M < 256 ^ 32) : num (bytes (M : Int)) = M := by
  have e : byt (M : Int) = fun j => ((M / 256 ^ j % 256 : Nat) : Int) := by funext j; exact byt_nat M j
  unfold bytes
  rw [e, num_range, Nat.mod_eq_of_lt h]
theorem bytes_bd (m : Int) : ∀ z ∈ bytes m, 0 ≤ z ∧ z ≤ 255 := by
  intro z hz
  obtain ⟨j, _, rfl⟩ := List.mem_map.1 hz
  exact byt_bd m j
theorem zs_byt (zs : List Int) (hz : ∀ z ∈ zs, 0 ≤ z ∧ z ≤ 255) (j : Nat) (v : Value) (h : (zs.map fun z => Value.int .u8 z)[j]? = some v) : v = .int .u8 (byt ((num zs : Nat) : Int) j) := by
  rw [List.getElem?_map] at h
  have hg := num_get zs j hz
  rw [← byt_nat] at hg
  cases hj : zs[j]? with
  | none => rw [hj] at h; cases h
  | some z =>
    rw [hj] at h
    rw [List.getD_eq_getElem?_getD, hj] at hg
    simp at hg h
    rw [← h, hg]
theorem bytes_num (zs : List Int) (lz : zs.length = 32) (hz : ∀ z ∈ zs, 0 ≤ z ∧ z ≤ 255) : bytes (num zs : Int) = zs := by
  apply List.ext_getElem?
  intro j
  by_cases hj : j < 32
  · rw [bytes_get _ _ hj, byt_nat, ← num_get zs j hz, List.getD_eq_getElem?_getD, List.getElem?_eq_getElem (by omega)]
    simp
  · rw [List.getElem?_eq_none (by rw [bytes_len]; omega), List.getElem?_eq_none (by omega)]
theorem num_bytes_L (n : Int) : ((num (bytes (n % Sm.L)) : Nat) : Int) = n % Sm.L := by
  obtain ⟨h0, h1⟩ := mod_bd n
  have h2 := mod_bd4 n
  obtain ⟨M, hM⟩ := Int.eq_ofNat_of_zero_le h0
  rw [hM] at h2 ⊢
  rw [num_bytes M (by simp only [Nat.reducePow]; omega)]

theorem wpList_loadG {P : Program} {ops : Array Oper} {rest : List Oper} {op : Oper} {a : Act} {w : World} {Q : Exit → Act → World → Prop} (hw : Region.wanted op (yielded ops a.tmps) = true) (ty : TypeId) (x : Operand) (ho : op.op = .load ty x)
    (b o : Nat) (hx : a.eval x = .pointer (some ⟨b, o, none⟩)) (cs : List Value) (d : TypeDesc) (hc : w.rangeAt b o cs)
    (hu : P.underlying ty = some d) (hd : d.isRow = true) (hi : (P.info? ty).map (·.size) = some cs.length)
    (h : wpList P ops Q rest (a.put op.dst (.agg cs.toArray)) w) : wpList P ops Q (op :: rest) a w := by
  unfold wpList
  rw [if_pos hw]
  exact Or.inl (wp_load_mid ty x ho b o hx cs d hc hu hd hi h)
theorem wpList_want {P : Program} {ops : Array Oper} {rest : List Oper} {o : Oper} {a : Act} {w : World} {Q : Exit → Act → World → Prop} (hw : Region.wanted o (yielded ops a.tmps) = true) (h : ∀ K : Act → World → Prop, Hid (∀ a w, wpList P ops Q rest a w → K a w) → o.wp P a w K Q) : wpList P ops Q (o :: rest) a w := by
  unfold wpList
  rw [if_pos hw]
  exact Or.inl (h _ (fun _ _ h => h))
/-- what lies where, two new blocks apart -/
structure Mv (w0 : World) (Lb : List (Nat × List Value)) (N : Nat) (bl : List (Nat × List Value)) (w : World) : Prop where
  m : Mw w0 (bl ++ Lb) w
  n : N ≤ w.heap.size
  b : ∀ r ∈ bl, N ≤ r.1
  lb : ∀ r ∈ Lb, r.1 < N
  nd : (bl.map (·.1)).Nodup
theorem Mv.start {w0 : World} {Lb : List (Nat × List Value)} {w : World} (h : Mw w0 Lb w) : Mv w0 Lb w.heap.size [] w := ⟨h, Nat.le_refl _, fun r hr => absurd hr (by simp), fun r hr => (h.r r hr).2.2.2, List.nodup_nil⟩
theorem Mv.s {w0 : World} {Lb : List (Nat × List Value)} {N : Nat} {bl : List (Nat × List Value)} {w : World} (h : Mv w0 Lb N bl w) : Mw w0 Lb w := h.m.sub (fun _ hp => List.mem_append_right _ hp)
theorem Mv.keep {w0 : World} {Lb : List (Nat × List Value)} {N : Nat} {bl : List (Nat × List Value)} {w w' : World} (h : Mv w0 Lb N bl w) (hb : Below w.heap.size w w') : Mv w0 Lb N bl w' := ⟨h.m.keep hb, Nat.le_trans h.n hb.size, h.b, h.lb, h.nd⟩
theorem Mv.new {w0 : World} {Lb : List (Nat × List Value)} {N : Nat} {bl : List (Nat × List Value)} {w : World} (h : Mv w0 Lb N bl w) (cs : List Value) (t : TypeId) : Mv w0 Lb N ((w.heap.size, cs) :: bl) (w.alloc (.cells cs.toArray t)) := by
  refine ⟨h.m.new cs t, ?_, fun r hr => ?_, h.lb, ?_⟩
  · have := h.n
    simp
    omega
  · rcases List.mem_cons.1 hr with rfl | hr
    · exact h.n
    · exact h.b r hr
  · simp only [List.map_cons, List.nodup_cons]
    refine ⟨fun hm => ?_, h.nd⟩
    obtain ⟨r, hr, e⟩ := List.mem_map.1 hm
    have := (h.m.r r (List.mem_append_left _ hr)).2.2.2
    omega
theorem Mv.set0 {w0 : World} {Lb : List (Nat × List Value)} {N c : Nat} {o : List Value} {y : Nat × List Value} {w : World} (h : Mv w0 Lb N [(c, o), y] w) (ds : List Value) (hl : ds.length = o.length) : Mv w0 Lb N [(c, ds), y] (w.setCells c 0 ds) := by
  have nd := h.nd
  simp at nd
  refine ⟨h.m.set (M := y :: Lb) ds (by simp) hl (fun p hp => ?_), by rw [size_setCellsM]; exact h.n, fun r hr => ?_, h.lb, by simpa using nd⟩
  · refine ⟨by simp only [List.cons_append, List.nil_append]; exact .tail _ hp, ?_⟩
    rcases List.mem_cons.1 hp with rfl | hp
    · exact nd
    · have := h.lb p hp
      have := h.b (c, o) (by simp)
      simp only at this
      omega
  · rcases List.mem_cons.1 hr with rfl | hr
    · exact h.b (c, o) (by simp)
    · exact h.b r (by simp at hr; simp [hr])
theorem Mv.swap {w0 : World} {Lb : List (Nat × List Value)} {N : Nat} {x y : Nat × List Value} {w : World} (h : Mv w0 Lb N [x, y] w) : Mv w0 Lb N [y, x] w := by
  have nd := h.nd
  simp at nd
  refine ⟨h.m.sub (fun p hp => ?_), h.n, fun r hr => h.b r (by simp at hr ⊢; exact hr.symm), h.lb, by simp; exact fun e => nd e.symm⟩
  simp only [List.cons_append, List.nil_append] at hp ⊢
  rcases List.mem_cons.1 hp with rfl | hp
  · exact .tail _ (.head _)
  · rcases List.mem_cons.1 hp with rfl | hp
    · exact .head _
    · exact .tail _ (.tail _ hp)
theorem Mv.ther {w0 : World} {Lb : List (Nat × List Value)} {N c : Nat} {o : List Value} {y : Nat × List Value} {w : World} (h : Mv w0 Lb N [(c, o), y] w) (ds : List Value) (hl : ds.length = o.length) : w.there c 0 ds.toArray.size := h.m.ther ds (.head _) hl
theorem Mv.ne {w0 : World} {Lb : List (Nat × List Value)} {N : Nat} {x y : Nat × List Value} {w : World} (h : Mv w0 Lb N [x, y] w) : y.1 ≠ x.1 := by
  have nd := h.nd
  simp at nd
  exact fun e => nd e.symm
theorem z26_len : z26.length = 26 := rfl
theorem Mw.newset {w0 : World} {L : List (Nat × List Value)} {w : World} (h : Mw w0 L w) (z ds : List Value) (t : TypeId) (hl : ds.length = z.length) : Mw w0 ((w.heap.size, ds) :: L) ((w.alloc (.cells z.toArray t)).setCells w.heap.size 0 ds) :=
  (h.new z t).set (M := L) ds (.head _) hl (fun p hp => ⟨.tail _ hp, fun e => by have := (h.r p hp).2.2.2; omega⟩)
set_option maxRecDepth 100000 in
set_option maxHeartbeats 64000000 in
theorem lines_any (a b k : E4) (zs : List Int) (w : World) (hT : Tb w) (ha : a.ok) (hb : b.ok) (hk : k.ok) (lz : zs.length = 32) (hz : ∀ z ∈ zs, 0 ≤ z ∧ z ≤ 255) :
    Calls Tryd.prog 3 #[a.v, b.v, k.v, bv zs] w fun e w' => e = .returned (.bool true) ∧ Below w.heap.size w w' := by
  have TB := hidden (fun w' (h : Below w.heap.size w w') => hT.keep h)
  obtain ⟨B, hB⟩ : ∃ B, decide ((num zs : Int) < Sm.L) = B := ⟨_, rfl⟩
  have mb := mod_bd a.n
  have nb := num_bytes_L a.n
  have LD2 := hidden (fun w' h => lDecode_any b (bytes (a.n % Sm.L)) w' (TB.out w' h) (bytes_len _) (bytes_bd _) true (decide_eq_true (by rw [nb]; exact mb.2)))
  have lq : limE (a.n % Sm.L) = lst a.n := by
    rw [limE_lst _ mb.1 mb.2]
    exact lst_congr (emod_emod_L _)
  rw [nb, cond_true, cond_true, lq] at LD2
  have OA := hidden (fun w' => ofLine_any a ha w')
  have OB := hidden (fun w' => ofLine_any b hb w')
  have AD := hidden (fun w' h => lAdd_any a b ha hb w' (TB.out w' h))
  have EA := hidden (fun w' => eAdd_any a.n b.n w')
  have NG := hidden (fun w' h => lNeg_any a ha w' (TB.out w' h))
  have EN := hidden (fun w' => eNeg_any a.n w')
  have DB := hidden (fun w' h => lDouble_any a ha w' (TB.out w' h))
  have ED := hidden (fun w' => eDouble_any a.n w')
  have TI := hidden (fun w' h => lTimes_any a k ha hk w' (TB.out w' h))
  have NU := hidden (fun w' => num_any k hk w')
  have ET := hidden (fun w' => eTimes_any a.n k.n w')
  have SM := hidden (fun w' h => lSame_any a b ha hb w' (TB.out w' h))
  have ES := hidden (fun w' => eSame_any (lst a.n) (lst b.n) w')
  have NC := hidden (fun w' h => lEncode_any a ha w' (TB.out w' h))
  have EC := hidden (fun w' => eEncode_any a.n w')
  have LD := hidden (fun w' h => lDecode_any a zs w' (TB.out w' h) lz hz B hB)
  have EDc := hidden (fun w' => eDecode_any zs w' lz hz B hB)
  have SM2 := hidden (fun w' h => lSame_any (lst a.n) a (lst_ok _) ha w' (TB.out w' h))
  rw [lst_n', E4.same_self] at SM2
  have LI : Hid (∀ (z : E4) w', Calls Tryd.prog 5 #[z.v, .agg (el z).toArray] w' fun e w'' => e = .returned (.bool true) ∧ Below w'.heap.size w' w'') := hidden (fun z w' => by have := lineIs_any z z w'; rwa [E4.same_self] at this)
  have EQ : ∀ w, (Op.equalIn 10000 26 (.agg ((bytes (a.n % Sm.L)).map fun z => Value.int .u8 z).toArray) (.agg ((bytes (a.n % Sm.L)).map fun z => Value.int .u8 z).toArray)).run Tryd.prog w = .ok true w := fun w => by rw [eq32 _ _ w (bytes_len _) (bytes_len _)]; simp
  have IB := hidden (bz_i lz)
  unfold bv at LD EDc LD2 ⊢
  generalize cond B (limE (num zs)) zero4 = q at LD EDc
  generalize (cond B 0 3 : Int) = er at LD EDc
  generalize (zs.map fun z => Value.int .u8 z) = cs at *
  generalize ((bytes (a.n % Sm.L)).map fun z => Value.int .u8 z) = bs at *
  generalize (lst a.n).same (lst b.n) = Bs at *
  generalize lst (a.n + b.n) = s1 at *
  generalize lst (-a.n) = s2 at *
  generalize lst (a.n + a.n) = s3 at *
  generalize lst (a.n * k.n) = s4 at *
  generalize lst k.n = lk at *
  generalize lst b.n = lb at *
  generalize lst a.n = la at *
  clear lq mb nb hz lz hB hT
  simp only [E4.v] at LD2 AD NG DB TI NU ET SM NC LD SM2 LI OA OB ⊢
  have IA := hidden (s4_i a)
  have IBb := hidden (s4_i b)
  have IK := hidden (s4_i k)
  have JA := hidden (l4_i a)
  have JB := hidden (l4_i b)
  have OCa := hidden (c4_one a)
  have OCb := hidden (c4_one b)
  have M0 := ((((Mw.start w).new [.int .u64 a.x0, .int .u64 a.x1, .int .u64 a.x2, .int .u64 a.x3] 24).new [.int .u64 b.x0, .int .u64 b.x1, .int .u64 b.x2, .int .u64 b.x3] 24).new [.int .u64 k.x0, .int .u64 k.x1, .int .u64 k.x2, .int .u64 k.x3] 24).new cs 26
  simp only [World.size_alloc] at M0
  have MM := hidden (M0.keep ((Below.refl _ _).drew))
  clear M0
  go_enter Tryd.func3, Tryd.ntmps3
  go_upto_region 1 with fail

  go_cut [9, 10] (fun vx vy wx => ∃ X Y : Nat, vx = .pointer (some ⟨X, 0, none⟩) ∧ vy = .pointer (some ⟨Y, 0, none⟩) ∧ X ≠ Y ∧ Mw w [(Y, [.int .u64 b.x0, .int .u64 b.x1, .int .u64 b.x2, .int .u64 b.x3]), (X, [.int .u64 a.x0, .int .u64 a.x1, .int .u64 a.x2, .int .u64 a.x3]), (w.heap.size + 1 + 1 + 1, cs), (w.heap.size + 1 + 1, [.int .u64 k.x0, .int .u64 k.x1, .int .u64 k.x2, .int .u64 k.x3]), (w.heap.size + 1, [.int .u64 b.x0, .int .u64 b.x1, .int .u64 b.x2, .int .u64 b.x3]), (w.heap.size, [.int .u64 a.x0, .int .u64 a.x1, .int .u64 a.x2, .int .u64 a.x3])] wx)
  case first =>
    have OW := MM
    refine wp_region_held_drew (S := Mw w [(w.heap.size + 1 + 1 + 1, cs), (w.heap.size + 1 + 1, [.int .u64 k.x0, .int .u64 k.x1, .int .u64 k.x2, .int .u64 k.x3]), (w.heap.size + 1, [.int .u64 b.x0, .int .u64 b.x1, .int .u64 b.x2, .int .u64 b.x3]), (w.heap.size, [.int .u64 a.x0, .int .u64 a.x1, .int .u64 a.x2, .int .u64 a.x3])]) (by kernel_rfl) OW.out (fun hHeld => ?_)
    generalize World.drew _ = ww at OW hHeld ⊢
    have O0 := hidden (Mv.start OW.out)
    generalize ww.heap.size = NN at O0
    clear OW
    refine wpAnyH_take (i := 0) (oi := _) (v := _) rfl (by kernel_rfl) (by kernel_rfl) (by kernel_rfl) (fun _ _ _ h => h) (yieldsIf_load_mid (by rfl) _ _ rfl _ _ rfl _ _ (fun _ h => (h.r (w.heap.size, [.int .u64 a.x0, .int .u64 a.x1, .int .u64 a.x2, .int .u64 a.x3]) (by simp)).1) Tryd.underlying24 rfl IA.out) hHeld ?_
    refine wpAnyH_take (i := 2) (oi := _) (v := _) rfl (by kernel_rfl) (by kernel_rfl) (by kernel_rfl) (fun _ _ _ h => h) (yieldsIf_load_mid (by rfl) _ _ rfl _ _ rfl _ _ (fun _ h => (h.r (w.heap.size + 1, [.int .u64 b.x0, .int .u64 b.x1, .int .u64 b.x2, .int .u64 b.x3]) (by simp)).1) Tryd.underlying24 rfl IBb.out) hHeld ?_
    refine wpAnyH_take (i := 1) (oi := _) (v := ?_) rfl (by kernel_rfl) (by kernel_rfl) (by kernel_rfl) (fun _ _ _ h => h) (Or.inl ⟨by rfl, ?_⟩) hHeld ?_
    rotate_left 1
    · (intro w0 hSw; clear hSw; go_simp; try with_reducible rfl)
    refine wpAnyH_take (i := 3) (oi := _) (v := ?_) rfl (by kernel_rfl) (by kernel_rfl) (by kernel_rfl) (fun _ _ _ h => h) (Or.inl ⟨by rfl, ?_⟩) hHeld ?_
    rotate_left 1
    · (intro w0 hSw; clear hSw; go_simp; try with_reducible rfl)
    refine wpAnyH_ready (rs := [4, 5]) (by kernel_rfl) (by simp) ?_
    refine AllReadyH.cons (o := _) rfl (fun K hK => ?_) ?_
    · have O1 : Hid (Mv w [(w.heap.size + 1 + 1 + 1, cs), (w.heap.size + 1 + 1, [.int .u64 k.x0, .int .u64 k.x1, .int .u64 k.x2, .int .u64 k.x3]), (w.heap.size + 1, [.int .u64 b.x0, .int .u64 b.x1, .int .u64 b.x2, .int .u64 b.x3]), (w.heap.size, [.int .u64 a.x0, .int .u64 a.x1, .int .u64 a.x2, .int .u64 a.x3])] NN ((ww.heap.size, [.int .u64 0, .int .u64 0, .int .u64 0, .int .u64 0]) :: []) (ww.alloc (.cells #[.int .u64 0, .int .u64 0, .int .u64 0, .int .u64 0] 28))) := hidden (O0.out.new [.int .u64 0, .int .u64 0, .int .u64 0, .int .u64 0] 28)
      go_simp
      refine hK.out _ _ O1.out.s (fun hHeld2 => ?_)
      clear hK K hHeld O0
      have hHeld := hHeld2
      clear hHeld2
      generalize ww.alloc (.cells #[.int .u64 0, .int .u64 0, .int .u64 0, .int .u64 0] 28) = v1 at O1 hHeld ⊢
      generalize ww.heap.size = B1 at O1 ⊢
      refine wpAnyH_ready (rs := [5]) (by kernel_rfl) (by simp) ?_
      refine AllReadyH.cons (o := _) rfl (fun K hK => ?_) AllReadyH.nil
      · have O2 : Hid (Mv w [(w.heap.size + 1 + 1 + 1, cs), (w.heap.size + 1 + 1, [.int .u64 k.x0, .int .u64 k.x1, .int .u64 k.x2, .int .u64 k.x3]), (w.heap.size + 1, [.int .u64 b.x0, .int .u64 b.x1, .int .u64 b.x2, .int .u64 b.x3]), (w.heap.size, [.int .u64 a.x0, .int .u64 a.x1, .int .u64 a.x2, .int .u64 a.x3])] NN ((v1.heap.size, [.int .u64 0, .int .u64 0, .int .u64 0, .int .u64 0]) :: [(B1, [.int .u64 0, .int .u64 0, .int .u64 0, .int .u64 0])]) (v1.alloc (.cells #[.int .u64 0, .int .u64 0, .int .u64 0, .int .u64 0] 28))) := hidden (O1.out.new [.int .u64 0, .int .u64 0, .int .u64 0, .int .u64 0] 28)
        go_simp
        refine hK.out _ _ O2.out.s (fun hHeld2 => ?_)
        clear hK K hHeld O1
        have hHeld := hHeld2
        clear hHeld2
        generalize v1.alloc (.cells #[.int .u64 0, .int .u64 0, .int .u64 0, .int .u64 0] 28) = v2 at O2 hHeld ⊢
        generalize v1.heap.size = B2 at O2 ⊢
        replace O2 := hidden O2.out.swap
        have TH := O2.out.ther ([.int .u64 a.x0, .int .u64 a.x1, .int .u64 a.x2, .int .u64 a.x3]) rfl
        replace O2 := hidden (O2.out.set0 ([.int .u64 a.x0, .int .u64 a.x1, .int .u64 a.x2, .int .u64 a.x3]) rfl)
        refine wpAnyH_ready (rs := [6]) (by kernel_rfl) (by simp) ?_
        refine AllReadyH.cons (o := _) rfl (fun K hK => ?_) AllReadyH.nil
        rw [if_pos (by rfl)]
        refine wp_store_mid _ _ _ rfl _ _ (List.toArray ([.int .u64 a.x0, .int .u64 a.x1, .int .u64 a.x2, .int .u64 a.x3])) rfl rfl TH JA.out OCa.out ?_
        refine hK.out _ _ O2.out.s (fun hHeld2 => ?_)
        clear hK K hHeld TH
        have hHeld := hHeld2
        clear hHeld2
        replace O2 := hidden O2.out.swap
        have TH := O2.out.ther ([.int .u64 b.x0, .int .u64 b.x1, .int .u64 b.x2, .int .u64 b.x3]) rfl
        replace O2 := hidden (O2.out.set0 ([.int .u64 b.x0, .int .u64 b.x1, .int .u64 b.x2, .int .u64 b.x3]) rfl)
        refine wpAnyH_ready (rs := [7]) (by kernel_rfl) (by simp) ?_
        refine AllReadyH.cons (o := _) rfl (fun K hK => ?_) AllReadyH.nil
        rw [if_pos (by rfl)]
        refine wp_store_mid _ _ _ rfl _ _ (List.toArray ([.int .u64 b.x0, .int .u64 b.x1, .int .u64 b.x2, .int .u64 b.x3])) rfl rfl TH JB.out OCb.out ?_
        refine hK.out _ _ O2.out.s (fun hHeld2 => ?_)
        clear hK K hHeld TH
        have hHeld := hHeld2
        clear hHeld2
        refine wpAnyH_done (by kernel_rfl) ?_ _
        go_wp2_with fail
        go_meet
        exact ⟨B1, B2, rfl, rfl, O2.out.ne, O2.out.m⟩
    refine AllReadyH.cons (o := _) rfl (fun K hK => ?_) AllReadyH.nil
    · have O3 : Hid (Mv w [(w.heap.size + 1 + 1 + 1, cs), (w.heap.size + 1 + 1, [.int .u64 k.x0, .int .u64 k.x1, .int .u64 k.x2, .int .u64 k.x3]), (w.heap.size + 1, [.int .u64 b.x0, .int .u64 b.x1, .int .u64 b.x2, .int .u64 b.x3]), (w.heap.size, [.int .u64 a.x0, .int .u64 a.x1, .int .u64 a.x2, .int .u64 a.x3])] NN ((ww.heap.size, [.int .u64 0, .int .u64 0, .int .u64 0, .int .u64 0]) :: []) (ww.alloc (.cells #[.int .u64 0, .int .u64 0, .int .u64 0, .int .u64 0] 28))) := hidden (O0.out.new [.int .u64 0, .int .u64 0, .int .u64 0, .int .u64 0] 28)
      go_simp
      refine hK.out _ _ O3.out.s (fun hHeld2 => ?_)
      clear hK K hHeld O0
      have hHeld := hHeld2
      clear hHeld2
      generalize ww.alloc (.cells #[.int .u64 0, .int .u64 0, .int .u64 0, .int .u64 0] 28) = v3 at O3 hHeld ⊢
      generalize ww.heap.size = B3 at O3 ⊢
      refine wpAnyH_ready (rs := [4]) (by kernel_rfl) (by simp) ?_
      refine AllReadyH.cons (o := _) rfl (fun K hK => ?_) AllReadyH.nil
      · have O4 : Hid (Mv w [(w.heap.size + 1 + 1 + 1, cs), (w.heap.size + 1 + 1, [.int .u64 k.x0, .int .u64 k.x1, .int .u64 k.x2, .int .u64 k.x3]), (w.heap.size + 1, [.int .u64 b.x0, .int .u64 b.x1, .int .u64 b.x2, .int .u64 b.x3]), (w.heap.size, [.int .u64 a.x0, .int .u64 a.x1, .int .u64 a.x2, .int .u64 a.x3])] NN ((v3.heap.size, [.int .u64 0, .int .u64 0, .int .u64 0, .int .u64 0]) :: [(B3, [.int .u64 0, .int .u64 0, .int .u64 0, .int .u64 0])]) (v3.alloc (.cells #[.int .u64 0, .int .u64 0, .int .u64 0, .int .u64 0] 28))) := hidden (O3.out.new [.int .u64 0, .int .u64 0, .int .u64 0, .int .u64 0] 28)
        go_simp
        refine hK.out _ _ O4.out.s (fun hHeld2 => ?_)
        clear hK K hHeld O3
        have hHeld := hHeld2
        clear hHeld2
        generalize v3.alloc (.cells #[.int .u64 0, .int .u64 0, .int .u64 0, .int .u64 0] 28) = v4 at O4 hHeld ⊢
        generalize v3.heap.size = B4 at O4 ⊢
        have TH := O4.out.ther ([.int .u64 a.x0, .int .u64 a.x1, .int .u64 a.x2, .int .u64 a.x3]) rfl
        replace O4 := hidden (O4.out.set0 ([.int .u64 a.x0, .int .u64 a.x1, .int .u64 a.x2, .int .u64 a.x3]) rfl)
        refine wpAnyH_ready (rs := [6]) (by kernel_rfl) (by simp) ?_
        refine AllReadyH.cons (o := _) rfl (fun K hK => ?_) AllReadyH.nil
        rw [if_pos (by rfl)]
        refine wp_store_mid _ _ _ rfl _ _ (List.toArray ([.int .u64 a.x0, .int .u64 a.x1, .int .u64 a.x2, .int .u64 a.x3])) rfl rfl TH JA.out OCa.out ?_
        refine hK.out _ _ O4.out.s (fun hHeld2 => ?_)
        clear hK K hHeld TH
        have hHeld := hHeld2
        clear hHeld2
        replace O4 := hidden O4.out.swap
        have TH := O4.out.ther ([.int .u64 b.x0, .int .u64 b.x1, .int .u64 b.x2, .int .u64 b.x3]) rfl
        replace O4 := hidden (O4.out.set0 ([.int .u64 b.x0, .int .u64 b.x1, .int .u64 b.x2, .int .u64 b.x3]) rfl)
        refine wpAnyH_ready (rs := [7]) (by kernel_rfl) (by simp) ?_
        refine AllReadyH.cons (o := _) rfl (fun K hK => ?_) AllReadyH.nil
        rw [if_pos (by rfl)]
        refine wp_store_mid _ _ _ rfl _ _ (List.toArray ([.int .u64 b.x0, .int .u64 b.x1, .int .u64 b.x2, .int .u64 b.x3])) rfl rfl TH JB.out OCb.out ?_
        refine hK.out _ _ O4.out.s (fun hHeld2 => ?_)
        clear hK K hHeld TH
        have hHeld := hHeld2
        clear hHeld2
        refine wpAnyH_done (by kernel_rfl) ?_ _
        go_wp2_with fail
        go_meet
        exact ⟨B4, B3, rfl, rfl, O4.out.ne, O4.out.m⟩
  case rest =>
  obtain ⟨X, Y, rfl, rfl, hXY, xw⟩ := hcut
  replace MM := hidden xw
  clear xw
  generalize wc = w1 at *
  go_upto_region 2 with fail
  have IEa := hidden (el_i la)
  have IEb := hidden (el_i lb)
  have OEa := hidden (el_one la)
  have OEb := hidden (el_one lb)
  have LEa := hidden (el_len la)
  have LEb := hidden (el_len lb)
  clear IA IBb OCa OCb
  generalize el la = ea at OA EA EN ED ET ES EC IEa OEa LEa
  generalize el lb = eb at OB EA ES IEb OEb LEb
  go_cut [11, 12] (fun vx vy wx => ∃ G H : Nat, vx = .pointer (some ⟨G, 0, none⟩) ∧ vy = .pointer (some ⟨H, 0, none⟩) ∧ G ≠ H ∧ Mw w [(H, eb), (G, ea), (Y, [.int .u64 b.x0, .int .u64 b.x1, .int .u64 b.x2, .int .u64 b.x3]), (X, [.int .u64 a.x0, .int .u64 a.x1, .int .u64 a.x2, .int .u64 a.x3]), (w.heap.size + 1 + 1 + 1, cs), (w.heap.size + 1 + 1, [.int .u64 k.x0, .int .u64 k.x1, .int .u64 k.x2, .int .u64 k.x3]), (w.heap.size + 1, [.int .u64 b.x0, .int .u64 b.x1, .int .u64 b.x2, .int .u64 b.x3]), (w.heap.size, [.int .u64 a.x0, .int .u64 a.x1, .int .u64 a.x2, .int .u64 a.x3])] wx)
  case first =>
    have OW := hidden (MM.out.keep ((Below.refl _ _).drew))
    refine wp_region_held_drew (S := Mw w [(Y, [.int .u64 b.x0, .int .u64 b.x1, .int .u64 b.x2, .int .u64 b.x3]), (X, [.int .u64 a.x0, .int .u64 a.x1, .int .u64 a.x2, .int .u64 a.x3]), (w.heap.size + 1 + 1 + 1, cs), (w.heap.size + 1 + 1, [.int .u64 k.x0, .int .u64 k.x1, .int .u64 k.x2, .int .u64 k.x3]), (w.heap.size + 1, [.int .u64 b.x0, .int .u64 b.x1, .int .u64 b.x2, .int .u64 b.x3]), (w.heap.size, [.int .u64 a.x0, .int .u64 a.x1, .int .u64 a.x2, .int .u64 a.x3])]) (by kernel_rfl) OW.out (fun hHeld => ?_)
    generalize World.drew _ = ww at OW hHeld ⊢
    have O0 := hidden (Mv.start OW.out)
    generalize ww.heap.size = NN at O0
    clear OW
    refine wpAnyH_take (i := 0) (oi := _) (v := _) rfl (by kernel_rfl) (by kernel_rfl) (by kernel_rfl) (fun _ _ _ h => h) (yieldsIf_load_mid (by rfl) _ _ rfl _ _ rfl _ _ (fun _ h => (h.r (X, [.int .u64 a.x0, .int .u64 a.x1, .int .u64 a.x2, .int .u64 a.x3]) (by simp)).1) Tryd.underlying28 rfl JA.out) hHeld ?_
    refine wpAnyH_take (i := 2) (oi := _) (v := _) rfl (by kernel_rfl) (by kernel_rfl) (by kernel_rfl) (fun _ _ _ h => h) (yieldsIf_load_mid (by rfl) _ _ rfl _ _ rfl _ _ (fun _ h => (h.r (Y, [.int .u64 b.x0, .int .u64 b.x1, .int .u64 b.x2, .int .u64 b.x3]) (by simp)).1) Tryd.underlying28 rfl JB.out) hHeld ?_
    refine wpAnyH_ready (rs := [1, 4, 5]) (by kernel_rfl) (by simp) ?_
    refine AllReadyH.cons (o := _) rfl (fun K hK => ?_) ?_
    · go_simp
      refine (OA.out _).mono ?_
      rintro e u1 ⟨rfl, hb1⟩
      have O1 := hidden (O0.out.keep hb1)
      go_wp2_with fail
      refine hK.out _ _ O1.out.s (fun hHeld2 => ?_)
      clear hK K hHeld O0 hb1
      have hHeld := hHeld2
      clear hHeld2
      refine wpAnyH_ready (rs := [3, 4, 5]) (by kernel_rfl) (by simp) ?_
      refine AllReadyH.cons (o := _) rfl (fun K hK => ?_) ?_
      · go_simp
        refine (OB.out _).mono ?_
        rintro e u2 ⟨rfl, hb2⟩
        have O2 := hidden (O1.out.keep hb2)
        go_wp2_with fail
        refine hK.out _ _ O2.out.s (fun hHeld2 => ?_)
        clear hK K hHeld O1 hb2
        have hHeld := hHeld2
        clear hHeld2
        refine wpAnyH_ready (rs := [4, 5]) (by kernel_rfl) (by simp) ?_
        refine AllReadyH.cons (o := _) rfl (fun K hK => ?_) ?_
        · have O3 : Hid (Mv w [(Y, [.int .u64 b.x0, .int .u64 b.x1, .int .u64 b.x2, .int .u64 b.x3]), (X, [.int .u64 a.x0, .int .u64 a.x1, .int .u64 a.x2, .int .u64 a.x3]), (w.heap.size + 1 + 1 + 1, cs), (w.heap.size + 1 + 1, [.int .u64 k.x0, .int .u64 k.x1, .int .u64 k.x2, .int .u64 k.x3]), (w.heap.size + 1, [.int .u64 b.x0, .int .u64 b.x1, .int .u64 b.x2, .int .u64 b.x3]), (w.heap.size, [.int .u64 a.x0, .int .u64 a.x1, .int .u64 a.x2, .int .u64 a.x3])] NN ((u2.heap.size, z26) :: []) (u2.alloc (.cells #[.int .i64 0, .int .i64 0, .int .i64 0, .int .i64 0, .int .i64 0, .int .i64 0, .int .i64 0, .int .i64 0, .int .i64 0, .int .i64 0, .int .i64 0, .int .i64 0, .int .i64 0, .int .i64 0, .int .i64 0, .int .i64 0, .int .i64 0, .int .i64 0, .int .i64 0, .int .i64 0, .int .i64 0, .int .u64 0, .int .u64 0, .int .u64 0, .int .u64 0, .slice none 0 0] 38))) := hidden (O2.out.new z26 38)
          go_simp
          refine hK.out _ _ O3.out.s (fun hHeld2 => ?_)
          clear hK K hHeld O2
          have hHeld := hHeld2
          clear hHeld2
          generalize u2.alloc (.cells #[.int .i64 0, .int .i64 0, .int .i64 0, .int .i64 0, .int .i64 0, .int .i64 0, .int .i64 0, .int .i64 0, .int .i64 0, .int .i64 0, .int .i64 0, .int .i64 0, .int .i64 0, .int .i64 0, .int .i64 0, .int .i64 0, .int .i64 0, .int .i64 0, .int .i64 0, .int .i64 0, .int .i64 0, .int .u64 0, .int .u64 0, .int .u64 0, .int .u64 0, .slice none 0 0] 38) = v3 at O3 hHeld ⊢
          generalize u2.heap.size = B3 at O3 ⊢
          refine wpAnyH_ready (rs := [5]) (by kernel_rfl) (by simp) ?_
          refine AllReadyH.cons (o := _) rfl (fun K hK => ?_) AllReadyH.nil
          · have O4 : Hid (Mv w [(Y, [.int .u64 b.x0, .int .u64 b.x1, .int .u64 b.x2, .int .u64 b.x3]), (X, [.int .u64 a.x0, .int .u64 a.x1, .int .u64 a.x2, .int .u64 a.x3]), (w.heap.size + 1 + 1 + 1, cs), (w.heap.size + 1 + 1, [.int .u64 k.x0, .int .u64 k.x1, .int .u64 k.x2, .int .u64 k.x3]), (w.heap.size + 1, [.int .u64 b.x0, .int .u64 b.x1, .int .u64 b.x2, .int .u64 b.x3]), (w.heap.size, [.int .u64 a.x0, .int .u64 a.x1, .int .u64 a.x2, .int .u64 a.x3])] NN ((v3.heap.size, z26) :: [(B3, z26)]) (v3.alloc (.cells #[.int .i64 0, .int .i64 0, .int .i64 0, .int .i64 0, .int .i64 0, .int .i64 0, .int .i64 0, .int .i64 0, .int .i64 0, .int .i64 0, .int .i64 0, .int .i64 0, .int .i64 0, .int .i64 0, .int .i64 0, .int .i64 0, .int .i64 0, .int .i64 0, .int .i64 0, .int .i64 0, .int .i64 0, .int .u64 0, .int .u64 0, .int .u64 0, .int .u64 0, .slice none 0 0] 38))) := hidden (O3.out.new z26 38)
            go_simp
            refine hK.out _ _ O4.out.s (fun hHeld2 => ?_)
            clear hK K hHeld O3
            have hHeld := hHeld2
            clear hHeld2
            generalize v3.alloc (.cells #[.int .i64 0, .int .i64 0, .int .i64 0, .int .i64 0, .int .i64 0, .int .i64 0, .int .i64 0, .int .i64 0, .int .i64 0, .int .i64 0, .int .i64 0, .int .i64 0, .int .i64 0, .int .i64 0, .int .i64 0, .int .i64 0, .int .i64 0, .int .i64 0, .int .i64 0, .int .i64 0, .int .i64 0, .int .u64 0, .int .u64 0, .int .u64 0, .int .u64 0, .slice none 0 0] 38) = v4 at O4 hHeld ⊢
            generalize v3.heap.size = B4 at O4 ⊢
            replace O4 := hidden O4.out.swap
            have TH := O4.out.ther (ea) (LEa.out.trans z26_len.symm)
            replace O4 := hidden (O4.out.set0 (ea) (LEa.out.trans z26_len.symm))
            refine wpAnyH_ready (rs := [6]) (by kernel_rfl) (by simp) ?_
            refine AllReadyH.cons (o := _) rfl (fun K hK => ?_) AllReadyH.nil
            rw [if_pos (by rfl)]
            refine wp_store_mid _ _ _ rfl _ _ (List.toArray (ea)) rfl rfl TH IEa.out OEa.out ?_
            refine hK.out _ _ O4.out.s (fun hHeld2 => ?_)
            clear hK K hHeld TH
            have hHeld := hHeld2
            clear hHeld2
            replace O4 := hidden O4.out.swap
            have TH := O4.out.ther (eb) (LEb.out.trans z26_len.symm)
            replace O4 := hidden (O4.out.set0 (eb) (LEb.out.trans z26_len.symm))
            refine wpAnyH_ready (rs := [7]) (by kernel_rfl) (by simp) ?_
            refine AllReadyH.cons (o := _) rfl (fun K hK => ?_) AllReadyH.nil
            rw [if_pos (by rfl)]
            refine wp_store_mid _ _ _ rfl _ _ (List.toArray (eb)) rfl rfl TH IEb.out OEb.out ?_
            refine hK.out _ _ O4.out.s (fun hHeld2 => ?_)
            clear hK K hHeld TH
            have hHeld := hHeld2
            clear hHeld2
            refine wpAnyH_done (by kernel_rfl) ?_ _
            go_wp2_with fail
            go_meet
            exact ⟨B3, B4, rfl, rfl, O4.out.ne, O4.out.m⟩
        refine AllReadyH.cons (o := _) rfl (fun K hK => ?_) AllReadyH.nil
        · have O5 : Hid (Mv w [(Y, [.int .u64 b.x0, .int .u64 b.x1, .int .u64 b.x2, .int .u64 b.x3]), (X, [.int .u64 a.x0, .int .u64 a.x1, .int .u64 a.x2, .int .u64 a.x3]), (w.heap.size + 1 + 1 + 1, cs), (w.heap.size + 1 + 1, [.int .u64 k.x0, .int .u64 k.x1, .int .u64 k.x2, .int .u64 k.x3]), (w.heap.size + 1, [.int .u64 b.x0, .int .u64 b.x1, .int .u64 b.x2, .int .u64 b.x3]), (w.heap.size, [.int .u64 a.x0, .int .u64 a.x1, .int .u64 a.x2, .int .u64 a.x3])] NN ((u2.heap.size, z26) :: []) (u2.alloc (.cells #[.int .i64 0, .int .i64 0, .int .i64 0, .int .i64 0, .int .i64 0, .int .i64 0, .int .i64 0, .int .i64 0, .int .i64 0, .int .i64 0, .int .i64 0, .int .i64 0, .int .i64 0, .int .i64 0, .int .i64 0, .int .i64 0, .int .i64 0, .int .i64 0, .int .i64 0, .int .i64 0, .int .i64 0, .int .u64 0, .int .u64 0, .int .u64 0, .int .u64 0, .slice none 0 0] 38))) := hidden (O2.out.new z26 38)
          go_simp
          refine hK.out _ _ O5.out.s (fun hHeld2 => ?_)
          clear hK K hHeld O2
          have hHeld := hHeld2
          clear hHeld2
          generalize u2.alloc (.cells #[.int .i64 0, .int .i64 0, .int .i64 0, .int .i64 0, .int .i64 0, .int .i64 0, .int .i64 0, .int .i64 0, .int .i64 0, .int .i64 0, .int .i64 0, .int .i64 0, .int .i64 0, .int .i64 0, .int .i64 0, .int .i64 0, .int .i64 0, .int .i64 0, .int .i64 0, .int .i64 0, .int .i64 0, .int .u64 0, .int .u64 0, .int .u64 0, .int .u64 0, .slice none 0 0] 38) = v5 at O5 hHeld ⊢
          generalize u2.heap.size = B5 at O5 ⊢
          refine wpAnyH_ready (rs := [4]) (by kernel_rfl) (by simp) ?_
          refine AllReadyH.cons (o := _) rfl (fun K hK => ?_) AllReadyH.nil
          · have O6 : Hid (Mv w [(Y, [.int .u64 b.x0, .int .u64 b.x1, .int .u64 b.x2, .int .u64 b.x3]), (X, [.int .u64 a.x0, .int .u64 a.x1, .int .u64 a.x2, .int .u64 a.x3]), (w.heap.size + 1 + 1 + 1, cs), (w.heap.size + 1 + 1, [.int .u64 k.x0, .int .u64 k.x1, .int .u64 k.x2, .int .u64 k.x3]), (w.heap.size + 1, [.int .u64 b.x0, .int .u64 b.x1, .int .u64 b.x2, .int .u64 b.x3]), (w.heap.size, [.int .u64 a.x0, .int .u64 a.x1, .int .u64 a.x2, .int .u64 a.x3])] NN ((v5.heap.size, z26) :: [(B5, z26)]) (v5.alloc (.cells #[.int .i64 0, .int .i64 0, .int .i64 0, .int .i64 0, .int .i64 0, .int .i64 0, .int .i64 0, .int .i64 0, .int .i64 0, .int .i64 0, .int .i64 0, .int .i64 0, .int .i64 0, .int .i64 0, .int .i64 0, .int .i64 0, .int .i64 0, .int .i64 0, .int .i64 0, .int .i64 0, .int .i64 0, .int .u64 0, .int .u64 0, .int .u64 0, .int .u64 0, .slice none 0 0] 38))) := hidden (O5.out.new z26 38)
            go_simp
            refine hK.out _ _ O6.out.s (fun hHeld2 => ?_)
            clear hK K hHeld O5
            have hHeld := hHeld2
            clear hHeld2
            generalize v5.alloc (.cells #[.int .i64 0, .int .i64 0, .int .i64 0, .int .i64 0, .int .i64 0, .int .i64 0, .int .i64 0, .int .i64 0, .int .i64 0, .int .i64 0, .int .i64 0, .int .i64 0, .int .i64 0, .int .i64 0, .int .i64 0, .int .i64 0, .int .i64 0, .int .i64 0, .int .i64 0, .int .i64 0, .int .i64 0, .int .u64 0, .int .u64 0, .int .u64 0, .int .u64 0, .slice none 0 0] 38) = v6 at O6 hHeld ⊢
            generalize v5.heap.size = B6 at O6 ⊢
            have TH := O6.out.ther (ea) (LEa.out.trans z26_len.symm)
            replace O6 := hidden (O6.out.set0 (ea) (LEa.out.trans z26_len.symm))
            refine wpAnyH_ready (rs := [6]) (by kernel_rfl) (by simp) ?_
            refine AllReadyH.cons (o := _) rfl (fun K hK => ?_) AllReadyH.nil
            rw [if_pos (by rfl)]
            refine wp_store_mid _ _ _ rfl _ _ (List.toArray (ea)) rfl rfl TH IEa.out OEa.out ?_
            refine hK.out _ _ O6.out.s (fun hHeld2 => ?_)
            clear hK K hHeld TH
            have hHeld := hHeld2
            clear hHeld2
            replace O6 := hidden O6.out.swap
            have TH := O6.out.ther (eb) (LEb.out.trans z26_len.symm)
            replace O6 := hidden (O6.out.set0 (eb) (LEb.out.trans z26_len.symm))
            refine wpAnyH_ready (rs := [7]) (by kernel_rfl) (by simp) ?_
            refine AllReadyH.cons (o := _) rfl (fun K hK => ?_) AllReadyH.nil
            rw [if_pos (by rfl)]
            refine wp_store_mid _ _ _ rfl _ _ (List.toArray (eb)) rfl rfl TH IEb.out OEb.out ?_
            refine hK.out _ _ O6.out.s (fun hHeld2 => ?_)
            clear hK K hHeld TH
            have hHeld := hHeld2
            clear hHeld2
            refine wpAnyH_done (by kernel_rfl) ?_ _
            go_wp2_with fail
            go_meet
            exact ⟨B6, B5, rfl, rfl, O6.out.ne, O6.out.m⟩
      refine AllReadyH.cons (o := _) rfl (fun K hK => ?_) ?_
      · have O7 : Hid (Mv w [(Y, [.int .u64 b.x0, .int .u64 b.x1, .int .u64 b.x2, .int .u64 b.x3]), (X, [.int .u64 a.x0, .int .u64 a.x1, .int .u64 a.x2, .int .u64 a.x3]), (w.heap.size + 1 + 1 + 1, cs), (w.heap.size + 1 + 1, [.int .u64 k.x0, .int .u64 k.x1, .int .u64 k.x2, .int .u64 k.x3]), (w.heap.size + 1, [.int .u64 b.x0, .int .u64 b.x1, .int .u64 b.x2, .int .u64 b.x3]), (w.heap.size, [.int .u64 a.x0, .int .u64 a.x1, .int .u64 a.x2, .int .u64 a.x3])] NN ((u1.heap.size, z26) :: []) (u1.alloc (.cells #[.int .i64 0, .int .i64 0, .int .i64 0, .int .i64 0, .int .i64 0, .int .i64 0, .int .i64 0, .int .i64 0, .int .i64 0, .int .i64 0, .int .i64 0, .int .i64 0, .int .i64 0, .int .i64 0, .int .i64 0, .int .i64 0, .int .i64 0, .int .i64 0, .int .i64 0, .int .i64 0, .int .i64 0, .int .u64 0, .int .u64 0, .int .u64 0, .int .u64 0, .slice none 0 0] 38))) := hidden (O1.out.new z26 38)
        go_simp
        refine hK.out _ _ O7.out.s (fun hHeld2 => ?_)
        clear hK K hHeld O1
        have hHeld := hHeld2
        clear hHeld2
        generalize u1.alloc (.cells #[.int .i64 0, .int .i64 0, .int .i64 0, .int .i64 0, .int .i64 0, .int .i64 0, .int .i64 0, .int .i64 0, .int .i64 0, .int .i64 0, .int .i64 0, .int .i64 0, .int .i64 0, .int .i64 0, .int .i64 0, .int .i64 0, .int .i64 0, .int .i64 0, .int .i64 0, .int .i64 0, .int .i64 0, .int .u64 0, .int .u64 0, .int .u64 0, .int .u64 0, .slice none 0 0] 38) = v7 at O7 hHeld ⊢
        generalize u1.heap.size = B7 at O7 ⊢
        refine wpAnyH_ready (rs := [3, 5]) (by kernel_rfl) (by simp) ?_
        refine AllReadyH.cons (o := _) rfl (fun K hK => ?_) ?_
        · go_simp
          refine (OB.out _).mono ?_
          rintro e u8 ⟨rfl, hb8⟩
          have O8 := hidden (O7.out.keep hb8)
          go_wp2_with fail
          refine hK.out _ _ O8.out.s (fun hHeld2 => ?_)
          clear hK K hHeld O7 hb8
          have hHeld := hHeld2
          clear hHeld2
          refine wpAnyH_ready (rs := [5]) (by kernel_rfl) (by simp) ?_
          refine AllReadyH.cons (o := _) rfl (fun K hK => ?_) AllReadyH.nil
          · have O9 : Hid (Mv w [(Y, [.int .u64 b.x0, .int .u64 b.x1, .int .u64 b.x2, .int .u64 b.x3]), (X, [.int .u64 a.x0, .int .u64 a.x1, .int .u64 a.x2, .int .u64 a.x3]), (w.heap.size + 1 + 1 + 1, cs), (w.heap.size + 1 + 1, [.int .u64 k.x0, .int .u64 k.x1, .int .u64 k.x2, .int .u64 k.x3]), (w.heap.size + 1, [.int .u64 b.x0, .int .u64 b.x1, .int .u64 b.x2, .int .u64 b.x3]), (w.heap.size, [.int .u64 a.x0, .int .u64 a.x1, .int .u64 a.x2, .int .u64 a.x3])] NN ((u8.heap.size, z26) :: [(B7, z26)]) (u8.alloc (.cells #[.int .i64 0, .int .i64 0, .int .i64 0, .int .i64 0, .int .i64 0, .int .i64 0, .int .i64 0, .int .i64 0, .int .i64 0, .int .i64 0, .int .i64 0, .int .i64 0, .int .i64 0, .int .i64 0, .int .i64 0, .int .i64 0, .int .i64 0, .int .i64 0, .int .i64 0, .int .i64 0, .int .i64 0, .int .u64 0, .int .u64 0, .int .u64 0, .int .u64 0, .slice none 0 0] 38))) := hidden (O8.out.new z26 38)
            go_simp
            refine hK.out _ _ O9.out.s (fun hHeld2 => ?_)
            clear hK K hHeld O8
            have hHeld := hHeld2
            clear hHeld2
            generalize u8.alloc (.cells #[.int .i64 0, .int .i64 0, .int .i64 0, .int .i64 0, .int .i64 0, .int .i64 0, .int .i64 0, .int .i64 0, .int .i64 0, .int .i64 0, .int .i64 0, .int .i64 0, .int .i64 0, .int .i64 0, .int .i64 0, .int .i64 0, .int .i64 0, .int .i64 0, .int .i64 0, .int .i64 0, .int .i64 0, .int .u64 0, .int .u64 0, .int .u64 0, .int .u64 0, .slice none 0 0] 38) = v9 at O9 hHeld ⊢
            generalize u8.heap.size = B9 at O9 ⊢
            replace O9 := hidden O9.out.swap
            have TH := O9.out.ther (ea) (LEa.out.trans z26_len.symm)
            replace O9 := hidden (O9.out.set0 (ea) (LEa.out.trans z26_len.symm))
            refine wpAnyH_ready (rs := [6]) (by kernel_rfl) (by simp) ?_
            refine AllReadyH.cons (o := _) rfl (fun K hK => ?_) AllReadyH.nil
            rw [if_pos (by rfl)]
            refine wp_store_mid _ _ _ rfl _ _ (List.toArray (ea)) rfl rfl TH IEa.out OEa.out ?_
            refine hK.out _ _ O9.out.s (fun hHeld2 => ?_)
            clear hK K hHeld TH
            have hHeld := hHeld2
            clear hHeld2
            replace O9 := hidden O9.out.swap
            have TH := O9.out.ther (eb) (LEb.out.trans z26_len.symm)
            replace O9 := hidden (O9.out.set0 (eb) (LEb.out.trans z26_len.symm))
            refine wpAnyH_ready (rs := [7]) (by kernel_rfl) (by simp) ?_
            refine AllReadyH.cons (o := _) rfl (fun K hK => ?_) AllReadyH.nil
            rw [if_pos (by rfl)]
            refine wp_store_mid _ _ _ rfl _ _ (List.toArray (eb)) rfl rfl TH IEb.out OEb.out ?_
            refine hK.out _ _ O9.out.s (fun hHeld2 => ?_)
            clear hK K hHeld TH
            have hHeld := hHeld2
            clear hHeld2
            refine wpAnyH_done (by kernel_rfl) ?_ _
            go_wp2_with fail
            go_meet
            exact ⟨B7, B9, rfl, rfl, O9.out.ne, O9.out.m⟩
        refine AllReadyH.cons (o := _) rfl (fun K hK => ?_) AllReadyH.nil
        · have O10 : Hid (Mv w [(Y, [.int .u64 b.x0, .int .u64 b.x1, .int .u64 b.x2, .int .u64 b.x3]), (X, [.int .u64 a.x0, .int .u64 a.x1, .int .u64 a.x2, .int .u64 a.x3]), (w.heap.size + 1 + 1 + 1, cs), (w.heap.size + 1 + 1, [.int .u64 k.x0, .int .u64 k.x1, .int .u64 k.x2, .int .u64 k.x3]), (w.heap.size + 1, [.int .u64 b.x0, .int .u64 b.x1, .int .u64 b.x2, .int .u64 b.x3]), (w.heap.size, [.int .u64 a.x0, .int .u64 a.x1, .int .u64 a.x2, .int .u64 a.x3])] NN ((v7.heap.size, z26) :: [(B7, z26)]) (v7.alloc (.cells #[.int .i64 0, .int .i64 0, .int .i64 0, .int .i64 0, .int .i64 0, .int .i64 0, .int .i64 0, .int .i64 0, .int .i64 0, .int .i64 0, .int .i64 0, .int .i64 0, .int .i64 0, .int .i64 0, .int .i64 0, .int .i64 0, .int .i64 0, .int .i64 0, .int .i64 0, .int .i64 0, .int .i64 0, .int .u64 0, .int .u64 0, .int .u64 0, .int .u64 0, .slice none 0 0] 38))) := hidden (O7.out.new z26 38)
          go_simp
          refine hK.out _ _ O10.out.s (fun hHeld2 => ?_)
          clear hK K hHeld O7
          have hHeld := hHeld2
          clear hHeld2
          generalize v7.alloc (.cells #[.int .i64 0, .int .i64 0, .int .i64 0, .int .i64 0, .int .i64 0, .int .i64 0, .int .i64 0, .int .i64 0, .int .i64 0, .int .i64 0, .int .i64 0, .int .i64 0, .int .i64 0, .int .i64 0, .int .i64 0, .int .i64 0, .int .i64 0, .int .i64 0, .int .i64 0, .int .i64 0, .int .i64 0, .int .u64 0, .int .u64 0, .int .u64 0, .int .u64 0, .slice none 0 0] 38) = v10 at O10 hHeld ⊢
          generalize v7.heap.size = B10 at O10 ⊢
          refine wpAnyH_ready (rs := [3]) (by kernel_rfl) (by simp) ?_
          refine AllReadyH.cons (o := _) rfl (fun K hK => ?_) AllReadyH.nil
          · go_simp
            refine (OB.out _).mono ?_
            rintro e u11 ⟨rfl, hb11⟩
            have O11 := hidden (O10.out.keep hb11)
            go_wp2_with fail
            refine hK.out _ _ O11.out.s (fun hHeld2 => ?_)
            clear hK K hHeld O10 hb11
            have hHeld := hHeld2
            clear hHeld2
            replace O11 := hidden O11.out.swap
            have TH := O11.out.ther (ea) (LEa.out.trans z26_len.symm)
            replace O11 := hidden (O11.out.set0 (ea) (LEa.out.trans z26_len.symm))
            refine wpAnyH_ready (rs := [6]) (by kernel_rfl) (by simp) ?_
            refine AllReadyH.cons (o := _) rfl (fun K hK => ?_) AllReadyH.nil
            rw [if_pos (by rfl)]
            refine wp_store_mid _ _ _ rfl _ _ (List.toArray (ea)) rfl rfl TH IEa.out OEa.out ?_
            refine hK.out _ _ O11.out.s (fun hHeld2 => ?_)
            clear hK K hHeld TH
            have hHeld := hHeld2
            clear hHeld2
            replace O11 := hidden O11.out.swap
            have TH := O11.out.ther (eb) (LEb.out.trans z26_len.symm)
            replace O11 := hidden (O11.out.set0 (eb) (LEb.out.trans z26_len.symm))
            refine wpAnyH_ready (rs := [7]) (by kernel_rfl) (by simp) ?_
            refine AllReadyH.cons (o := _) rfl (fun K hK => ?_) AllReadyH.nil
            rw [if_pos (by rfl)]
            refine wp_store_mid _ _ _ rfl _ _ (List.toArray (eb)) rfl rfl TH IEb.out OEb.out ?_
            refine hK.out _ _ O11.out.s (fun hHeld2 => ?_)
            clear hK K hHeld TH
            have hHeld := hHeld2
            clear hHeld2
            refine wpAnyH_done (by kernel_rfl) ?_ _
            go_wp2_with fail
            go_meet
            exact ⟨B7, B10, rfl, rfl, O11.out.ne, O11.out.m⟩
      refine AllReadyH.cons (o := _) rfl (fun K hK => ?_) AllReadyH.nil
      · have O12 : Hid (Mv w [(Y, [.int .u64 b.x0, .int .u64 b.x1, .int .u64 b.x2, .int .u64 b.x3]), (X, [.int .u64 a.x0, .int .u64 a.x1, .int .u64 a.x2, .int .u64 a.x3]), (w.heap.size + 1 + 1 + 1, cs), (w.heap.size + 1 + 1, [.int .u64 k.x0, .int .u64 k.x1, .int .u64 k.x2, .int .u64 k.x3]), (w.heap.size + 1, [.int .u64 b.x0, .int .u64 b.x1, .int .u64 b.x2, .int .u64 b.x3]), (w.heap.size, [.int .u64 a.x0, .int .u64 a.x1, .int .u64 a.x2, .int .u64 a.x3])] NN ((u1.heap.size, z26) :: []) (u1.alloc (.cells #[.int .i64 0, .int .i64 0, .int .i64 0, .int .i64 0, .int .i64 0, .int .i64 0, .int .i64 0, .int .i64 0, .int .i64 0, .int .i64 0, .int .i64 0, .int .i64 0, .int .i64 0, .int .i64 0, .int .i64 0, .int .i64 0, .int .i64 0, .int .i64 0, .int .i64 0, .int .i64 0, .int .i64 0, .int .u64 0, .int .u64 0, .int .u64 0, .int .u64 0, .slice none 0 0] 38))) := hidden (O1.out.new z26 38)
        go_simp
        refine hK.out _ _ O12.out.s (fun hHeld2 => ?_)
        clear hK K hHeld O1
        have hHeld := hHeld2
        clear hHeld2
        generalize u1.alloc (.cells #[.int .i64 0, .int .i64 0, .int .i64 0, .int .i64 0, .int .i64 0, .int .i64 0, .int .i64 0, .int .i64 0, .int .i64 0, .int .i64 0, .int .i64 0, .int .i64 0, .int .i64 0, .int .i64 0, .int .i64 0, .int .i64 0, .int .i64 0, .int .i64 0, .int .i64 0, .int .i64 0, .int .i64 0, .int .u64 0, .int .u64 0, .int .u64 0, .int .u64 0, .slice none 0 0] 38) = v12 at O12 hHeld ⊢
        generalize u1.heap.size = B12 at O12 ⊢
        refine wpAnyH_ready (rs := [3, 4]) (by kernel_rfl) (by simp) ?_
        refine AllReadyH.cons (o := _) rfl (fun K hK => ?_) ?_
        · go_simp
          refine (OB.out _).mono ?_
          rintro e u13 ⟨rfl, hb13⟩
          have O13 := hidden (O12.out.keep hb13)
          go_wp2_with fail
          refine hK.out _ _ O13.out.s (fun hHeld2 => ?_)
          clear hK K hHeld O12 hb13
          have hHeld := hHeld2
          clear hHeld2
          refine wpAnyH_ready (rs := [4]) (by kernel_rfl) (by simp) ?_
          refine AllReadyH.cons (o := _) rfl (fun K hK => ?_) AllReadyH.nil
          · have O14 : Hid (Mv w [(Y, [.int .u64 b.x0, .int .u64 b.x1, .int .u64 b.x2, .int .u64 b.x3]), (X, [.int .u64 a.x0, .int .u64 a.x1, .int .u64 a.x2, .int .u64 a.x3]), (w.heap.size + 1 + 1 + 1, cs), (w.heap.size + 1 + 1, [.int .u64 k.x0, .int .u64 k.x1, .int .u64 k.x2, .int .u64 k.x3]), (w.heap.size + 1, [.int .u64 b.x0, .int .u64 b.x1, .int .u64 b.x2, .int .u64 b.x3]), (w.heap.size, [.int .u64 a.x0, .int .u64 a.x1, .int .u64 a.x2, .int .u64 a.x3])] NN ((u13.heap.size, z26) :: [(B12, z26)]) (u13.alloc (.cells #[.int .i64 0, .int .i64 0, .int .i64 0, .int .i64 0, .int .i64 0, .int .i64 0, .int .i64 0, .int .i64 0, .int .i64 0, .int .i64 0, .int .i64 0, .int .i64 0, .int .i64 0, .int .i64 0, .int .i64 0, .int .i64 0, .int .i64 0, .int .i64 0, .int .i64 0, .int .i64 0, .int .i64 0, .int .u64 0, .int .u64 0, .int .u64 0, .int .u64 0, .slice none 0 0] 38))) := hidden (O13.out.new z26 38)
            go_simp
            refine hK.out _ _ O14.out.s (fun hHeld2 => ?_)
            clear hK K hHeld O13
            have hHeld := hHeld2
            clear hHeld2
            generalize u13.alloc (.cells #[.int .i64 0, .int .i64 0, .int .i64 0, .int .i64 0, .int .i64 0, .int .i64 0, .int .i64 0, .int .i64 0, .int .i64 0, .int .i64 0, .int .i64 0, .int .i64 0, .int .i64 0, .int .i64 0, .int .i64 0, .int .i64 0, .int .i64 0, .int .i64 0, .int .i64 0, .int .i64 0, .int .i64 0, .int .u64 0, .int .u64 0, .int .u64 0, .int .u64 0, .slice none 0 0] 38) = v14 at O14 hHeld ⊢
            generalize u13.heap.size = B14 at O14 ⊢
            have TH := O14.out.ther (ea) (LEa.out.trans z26_len.symm)
            replace O14 := hidden (O14.out.set0 (ea) (LEa.out.trans z26_len.symm))
            refine wpAnyH_ready (rs := [6]) (by kernel_rfl) (by simp) ?_
            refine AllReadyH.cons (o := _) rfl (fun K hK => ?_) AllReadyH.nil
            rw [if_pos (by rfl)]
            refine wp_store_mid _ _ _ rfl _ _ (List.toArray (ea)) rfl rfl TH IEa.out OEa.out ?_
            refine hK.out _ _ O14.out.s (fun hHeld2 => ?_)
            clear hK K hHeld TH
            have hHeld := hHeld2
            clear hHeld2
            replace O14 := hidden O14.out.swap
            have TH := O14.out.ther (eb) (LEb.out.trans z26_len.symm)
            replace O14 := hidden (O14.out.set0 (eb) (LEb.out.trans z26_len.symm))
            refine wpAnyH_ready (rs := [7]) (by kernel_rfl) (by simp) ?_
            refine AllReadyH.cons (o := _) rfl (fun K hK => ?_) AllReadyH.nil
            rw [if_pos (by rfl)]
            refine wp_store_mid _ _ _ rfl _ _ (List.toArray (eb)) rfl rfl TH IEb.out OEb.out ?_
            refine hK.out _ _ O14.out.s (fun hHeld2 => ?_)
            clear hK K hHeld TH
            have hHeld := hHeld2
            clear hHeld2
            refine wpAnyH_done (by kernel_rfl) ?_ _
            go_wp2_with fail
            go_meet
            exact ⟨B14, B12, rfl, rfl, O14.out.ne, O14.out.m⟩
        refine AllReadyH.cons (o := _) rfl (fun K hK => ?_) AllReadyH.nil
        · have O15 : Hid (Mv w [(Y, [.int .u64 b.x0, .int .u64 b.x1, .int .u64 b.x2, .int .u64 b.x3]), (X, [.int .u64 a.x0, .int .u64 a.x1, .int .u64 a.x2, .int .u64 a.x3]), (w.heap.size + 1 + 1 + 1, cs), (w.heap.size + 1 + 1, [.int .u64 k.x0, .int .u64 k.x1, .int .u64 k.x2, .int .u64 k.x3]), (w.heap.size + 1, [.int .u64 b.x0, .int .u64 b.x1, .int .u64 b.x2, .int .u64 b.x3]), (w.heap.size, [.int .u64 a.x0, .int .u64 a.x1, .int .u64 a.x2, .int .u64 a.x3])] NN ((v12.heap.size, z26) :: [(B12, z26)]) (v12.alloc (.cells #[.int .i64 0, .int .i64 0, .int .i64 0, .int .i64 0, .int .i64 0, .int .i64 0, .int .i64 0, .int .i64 0, .int .i64 0, .int .i64 0, .int .i64 0, .int .i64 0, .int .i64 0, .int .i64 0, .int .i64 0, .int .i64 0, .int .i64 0, .int .i64 0, .int .i64 0, .int .i64 0, .int .i64 0, .int .u64 0, .int .u64 0, .int .u64 0, .int .u64 0, .slice none 0 0] 38))) := hidden (O12.out.new z26 38)
          go_simp
          refine hK.out _ _ O15.out.s (fun hHeld2 => ?_)
          clear hK K hHeld O12
          have hHeld := hHeld2
          clear hHeld2
          generalize v12.alloc (.cells #[.int .i64 0, .int .i64 0, .int .i64 0, .int .i64 0, .int .i64 0, .int .i64 0, .int .i64 0, .int .i64 0, .int .i64 0, .int .i64 0, .int .i64 0, .int .i64 0, .int .i64 0, .int .i64 0, .int .i64 0, .int .i64 0, .int .i64 0, .int .i64 0, .int .i64 0, .int .i64 0, .int .i64 0, .int .u64 0, .int .u64 0, .int .u64 0, .int .u64 0, .slice none 0 0] 38) = v15 at O15 hHeld ⊢
          generalize v12.heap.size = B15 at O15 ⊢
          refine wpAnyH_ready (rs := [3]) (by kernel_rfl) (by simp) ?_
          refine AllReadyH.cons (o := _) rfl (fun K hK => ?_) AllReadyH.nil
          · go_simp
            refine (OB.out _).mono ?_
            rintro e u16 ⟨rfl, hb16⟩
            have O16 := hidden (O15.out.keep hb16)
            go_wp2_with fail
            refine hK.out _ _ O16.out.s (fun hHeld2 => ?_)
            clear hK K hHeld O15 hb16
            have hHeld := hHeld2
            clear hHeld2
            have TH := O16.out.ther (ea) (LEa.out.trans z26_len.symm)
            replace O16 := hidden (O16.out.set0 (ea) (LEa.out.trans z26_len.symm))
            refine wpAnyH_ready (rs := [6]) (by kernel_rfl) (by simp) ?_
            refine AllReadyH.cons (o := _) rfl (fun K hK => ?_) AllReadyH.nil
            rw [if_pos (by rfl)]
            refine wp_store_mid _ _ _ rfl _ _ (List.toArray (ea)) rfl rfl TH IEa.out OEa.out ?_
            refine hK.out _ _ O16.out.s (fun hHeld2 => ?_)
            clear hK K hHeld TH
            have hHeld := hHeld2
            clear hHeld2
            replace O16 := hidden O16.out.swap
            have TH := O16.out.ther (eb) (LEb.out.trans z26_len.symm)
            replace O16 := hidden (O16.out.set0 (eb) (LEb.out.trans z26_len.symm))
            refine wpAnyH_ready (rs := [7]) (by kernel_rfl) (by simp) ?_
            refine AllReadyH.cons (o := _) rfl (fun K hK => ?_) AllReadyH.nil
            rw [if_pos (by rfl)]
            refine wp_store_mid _ _ _ rfl _ _ (List.toArray (eb)) rfl rfl TH IEb.out OEb.out ?_
            refine hK.out _ _ O16.out.s (fun hHeld2 => ?_)
            clear hK K hHeld TH
            have hHeld := hHeld2
            clear hHeld2
            refine wpAnyH_done (by kernel_rfl) ?_ _
            go_wp2_with fail
            go_meet
            exact ⟨B15, B12, rfl, rfl, O16.out.ne, O16.out.m⟩
    refine AllReadyH.cons (o := _) rfl (fun K hK => ?_) ?_
    · have O17 : Hid (Mv w [(Y, [.int .u64 b.x0, .int .u64 b.x1, .int .u64 b.x2, .int .u64 b.x3]), (X, [.int .u64 a.x0, .int .u64 a.x1, .int .u64 a.x2, .int .u64 a.x3]), (w.heap.size + 1 + 1 + 1, cs), (w.heap.size + 1 + 1, [.int .u64 k.x0, .int .u64 k.x1, .int .u64 k.x2, .int .u64 k.x3]), (w.heap.size + 1, [.int .u64 b.x0, .int .u64 b.x1, .int .u64 b.x2, .int .u64 b.x3]), (w.heap.size, [.int .u64 a.x0, .int .u64 a.x1, .int .u64 a.x2, .int .u64 a.x3])] NN ((ww.heap.size, z26) :: []) (ww.alloc (.cells #[.int .i64 0, .int .i64 0, .int .i64 0, .int .i64 0, .int .i64 0, .int .i64 0, .int .i64 0, .int .i64 0, .int .i64 0, .int .i64 0, .int .i64 0, .int .i64 0, .int .i64 0, .int .i64 0, .int .i64 0, .int .i64 0, .int .i64 0, .int .i64 0, .int .i64 0, .int .i64 0, .int .i64 0, .int .u64 0, .int .u64 0, .int .u64 0, .int .u64 0, .slice none 0 0] 38))) := hidden (O0.out.new z26 38)
      go_simp
      refine hK.out _ _ O17.out.s (fun hHeld2 => ?_)
      clear hK K hHeld O0
      have hHeld := hHeld2
      clear hHeld2
      generalize ww.alloc (.cells #[.int .i64 0, .int .i64 0, .int .i64 0, .int .i64 0, .int .i64 0, .int .i64 0, .int .i64 0, .int .i64 0, .int .i64 0, .int .i64 0, .int .i64 0, .int .i64 0, .int .i64 0, .int .i64 0, .int .i64 0, .int .i64 0, .int .i64 0, .int .i64 0, .int .i64 0, .int .i64 0, .int .i64 0, .int .u64 0, .int .u64 0, .int .u64 0, .int .u64 0, .slice none 0 0] 38) = v17 at O17 hHeld ⊢
      generalize ww.heap.size = B17 at O17 ⊢
      refine wpAnyH_ready (rs := [1, 5]) (by kernel_rfl) (by simp) ?_
      refine AllReadyH.cons (o := _) rfl (fun K hK => ?_) ?_
      · go_simp
        refine (OA.out _).mono ?_
        rintro e u18 ⟨rfl, hb18⟩
        have O18 := hidden (O17.out.keep hb18)
        go_wp2_with fail
        refine hK.out _ _ O18.out.s (fun hHeld2 => ?_)
        clear hK K hHeld O17 hb18
        have hHeld := hHeld2
        clear hHeld2
        refine wpAnyH_ready (rs := [3, 5]) (by kernel_rfl) (by simp) ?_
        refine AllReadyH.cons (o := _) rfl (fun K hK => ?_) ?_
        · go_simp
          refine (OB.out _).mono ?_
          rintro e u19 ⟨rfl, hb19⟩
          have O19 := hidden (O18.out.keep hb19)
          go_wp2_with fail
          refine hK.out _ _ O19.out.s (fun hHeld2 => ?_)
          clear hK K hHeld O18 hb19
          have hHeld := hHeld2
          clear hHeld2
          refine wpAnyH_ready (rs := [5]) (by kernel_rfl) (by simp) ?_
          refine AllReadyH.cons (o := _) rfl (fun K hK => ?_) AllReadyH.nil
          · have O20 : Hid (Mv w [(Y, [.int .u64 b.x0, .int .u64 b.x1, .int .u64 b.x2, .int .u64 b.x3]), (X, [.int .u64 a.x0, .int .u64 a.x1, .int .u64 a.x2, .int .u64 a.x3]), (w.heap.size + 1 + 1 + 1, cs), (w.heap.size + 1 + 1, [.int .u64 k.x0, .int .u64 k.x1, .int .u64 k.x2, .int .u64 k.x3]), (w.heap.size + 1, [.int .u64 b.x0, .int .u64 b.x1, .int .u64 b.x2, .int .u64 b.x3]), (w.heap.size, [.int .u64 a.x0, .int .u64 a.x1, .int .u64 a.x2, .int .u64 a.x3])] NN ((u19.heap.size, z26) :: [(B17, z26)]) (u19.alloc (.cells #[.int .i64 0, .int .i64 0, .int .i64 0, .int .i64 0, .int .i64 0, .int .i64 0, .int .i64 0, .int .i64 0, .int .i64 0, .int .i64 0, .int .i64 0, .int .i64 0, .int .i64 0, .int .i64 0, .int .i64 0, .int .i64 0, .int .i64 0, .int .i64 0, .int .i64 0, .int .i64 0, .int .i64 0, .int .u64 0, .int .u64 0, .int .u64 0, .int .u64 0, .slice none 0 0] 38))) := hidden (O19.out.new z26 38)
            go_simp
            refine hK.out _ _ O20.out.s (fun hHeld2 => ?_)
            clear hK K hHeld O19
            have hHeld := hHeld2
            clear hHeld2
            generalize u19.alloc (.cells #[.int .i64 0, .int .i64 0, .int .i64 0, .int .i64 0, .int .i64 0, .int .i64 0, .int .i64 0, .int .i64 0, .int .i64 0, .int .i64 0, .int .i64 0, .int .i64 0, .int .i64 0, .int .i64 0, .int .i64 0, .int .i64 0, .int .i64 0, .int .i64 0, .int .i64 0, .int .i64 0, .int .i64 0, .int .u64 0, .int .u64 0, .int .u64 0, .int .u64 0, .slice none 0 0] 38) = v20 at O20 hHeld ⊢
            generalize u19.heap.size = B20 at O20 ⊢
            replace O20 := hidden O20.out.swap
            have TH := O20.out.ther (ea) (LEa.out.trans z26_len.symm)
            replace O20 := hidden (O20.out.set0 (ea) (LEa.out.trans z26_len.symm))
            refine wpAnyH_ready (rs := [6]) (by kernel_rfl) (by simp) ?_
            refine AllReadyH.cons (o := _) rfl (fun K hK => ?_) AllReadyH.nil
            rw [if_pos (by rfl)]
            refine wp_store_mid _ _ _ rfl _ _ (List.toArray (ea)) rfl rfl TH IEa.out OEa.out ?_
            refine hK.out _ _ O20.out.s (fun hHeld2 => ?_)
            clear hK K hHeld TH
            have hHeld := hHeld2
            clear hHeld2
            replace O20 := hidden O20.out.swap
            have TH := O20.out.ther (eb) (LEb.out.trans z26_len.symm)
            replace O20 := hidden (O20.out.set0 (eb) (LEb.out.trans z26_len.symm))
            refine wpAnyH_ready (rs := [7]) (by kernel_rfl) (by simp) ?_
            refine AllReadyH.cons (o := _) rfl (fun K hK => ?_) AllReadyH.nil
            rw [if_pos (by rfl)]
            refine wp_store_mid _ _ _ rfl _ _ (List.toArray (eb)) rfl rfl TH IEb.out OEb.out ?_
            refine hK.out _ _ O20.out.s (fun hHeld2 => ?_)
            clear hK K hHeld TH
            have hHeld := hHeld2
            clear hHeld2
            refine wpAnyH_done (by kernel_rfl) ?_ _
            go_wp2_with fail
            go_meet
            exact ⟨B17, B20, rfl, rfl, O20.out.ne, O20.out.m⟩
        refine AllReadyH.cons (o := _) rfl (fun K hK => ?_) AllReadyH.nil
        · have O21 : Hid (Mv w [(Y, [.int .u64 b.x0, .int .u64 b.x1, .int .u64 b.x2, .int .u64 b.x3]), (X, [.int .u64 a.x0, .int .u64 a.x1, .int .u64 a.x2, .int .u64 a.x3]), (w.heap.size + 1 + 1 + 1, cs), (w.heap.size + 1 + 1, [.int .u64 k.x0, .int .u64 k.x1, .int .u64 k.x2, .int .u64 k.x3]), (w.heap.size + 1, [.int .u64 b.x0, .int .u64 b.x1, .int .u64 b.x2, .int .u64 b.x3]), (w.heap.size, [.int .u64 a.x0, .int .u64 a.x1, .int .u64 a.x2, .int .u64 a.x3])] NN ((u18.heap.size, z26) :: [(B17, z26)]) (u18.alloc (.cells #[.int .i64 0, .int .i64 0, .int .i64 0, .int .i64 0, .int .i64 0, .int .i64 0, .int .i64 0, .int .i64 0, .int .i64 0, .int .i64 0, .int .i64 0, .int .i64 0, .int .i64 0, .int .i64 0, .int .i64 0, .int .i64 0, .int .i64 0, .int .i64 0, .int .i64 0, .int .i64 0, .int .i64 0, .int .u64 0, .int .u64 0, .int .u64 0, .int .u64 0, .slice none 0 0] 38))) := hidden (O18.out.new z26 38)
          go_simp
          refine hK.out _ _ O21.out.s (fun hHeld2 => ?_)
          clear hK K hHeld O18
          have hHeld := hHeld2
          clear hHeld2
          generalize u18.alloc (.cells #[.int .i64 0, .int .i64 0, .int .i64 0, .int .i64 0, .int .i64 0, .int .i64 0, .int .i64 0, .int .i64 0, .int .i64 0, .int .i64 0, .int .i64 0, .int .i64 0, .int .i64 0, .int .i64 0, .int .i64 0, .int .i64 0, .int .i64 0, .int .i64 0, .int .i64 0, .int .i64 0, .int .i64 0, .int .u64 0, .int .u64 0, .int .u64 0, .int .u64 0, .slice none 0 0] 38) = v21 at O21 hHeld ⊢
          generalize u18.heap.size = B21 at O21 ⊢
          refine wpAnyH_ready (rs := [3]) (by kernel_rfl) (by simp) ?_
          refine AllReadyH.cons (o := _) rfl (fun K hK => ?_) AllReadyH.nil
          · go_simp
            refine (OB.out _).mono ?_
            rintro e u22 ⟨rfl, hb22⟩
            have O22 := hidden (O21.out.keep hb22)
            go_wp2_with fail
            refine hK.out _ _ O22.out.s (fun hHeld2 => ?_)
            clear hK K hHeld O21 hb22
            have hHeld := hHeld2
            clear hHeld2
            replace O22 := hidden O22.out.swap
            have TH := O22.out.ther (ea) (LEa.out.trans z26_len.symm)
            replace O22 := hidden (O22.out.set0 (ea) (LEa.out.trans z26_len.symm))
            refine wpAnyH_ready (rs := [6]) (by kernel_rfl) (by simp) ?_
            refine AllReadyH.cons (o := _) rfl (fun K hK => ?_) AllReadyH.nil
            rw [if_pos (by rfl)]
            refine wp_store_mid _ _ _ rfl _ _ (List.toArray (ea)) rfl rfl TH IEa.out OEa.out ?_
            refine hK.out _ _ O22.out.s (fun hHeld2 => ?_)
            clear hK K hHeld TH
            have hHeld := hHeld2
            clear hHeld2
            replace O22 := hidden O22.out.swap
            have TH := O22.out.ther (eb) (LEb.out.trans z26_len.symm)
            replace O22 := hidden (O22.out.set0 (eb) (LEb.out.trans z26_len.symm))
            refine wpAnyH_ready (rs := [7]) (by kernel_rfl) (by simp) ?_
            refine AllReadyH.cons (o := _) rfl (fun K hK => ?_) AllReadyH.nil
            rw [if_pos (by rfl)]
            refine wp_store_mid _ _ _ rfl _ _ (List.toArray (eb)) rfl rfl TH IEb.out OEb.out ?_
            refine hK.out _ _ O22.out.s (fun hHeld2 => ?_)
            clear hK K hHeld TH
            have hHeld := hHeld2
            clear hHeld2
            refine wpAnyH_done (by kernel_rfl) ?_ _
            go_wp2_with fail
            go_meet
            exact ⟨B17, B21, rfl, rfl, O22.out.ne, O22.out.m⟩
      refine AllReadyH.cons (o := _) rfl (fun K hK => ?_) AllReadyH.nil
      · have O23 : Hid (Mv w [(Y, [.int .u64 b.x0, .int .u64 b.x1, .int .u64 b.x2, .int .u64 b.x3]), (X, [.int .u64 a.x0, .int .u64 a.x1, .int .u64 a.x2, .int .u64 a.x3]), (w.heap.size + 1 + 1 + 1, cs), (w.heap.size + 1 + 1, [.int .u64 k.x0, .int .u64 k.x1, .int .u64 k.x2, .int .u64 k.x3]), (w.heap.size + 1, [.int .u64 b.x0, .int .u64 b.x1, .int .u64 b.x2, .int .u64 b.x3]), (w.heap.size, [.int .u64 a.x0, .int .u64 a.x1, .int .u64 a.x2, .int .u64 a.x3])] NN ((v17.heap.size, z26) :: [(B17, z26)]) (v17.alloc (.cells #[.int .i64 0, .int .i64 0, .int .i64 0, .int .i64 0, .int .i64 0, .int .i64 0, .int .i64 0, .int .i64 0, .int .i64 0, .int .i64 0, .int .i64 0, .int .i64 0, .int .i64 0, .int .i64 0, .int .i64 0, .int .i64 0, .int .i64 0, .int .i64 0, .int .i64 0, .int .i64 0, .int .i64 0, .int .u64 0, .int .u64 0, .int .u64 0, .int .u64 0, .slice none 0 0] 38))) := hidden (O17.out.new z26 38)
        go_simp
        refine hK.out _ _ O23.out.s (fun hHeld2 => ?_)
        clear hK K hHeld O17
        have hHeld := hHeld2
        clear hHeld2
        generalize v17.alloc (.cells #[.int .i64 0, .int .i64 0, .int .i64 0, .int .i64 0, .int .i64 0, .int .i64 0, .int .i64 0, .int .i64 0, .int .i64 0, .int .i64 0, .int .i64 0, .int .i64 0, .int .i64 0, .int .i64 0, .int .i64 0, .int .i64 0, .int .i64 0, .int .i64 0, .int .i64 0, .int .i64 0, .int .i64 0, .int .u64 0, .int .u64 0, .int .u64 0, .int .u64 0, .slice none 0 0] 38) = v23 at O23 hHeld ⊢
        generalize v17.heap.size = B23 at O23 ⊢
        refine wpAnyH_ready (rs := [1]) (by kernel_rfl) (by simp) ?_
        refine AllReadyH.cons (o := _) rfl (fun K hK => ?_) AllReadyH.nil
        · go_simp
          refine (OA.out _).mono ?_
          rintro e u24 ⟨rfl, hb24⟩
          have O24 := hidden (O23.out.keep hb24)
          go_wp2_with fail
          refine hK.out _ _ O24.out.s (fun hHeld2 => ?_)
          clear hK K hHeld O23 hb24
          have hHeld := hHeld2
          clear hHeld2
          refine wpAnyH_ready (rs := [3]) (by kernel_rfl) (by simp) ?_
          refine AllReadyH.cons (o := _) rfl (fun K hK => ?_) AllReadyH.nil
          · go_simp
            refine (OB.out _).mono ?_
            rintro e u25 ⟨rfl, hb25⟩
            have O25 := hidden (O24.out.keep hb25)
            go_wp2_with fail
            refine hK.out _ _ O25.out.s (fun hHeld2 => ?_)
            clear hK K hHeld O24 hb25
            have hHeld := hHeld2
            clear hHeld2
            replace O25 := hidden O25.out.swap
            have TH := O25.out.ther (ea) (LEa.out.trans z26_len.symm)
            replace O25 := hidden (O25.out.set0 (ea) (LEa.out.trans z26_len.symm))
            refine wpAnyH_ready (rs := [6]) (by kernel_rfl) (by simp) ?_
            refine AllReadyH.cons (o := _) rfl (fun K hK => ?_) AllReadyH.nil
            rw [if_pos (by rfl)]
            refine wp_store_mid _ _ _ rfl _ _ (List.toArray (ea)) rfl rfl TH IEa.out OEa.out ?_
            refine hK.out _ _ O25.out.s (fun hHeld2 => ?_)
            clear hK K hHeld TH
            have hHeld := hHeld2
            clear hHeld2
            replace O25 := hidden O25.out.swap
            have TH := O25.out.ther (eb) (LEb.out.trans z26_len.symm)
            replace O25 := hidden (O25.out.set0 (eb) (LEb.out.trans z26_len.symm))
            refine wpAnyH_ready (rs := [7]) (by kernel_rfl) (by simp) ?_
            refine AllReadyH.cons (o := _) rfl (fun K hK => ?_) AllReadyH.nil
            rw [if_pos (by rfl)]
            refine wp_store_mid _ _ _ rfl _ _ (List.toArray (eb)) rfl rfl TH IEb.out OEb.out ?_
            refine hK.out _ _ O25.out.s (fun hHeld2 => ?_)
            clear hK K hHeld TH
            have hHeld := hHeld2
            clear hHeld2
            refine wpAnyH_done (by kernel_rfl) ?_ _
            go_wp2_with fail
            go_meet
            exact ⟨B17, B23, rfl, rfl, O25.out.ne, O25.out.m⟩
    refine AllReadyH.cons (o := _) rfl (fun K hK => ?_) AllReadyH.nil
    · have O26 : Hid (Mv w [(Y, [.int .u64 b.x0, .int .u64 b.x1, .int .u64 b.x2, .int .u64 b.x3]), (X, [.int .u64 a.x0, .int .u64 a.x1, .int .u64 a.x2, .int .u64 a.x3]), (w.heap.size + 1 + 1 + 1, cs), (w.heap.size + 1 + 1, [.int .u64 k.x0, .int .u64 k.x1, .int .u64 k.x2, .int .u64 k.x3]), (w.heap.size + 1, [.int .u64 b.x0, .int .u64 b.x1, .int .u64 b.x2, .int .u64 b.x3]), (w.heap.size, [.int .u64 a.x0, .int .u64 a.x1, .int .u64 a.x2, .int .u64 a.x3])] NN ((ww.heap.size, z26) :: []) (ww.alloc (.cells #[.int .i64 0, .int .i64 0, .int .i64 0, .int .i64 0, .int .i64 0, .int .i64 0, .int .i64 0, .int .i64 0, .int .i64 0, .int .i64 0, .int .i64 0, .int .i64 0, .int .i64 0, .int .i64 0, .int .i64 0, .int .i64 0, .int .i64 0, .int .i64 0, .int .i64 0, .int .i64 0, .int .i64 0, .int .u64 0, .int .u64 0, .int .u64 0, .int .u64 0, .slice none 0 0] 38))) := hidden (O0.out.new z26 38)
      go_simp
      refine hK.out _ _ O26.out.s (fun hHeld2 => ?_)
      clear hK K hHeld O0
      have hHeld := hHeld2
      clear hHeld2
      generalize ww.alloc (.cells #[.int .i64 0, .int .i64 0, .int .i64 0, .int .i64 0, .int .i64 0, .int .i64 0, .int .i64 0, .int .i64 0, .int .i64 0, .int .i64 0, .int .i64 0, .int .i64 0, .int .i64 0, .int .i64 0, .int .i64 0, .int .i64 0, .int .i64 0, .int .i64 0, .int .i64 0, .int .i64 0, .int .i64 0, .int .u64 0, .int .u64 0, .int .u64 0, .int .u64 0, .slice none 0 0] 38) = v26 at O26 hHeld ⊢
      generalize ww.heap.size = B26 at O26 ⊢
      refine wpAnyH_ready (rs := [1, 4]) (by kernel_rfl) (by simp) ?_
      refine AllReadyH.cons (o := _) rfl (fun K hK => ?_) ?_
      · go_simp
        refine (OA.out _).mono ?_
        rintro e u27 ⟨rfl, hb27⟩
        have O27 := hidden (O26.out.keep hb27)
        go_wp2_with fail
        refine hK.out _ _ O27.out.s (fun hHeld2 => ?_)
        clear hK K hHeld O26 hb27
        have hHeld := hHeld2
        clear hHeld2
        refine wpAnyH_ready (rs := [3, 4]) (by kernel_rfl) (by simp) ?_
        refine AllReadyH.cons (o := _) rfl (fun K hK => ?_) ?_
        · go_simp
          refine (OB.out _).mono ?_
          rintro e u28 ⟨rfl, hb28⟩
          have O28 := hidden (O27.out.keep hb28)
          go_wp2_with fail
          refine hK.out _ _ O28.out.s (fun hHeld2 => ?_)
          clear hK K hHeld O27 hb28
          have hHeld := hHeld2
          clear hHeld2
          refine wpAnyH_ready (rs := [4]) (by kernel_rfl) (by simp) ?_
          refine AllReadyH.cons (o := _) rfl (fun K hK => ?_) AllReadyH.nil
          · have O29 : Hid (Mv w [(Y, [.int .u64 b.x0, .int .u64 b.x1, .int .u64 b.x2, .int .u64 b.x3]), (X, [.int .u64 a.x0, .int .u64 a.x1, .int .u64 a.x2, .int .u64 a.x3]), (w.heap.size + 1 + 1 + 1, cs), (w.heap.size + 1 + 1, [.int .u64 k.x0, .int .u64 k.x1, .int .u64 k.x2, .int .u64 k.x3]), (w.heap.size + 1, [.int .u64 b.x0, .int .u64 b.x1, .int .u64 b.x2, .int .u64 b.x3]), (w.heap.size, [.int .u64 a.x0, .int .u64 a.x1, .int .u64 a.x2, .int .u64 a.x3])] NN ((u28.heap.size, z26) :: [(B26, z26)]) (u28.alloc (.cells #[.int .i64 0, .int .i64 0, .int .i64 0, .int .i64 0, .int .i64 0, .int .i64 0, .int .i64 0, .int .i64 0, .int .i64 0, .int .i64 0, .int .i64 0, .int .i64 0, .int .i64 0, .int .i64 0, .int .i64 0, .int .i64 0, .int .i64 0, .int .i64 0, .int .i64 0, .int .i64 0, .int .i64 0, .int .u64 0, .int .u64 0, .int .u64 0, .int .u64 0, .slice none 0 0] 38))) := hidden (O28.out.new z26 38)
            go_simp
            refine hK.out _ _ O29.out.s (fun hHeld2 => ?_)
            clear hK K hHeld O28
            have hHeld := hHeld2
            clear hHeld2
            generalize u28.alloc (.cells #[.int .i64 0, .int .i64 0, .int .i64 0, .int .i64 0, .int .i64 0, .int .i64 0, .int .i64 0, .int .i64 0, .int .i64 0, .int .i64 0, .int .i64 0, .int .i64 0, .int .i64 0, .int .i64 0, .int .i64 0, .int .i64 0, .int .i64 0, .int .i64 0, .int .i64 0, .int .i64 0, .int .i64 0, .int .u64 0, .int .u64 0, .int .u64 0, .int .u64 0, .slice none 0 0] 38) = v29 at O29 hHeld ⊢
            generalize u28.heap.size = B29 at O29 ⊢
            have TH := O29.out.ther (ea) (LEa.out.trans z26_len.symm)
            replace O29 := hidden (O29.out.set0 (ea) (LEa.out.trans z26_len.symm))
            refine wpAnyH_ready (rs := [6]) (by kernel_rfl) (by simp) ?_
            refine AllReadyH.cons (o := _) rfl (fun K hK => ?_) AllReadyH.nil
            rw [if_pos (by rfl)]
            refine wp_store_mid _ _ _ rfl _ _ (List.toArray (ea)) rfl rfl TH IEa.out OEa.out ?_
            refine hK.out _ _ O29.out.s (fun hHeld2 => ?_)
            clear hK K hHeld TH
            have hHeld := hHeld2
            clear hHeld2
            replace O29 := hidden O29.out.swap
            have TH := O29.out.ther (eb) (LEb.out.trans z26_len.symm)
            replace O29 := hidden (O29.out.set0 (eb) (LEb.out.trans z26_len.symm))
            refine wpAnyH_ready (rs := [7]) (by kernel_rfl) (by simp) ?_
            refine AllReadyH.cons (o := _) rfl (fun K hK => ?_) AllReadyH.nil
            rw [if_pos (by rfl)]
            refine wp_store_mid _ _ _ rfl _ _ (List.toArray (eb)) rfl rfl TH IEb.out OEb.out ?_
            refine hK.out _ _ O29.out.s (fun hHeld2 => ?_)
            clear hK K hHeld TH
            have hHeld := hHeld2
            clear hHeld2
            refine wpAnyH_done (by kernel_rfl) ?_ _
            go_wp2_with fail
            go_meet
            exact ⟨B29, B26, rfl, rfl, O29.out.ne, O29.out.m⟩
        refine AllReadyH.cons (o := _) rfl (fun K hK => ?_) AllReadyH.nil
        · have O30 : Hid (Mv w [(Y, [.int .u64 b.x0, .int .u64 b.x1, .int .u64 b.x2, .int .u64 b.x3]), (X, [.int .u64 a.x0, .int .u64 a.x1, .int .u64 a.x2, .int .u64 a.x3]), (w.heap.size + 1 + 1 + 1, cs), (w.heap.size + 1 + 1, [.int .u64 k.x0, .int .u64 k.x1, .int .u64 k.x2, .int .u64 k.x3]), (w.heap.size + 1, [.int .u64 b.x0, .int .u64 b.x1, .int .u64 b.x2, .int .u64 b.x3]), (w.heap.size, [.int .u64 a.x0, .int .u64 a.x1, .int .u64 a.x2, .int .u64 a.x3])] NN ((u27.heap.size, z26) :: [(B26, z26)]) (u27.alloc (.cells #[.int .i64 0, .int .i64 0, .int .i64 0, .int .i64 0, .int .i64 0, .int .i64 0, .int .i64 0, .int .i64 0, .int .i64 0, .int .i64 0, .int .i64 0, .int .i64 0, .int .i64 0, .int .i64 0, .int .i64 0, .int .i64 0, .int .i64 0, .int .i64 0, .int .i64 0, .int .i64 0, .int .i64 0, .int .u64 0, .int .u64 0, .int .u64 0, .int .u64 0, .slice none 0 0] 38))) := hidden (O27.out.new z26 38)
          go_simp
          refine hK.out _ _ O30.out.s (fun hHeld2 => ?_)
          clear hK K hHeld O27
          have hHeld := hHeld2
          clear hHeld2
          generalize u27.alloc (.cells #[.int .i64 0, .int .i64 0, .int .i64 0, .int .i64 0, .int .i64 0, .int .i64 0, .int .i64 0, .int .i64 0, .int .i64 0, .int .i64 0, .int .i64 0, .int .i64 0, .int .i64 0, .int .i64 0, .int .i64 0, .int .i64 0, .int .i64 0, .int .i64 0, .int .i64 0, .int .i64 0, .int .i64 0, .int .u64 0, .int .u64 0, .int .u64 0, .int .u64 0, .slice none 0 0] 38) = v30 at O30 hHeld ⊢
          generalize u27.heap.size = B30 at O30 ⊢
          refine wpAnyH_ready (rs := [3]) (by kernel_rfl) (by simp) ?_
          refine AllReadyH.cons (o := _) rfl (fun K hK => ?_) AllReadyH.nil
          · go_simp
            refine (OB.out _).mono ?_
            rintro e u31 ⟨rfl, hb31⟩
            have O31 := hidden (O30.out.keep hb31)
            go_wp2_with fail
            refine hK.out _ _ O31.out.s (fun hHeld2 => ?_)
            clear hK K hHeld O30 hb31
            have hHeld := hHeld2
            clear hHeld2
            have TH := O31.out.ther (ea) (LEa.out.trans z26_len.symm)
            replace O31 := hidden (O31.out.set0 (ea) (LEa.out.trans z26_len.symm))
            refine wpAnyH_ready (rs := [6]) (by kernel_rfl) (by simp) ?_
            refine AllReadyH.cons (o := _) rfl (fun K hK => ?_) AllReadyH.nil
            rw [if_pos (by rfl)]
            refine wp_store_mid _ _ _ rfl _ _ (List.toArray (ea)) rfl rfl TH IEa.out OEa.out ?_
            refine hK.out _ _ O31.out.s (fun hHeld2 => ?_)
            clear hK K hHeld TH
            have hHeld := hHeld2
            clear hHeld2
            replace O31 := hidden O31.out.swap
            have TH := O31.out.ther (eb) (LEb.out.trans z26_len.symm)
            replace O31 := hidden (O31.out.set0 (eb) (LEb.out.trans z26_len.symm))
            refine wpAnyH_ready (rs := [7]) (by kernel_rfl) (by simp) ?_
            refine AllReadyH.cons (o := _) rfl (fun K hK => ?_) AllReadyH.nil
            rw [if_pos (by rfl)]
            refine wp_store_mid _ _ _ rfl _ _ (List.toArray (eb)) rfl rfl TH IEb.out OEb.out ?_
            refine hK.out _ _ O31.out.s (fun hHeld2 => ?_)
            clear hK K hHeld TH
            have hHeld := hHeld2
            clear hHeld2
            refine wpAnyH_done (by kernel_rfl) ?_ _
            go_wp2_with fail
            go_meet
            exact ⟨B30, B26, rfl, rfl, O31.out.ne, O31.out.m⟩
      refine AllReadyH.cons (o := _) rfl (fun K hK => ?_) AllReadyH.nil
      · have O32 : Hid (Mv w [(Y, [.int .u64 b.x0, .int .u64 b.x1, .int .u64 b.x2, .int .u64 b.x3]), (X, [.int .u64 a.x0, .int .u64 a.x1, .int .u64 a.x2, .int .u64 a.x3]), (w.heap.size + 1 + 1 + 1, cs), (w.heap.size + 1 + 1, [.int .u64 k.x0, .int .u64 k.x1, .int .u64 k.x2, .int .u64 k.x3]), (w.heap.size + 1, [.int .u64 b.x0, .int .u64 b.x1, .int .u64 b.x2, .int .u64 b.x3]), (w.heap.size, [.int .u64 a.x0, .int .u64 a.x1, .int .u64 a.x2, .int .u64 a.x3])] NN ((v26.heap.size, z26) :: [(B26, z26)]) (v26.alloc (.cells #[.int .i64 0, .int .i64 0, .int .i64 0, .int .i64 0, .int .i64 0, .int .i64 0, .int .i64 0, .int .i64 0, .int .i64 0, .int .i64 0, .int .i64 0, .int .i64 0, .int .i64 0, .int .i64 0, .int .i64 0, .int .i64 0, .int .i64 0, .int .i64 0, .int .i64 0, .int .i64 0, .int .i64 0, .int .u64 0, .int .u64 0, .int .u64 0, .int .u64 0, .slice none 0 0] 38))) := hidden (O26.out.new z26 38)
        go_simp
        refine hK.out _ _ O32.out.s (fun hHeld2 => ?_)
        clear hK K hHeld O26
        have hHeld := hHeld2
        clear hHeld2
        generalize v26.alloc (.cells #[.int .i64 0, .int .i64 0, .int .i64 0, .int .i64 0, .int .i64 0, .int .i64 0, .int .i64 0, .int .i64 0, .int .i64 0, .int .i64 0, .int .i64 0, .int .i64 0, .int .i64 0, .int .i64 0, .int .i64 0, .int .i64 0, .int .i64 0, .int .i64 0, .int .i64 0, .int .i64 0, .int .i64 0, .int .u64 0, .int .u64 0, .int .u64 0, .int .u64 0, .slice none 0 0] 38) = v32 at O32 hHeld ⊢
        generalize v26.heap.size = B32 at O32 ⊢
        refine wpAnyH_ready (rs := [1]) (by kernel_rfl) (by simp) ?_
        refine AllReadyH.cons (o := _) rfl (fun K hK => ?_) AllReadyH.nil
        · go_simp
          refine (OA.out _).mono ?_
          rintro e u33 ⟨rfl, hb33⟩
          have O33 := hidden (O32.out.keep hb33)
          go_wp2_with fail
          refine hK.out _ _ O33.out.s (fun hHeld2 => ?_)
          clear hK K hHeld O32 hb33
          have hHeld := hHeld2
          clear hHeld2
          refine wpAnyH_ready (rs := [3]) (by kernel_rfl) (by simp) ?_
          refine AllReadyH.cons (o := _) rfl (fun K hK => ?_) AllReadyH.nil
          · go_simp
            refine (OB.out _).mono ?_
            rintro e u34 ⟨rfl, hb34⟩
            have O34 := hidden (O33.out.keep hb34)
            go_wp2_with fail
            refine hK.out _ _ O34.out.s (fun hHeld2 => ?_)
            clear hK K hHeld O33 hb34
            have hHeld := hHeld2
            clear hHeld2
            have TH := O34.out.ther (ea) (LEa.out.trans z26_len.symm)
            replace O34 := hidden (O34.out.set0 (ea) (LEa.out.trans z26_len.symm))
            refine wpAnyH_ready (rs := [6]) (by kernel_rfl) (by simp) ?_
            refine AllReadyH.cons (o := _) rfl (fun K hK => ?_) AllReadyH.nil
            rw [if_pos (by rfl)]
            refine wp_store_mid _ _ _ rfl _ _ (List.toArray (ea)) rfl rfl TH IEa.out OEa.out ?_
            refine hK.out _ _ O34.out.s (fun hHeld2 => ?_)
            clear hK K hHeld TH
            have hHeld := hHeld2
            clear hHeld2
            replace O34 := hidden O34.out.swap
            have TH := O34.out.ther (eb) (LEb.out.trans z26_len.symm)
            replace O34 := hidden (O34.out.set0 (eb) (LEb.out.trans z26_len.symm))
            refine wpAnyH_ready (rs := [7]) (by kernel_rfl) (by simp) ?_
            refine AllReadyH.cons (o := _) rfl (fun K hK => ?_) AllReadyH.nil
            rw [if_pos (by rfl)]
            refine wp_store_mid _ _ _ rfl _ _ (List.toArray (eb)) rfl rfl TH IEb.out OEb.out ?_
            refine hK.out _ _ O34.out.s (fun hHeld2 => ?_)
            clear hK K hHeld TH
            have hHeld := hHeld2
            clear hHeld2
            refine wpAnyH_done (by kernel_rfl) ?_ _
            go_wp2_with fail
            go_meet
            exact ⟨B32, B26, rfl, rfl, O34.out.ne, O34.out.m⟩
  case rest =>
  obtain ⟨G, H, rfl, rfl, hGH, xw⟩ := hcut
  replace MM := hidden xw
  clear xw
  generalize wc = w2 at *
  clear OA OB OEa OEb
  go_upto_region 3 with fail
  go_cut [59] (fun v wx => v = .bool false ∧ Mw w [(H, eb), (G, ea), (Y, [.int .u64 b.x0, .int .u64 b.x1, .int .u64 b.x2, .int .u64 b.x3]), (X, [.int .u64 a.x0, .int .u64 a.x1, .int .u64 a.x2, .int .u64 a.x3]), (w.heap.size + 1 + 1 + 1, cs), (w.heap.size + 1 + 1, [.int .u64 k.x0, .int .u64 k.x1, .int .u64 k.x2, .int .u64 k.x3]), (w.heap.size + 1, [.int .u64 b.x0, .int .u64 b.x1, .int .u64 b.x2, .int .u64 b.x3]), (w.heap.size, [.int .u64 a.x0, .int .u64 a.x1, .int .u64 a.x2, .int .u64 a.x3])] wx)
  case first =>
    as_aux_lemma =>
      refine wp_region_noPanic ?_
      refine wp_region_held_drew (S := Mw w [(H, eb), (G, ea), (Y, [.int .u64 b.x0, .int .u64 b.x1, .int .u64 b.x2, .int .u64 b.x3]), (X, [.int .u64 a.x0, .int .u64 a.x1, .int .u64 a.x2, .int .u64 a.x3]), (w.heap.size + 1 + 1 + 1, cs), (w.heap.size + 1 + 1, [.int .u64 k.x0, .int .u64 k.x1, .int .u64 k.x2, .int .u64 k.x3]), (w.heap.size + 1, [.int .u64 b.x0, .int .u64 b.x1, .int .u64 b.x2, .int .u64 b.x3]), (w.heap.size, [.int .u64 a.x0, .int .u64 a.x1, .int .u64 a.x2, .int .u64 a.x3])]) (by kernel_rfl) (MM.out.keep ((Below.refl _ _).drew)) (fun hHeld => ?_)
      refine wpAnyH_take (i := 0) (oi := _) (v := _) rfl (by kernel_rfl) (by kernel_rfl) (by kernel_rfl) (fun _ _ _ h => h) (yieldsIf_load_mid (by rfl) _ _ rfl _ _ rfl _ _ (fun _ h => (h.r (X, [.int .u64 a.x0, .int .u64 a.x1, .int .u64 a.x2, .int .u64 a.x3]) (by simp)).1) Tryd.underlying28 rfl JA.out) hHeld ?_
      refine wpAnyH_take (i := 1) (oi := _) (v := _) rfl (by kernel_rfl) (by kernel_rfl) (by kernel_rfl) (fun _ _ _ h => h) (yieldsIf_load_mid (by rfl) _ _ rfl _ _ rfl _ _ (fun _ h => (h.r (Y, [.int .u64 b.x0, .int .u64 b.x1, .int .u64 b.x2, .int .u64 b.x3]) (by simp)).1) Tryd.underlying28 rfl JB.out) hHeld ?_
      refine wpAnyH_take (i := 3) (oi := _) (v := _) rfl (by kernel_rfl) (by kernel_rfl) (by kernel_rfl) (fun _ _ _ h => h) (yieldsIf_load_mid (by rfl) _ _ rfl _ _ rfl _ _ (fun _ h => (h.r (G, ea) (by simp)).1) Tryd.underlying38 rfl IEa.out) hHeld ?_
      refine wpAnyH_take (i := 4) (oi := _) (v := _) rfl (by kernel_rfl) (by kernel_rfl) (by kernel_rfl) (fun _ _ _ h => h) (yieldsIf_load_mid (by rfl) _ _ rfl _ _ rfl _ _ (fun _ h => (h.r (H, eb) (by simp)).1) Tryd.underlying38 rfl IEb.out) hHeld ?_
      refine wpAnyH_ready (rs := [2]) (by kernel_rfl) (by simp) ?_
      refine AllReadyH.cons (o := _) rfl (fun K hK => ?_) AllReadyH.nil
      go_simp
      refine (AD.out _ hHeld.bel).mono ?_
      rintro e u1 ⟨rfl, hb⟩
      have hk := hidden (hHeld.keep hb)
      go_wp2_with fail
      refine hK.out _ _ hk.out (fun hHeld2 => ?_)
      clear hK K hHeld hb hk
      have hHeld := hHeld2
      clear hHeld2
      refine wpAnyH_ready (rs := [5]) (by kernel_rfl) (by simp) ?_
      refine AllReadyH.cons (o := _) rfl (fun K hK => ?_) AllReadyH.nil
      go_simp
      refine (EA.out _).mono ?_
      rintro e u2 ⟨rfl, hb⟩
      have hk := hidden (hHeld.keep hb)
      go_wp2_with fail
      refine hK.out _ _ hk.out (fun hHeld2 => ?_)
      clear hK K hHeld hb hk
      have hHeld := hHeld2
      clear hHeld2
      refine wpAnyH_ready (rs := [6]) (by kernel_rfl) (by simp) ?_
      refine AllReadyH.cons (o := _) rfl (fun K hK => ?_) AllReadyH.nil
      go_simp
      refine (LI.out _ _).mono ?_
      rintro e u3 ⟨rfl, hb⟩
      have hk := hidden (hHeld.keep hb)
      go_wp2_with fail
      refine hK.out _ _ hk.out (fun hHeld2 => ?_)
      clear hK K hHeld hb hk
      have hHeld := hHeld2
      clear hHeld2
      refine wpAnyH_take (i := 7) (oi := _) (v := ?_) rfl (by kernel_rfl) (by kernel_rfl) (by kernel_rfl) (fun _ _ _ h => h) (Or.inl ⟨by rfl, ?_⟩) hHeld ?_
      rotate_left 1
      · (intro w0 hSw; clear hSw; go_simp; try with_reducible rfl)
      refine wpAnyH_take (i := 8) (oi := _) (v := ?_) rfl (by kernel_rfl) (by kernel_rfl) (by kernel_rfl) (fun _ _ _ h => h) (Or.inl ⟨by rfl, ?_⟩) hHeld ?_
      rotate_left 1
      · (intro w0 hSw; clear hSw; go_simp; try with_reducible rfl)
      refine wpAnyH_take (i := 9) (oi := _) (v := _) rfl (by kernel_rfl) (by kernel_rfl) (by kernel_rfl) (fun _ _ _ h => h) (yieldsIf_load_mid (by rfl) _ _ rfl _ _ rfl _ _ (fun _ h => (h.r (X, [.int .u64 a.x0, .int .u64 a.x1, .int .u64 a.x2, .int .u64 a.x3]) (by simp)).1) Tryd.underlying28 rfl JA.out) hHeld ?_
      refine wpAnyH_take (i := 11) (oi := _) (v := _) rfl (by kernel_rfl) (by kernel_rfl) (by kernel_rfl) (fun _ _ _ h => h) (yieldsIf_load_mid (by rfl) _ _ rfl _ _ rfl _ _ (fun _ h => (h.r (G, ea) (by simp)).1) Tryd.underlying38 rfl IEa.out) hHeld ?_
      refine wpAnyH_ready (rs := [10]) (by kernel_rfl) (by simp) ?_
      refine AllReadyH.cons (o := _) rfl (fun K hK => ?_) AllReadyH.nil
      go_simp
      refine (NG.out _ hHeld.bel).mono ?_
      rintro e u4 ⟨rfl, hb⟩
      have hk := hidden (hHeld.keep hb)
      go_wp2_with fail
      refine hK.out _ _ hk.out (fun hHeld2 => ?_)
      clear hK K hHeld hb hk
      have hHeld := hHeld2
      clear hHeld2
      refine wpAnyH_ready (rs := [12]) (by kernel_rfl) (by simp) ?_
      refine AllReadyH.cons (o := _) rfl (fun K hK => ?_) AllReadyH.nil
      go_simp
      refine (EN.out _).mono ?_
      rintro e u5 ⟨rfl, hb⟩
      have hk := hidden (hHeld.keep hb)
      go_wp2_with fail
      refine hK.out _ _ hk.out (fun hHeld2 => ?_)
      clear hK K hHeld hb hk
      have hHeld := hHeld2
      clear hHeld2
      refine wpAnyH_ready (rs := [13]) (by kernel_rfl) (by simp) ?_
      refine AllReadyH.cons (o := _) rfl (fun K hK => ?_) AllReadyH.nil
      go_simp
      refine (LI.out _ _).mono ?_
      rintro e u6 ⟨rfl, hb⟩
      have hk := hidden (hHeld.keep hb)
      go_wp2_with fail
      refine hK.out _ _ hk.out (fun hHeld2 => ?_)
      clear hK K hHeld hb hk
      have hHeld := hHeld2
      clear hHeld2
      refine wpAnyH_take (i := 14) (oi := _) (v := ?_) rfl (by kernel_rfl) (by kernel_rfl) (by kernel_rfl) (fun _ _ _ h => h) (Or.inl ⟨by rfl, ?_⟩) hHeld ?_
      rotate_left 1
      · (intro w0 hSw; clear hSw; go_simp; try with_reducible rfl)
      refine wpAnyH_take (i := 15) (oi := _) (v := ?_) rfl (by kernel_rfl) (by kernel_rfl) (by kernel_rfl) (fun _ _ _ h => h) (Or.inl ⟨by rfl, ?_⟩) hHeld ?_
      rotate_left 1
      · (intro w0 hSw; clear hSw; go_simp; try with_reducible rfl)
      refine wpAnyH_take (i := 16) (oi := _) (v := ?_) rfl (by kernel_rfl) (by kernel_rfl) (by kernel_rfl) (fun _ _ _ h => h) (Or.inl ⟨by rfl, ?_⟩) hHeld ?_
      rotate_left 1
      · (intro w0 hSw; clear hSw; go_simp; try with_reducible rfl)
      refine wpAnyH_take (i := 17) (oi := _) (v := _) rfl (by kernel_rfl) (by kernel_rfl) (by kernel_rfl) (fun _ _ _ h => h) (yieldsIf_load_mid (by rfl) _ _ rfl _ _ rfl _ _ (fun _ h => (h.r (X, [.int .u64 a.x0, .int .u64 a.x1, .int .u64 a.x2, .int .u64 a.x3]) (by simp)).1) Tryd.underlying28 rfl JA.out) hHeld ?_
      refine wpAnyH_take (i := 19) (oi := _) (v := _) rfl (by kernel_rfl) (by kernel_rfl) (by kernel_rfl) (fun _ _ _ h => h) (yieldsIf_load_mid (by rfl) _ _ rfl _ _ rfl _ _ (fun _ h => (h.r (G, ea) (by simp)).1) Tryd.underlying38 rfl IEa.out) hHeld ?_
      refine wpAnyH_ready (rs := [18]) (by kernel_rfl) (by simp) ?_
      refine AllReadyH.cons (o := _) rfl (fun K hK => ?_) AllReadyH.nil
      go_simp
      refine (DB.out _ hHeld.bel).mono ?_
      rintro e u7 ⟨rfl, hb⟩
      have hk := hidden (hHeld.keep hb)
      go_wp2_with fail
      refine hK.out _ _ hk.out (fun hHeld2 => ?_)
      clear hK K hHeld hb hk
      have hHeld := hHeld2
      clear hHeld2
      refine wpAnyH_ready (rs := [20]) (by kernel_rfl) (by simp) ?_
      refine AllReadyH.cons (o := _) rfl (fun K hK => ?_) AllReadyH.nil
      go_simp
      refine (ED.out _).mono ?_
      rintro e u8 ⟨rfl, hb⟩
      have hk := hidden (hHeld.keep hb)
      go_wp2_with fail
      refine hK.out _ _ hk.out (fun hHeld2 => ?_)
      clear hK K hHeld hb hk
      have hHeld := hHeld2
      clear hHeld2
      refine wpAnyH_ready (rs := [21]) (by kernel_rfl) (by simp) ?_
      refine AllReadyH.cons (o := _) rfl (fun K hK => ?_) AllReadyH.nil
      go_simp
      refine (LI.out _ _).mono ?_
      rintro e u9 ⟨rfl, hb⟩
      have hk := hidden (hHeld.keep hb)
      go_wp2_with fail
      refine hK.out _ _ hk.out (fun hHeld2 => ?_)
      clear hK K hHeld hb hk
      have hHeld := hHeld2
      clear hHeld2
      refine wpAnyH_take (i := 22) (oi := _) (v := ?_) rfl (by kernel_rfl) (by kernel_rfl) (by kernel_rfl) (fun _ _ _ h => h) (Or.inl ⟨by rfl, ?_⟩) hHeld ?_
      rotate_left 1
      · (intro w0 hSw; clear hSw; go_simp; try with_reducible rfl)
      refine wpAnyH_take (i := 23) (oi := _) (v := ?_) rfl (by kernel_rfl) (by kernel_rfl) (by kernel_rfl) (fun _ _ _ h => h) (Or.inl ⟨by rfl, ?_⟩) hHeld ?_
      rotate_left 1
      · (intro w0 hSw; clear hSw; go_simp; try with_reducible rfl)
      refine wpAnyH_take (i := 24) (oi := _) (v := ?_) rfl (by kernel_rfl) (by kernel_rfl) (by kernel_rfl) (fun _ _ _ h => h) (Or.inl ⟨by rfl, ?_⟩) hHeld ?_
      rotate_left 1
      · (intro w0 hSw; clear hSw; go_simp; try with_reducible rfl)
      refine wpAnyH_take (i := 25) (oi := _) (v := _) rfl (by kernel_rfl) (by kernel_rfl) (by kernel_rfl) (fun _ _ _ h => h) (yieldsIf_load_mid (by rfl) _ _ rfl _ _ rfl _ _ (fun _ h => (h.r (X, [.int .u64 a.x0, .int .u64 a.x1, .int .u64 a.x2, .int .u64 a.x3]) (by simp)).1) Tryd.underlying28 rfl JA.out) hHeld ?_
      refine wpAnyH_take (i := 26) (oi := _) (v := _) rfl (by kernel_rfl) (by kernel_rfl) (by kernel_rfl) (fun _ _ _ h => h) (yieldsIf_load_mid (by rfl) _ _ rfl _ _ rfl _ _ (fun _ h => (h.r (w.heap.size + 1 + 1, [.int .u64 k.x0, .int .u64 k.x1, .int .u64 k.x2, .int .u64 k.x3]) (by simp)).1) Tryd.underlying24 rfl IK.out) hHeld ?_
      refine wpAnyH_take (i := 28) (oi := _) (v := _) rfl (by kernel_rfl) (by kernel_rfl) (by kernel_rfl) (fun _ _ _ h => h) (yieldsIf_load_mid (by rfl) _ _ rfl _ _ rfl _ _ (fun _ h => (h.r (G, ea) (by simp)).1) Tryd.underlying38 rfl IEa.out) hHeld ?_
      refine wpAnyH_take (i := 29) (oi := _) (v := _) rfl (by kernel_rfl) (by kernel_rfl) (by kernel_rfl) (fun _ _ _ h => h) (yieldsIf_load_mid (by rfl) _ _ rfl _ _ rfl _ _ (fun _ h => (h.r (w.heap.size + 1 + 1, [.int .u64 k.x0, .int .u64 k.x1, .int .u64 k.x2, .int .u64 k.x3]) (by simp)).1) Tryd.underlying24 rfl IK.out) hHeld ?_
      refine wpAnyH_ready (rs := [27]) (by kernel_rfl) (by simp) ?_
      refine AllReadyH.cons (o := _) rfl (fun K hK => ?_) AllReadyH.nil
      go_simp
      refine (TI.out _ hHeld.bel).mono ?_
      rintro e u10 ⟨rfl, hb⟩
      have hk := hidden (hHeld.keep hb)
      go_wp2_with fail
      refine hK.out _ _ hk.out (fun hHeld2 => ?_)
      clear hK K hHeld hb hk
      have hHeld := hHeld2
      clear hHeld2
      refine wpAnyH_ready (rs := [30]) (by kernel_rfl) (by simp) ?_
      refine AllReadyH.cons (o := _) rfl (fun K hK => ?_) AllReadyH.nil
      go_simp
      refine (NU.out _).mono ?_
      rintro e u11 ⟨rfl, hb⟩
      have hk := hidden (hHeld.keep hb)
      go_wp2_with fail
      refine hK.out _ _ hk.out (fun hHeld2 => ?_)
      clear hK K hHeld hb hk
      have hHeld := hHeld2
      clear hHeld2
      refine wpAnyH_ready (rs := [31]) (by kernel_rfl) (by simp) ?_
      refine AllReadyH.cons (o := _) rfl (fun K hK => ?_) AllReadyH.nil
      go_simp
      refine (ET.out _).mono ?_
      rintro e u12 ⟨rfl, hb⟩
      have hk := hidden (hHeld.keep hb)
      go_wp2_with fail
      refine hK.out _ _ hk.out (fun hHeld2 => ?_)
      clear hK K hHeld hb hk
      have hHeld := hHeld2
      clear hHeld2
      refine wpAnyH_ready (rs := [32]) (by kernel_rfl) (by simp) ?_
      refine AllReadyH.cons (o := _) rfl (fun K hK => ?_) AllReadyH.nil
      go_simp
      refine (LI.out _ _).mono ?_
      rintro e u13 ⟨rfl, hb⟩
      have hk := hidden (hHeld.keep hb)
      go_wp2_with fail
      refine hK.out _ _ hk.out (fun hHeld2 => ?_)
      clear hK K hHeld hb hk
      have hHeld := hHeld2
      clear hHeld2
      refine wpAnyH_take (i := 33) (oi := _) (v := ?_) rfl (by kernel_rfl) (by kernel_rfl) (by kernel_rfl) (fun _ _ _ h => h) (Or.inl ⟨by rfl, ?_⟩) hHeld ?_
      rotate_left 1
      · (intro w0 hSw; clear hSw; go_simp; try with_reducible rfl)
      refine wpAnyH_take (i := 34) (oi := _) (v := ?_) rfl (by kernel_rfl) (by kernel_rfl) (by kernel_rfl) (fun _ _ _ h => h) (Or.inl ⟨by rfl, ?_⟩) hHeld ?_
      rotate_left 1
      · (intro w0 hSw; clear hSw; go_simp; try with_reducible rfl)
      refine wpAnyH_done (by kernel_rfl) ?_ _
      refine NoPanic.normal ?_
      have HH := hidden hHeld
      clear hHeld
      go_wp2_with fail
      go_meet
      exact ⟨rfl, HH.out⟩
  case rest =>
  obtain ⟨rfl, hm⟩ := hcut
  replace MM := hidden hm
  clear hm
  generalize wc = w3 at *
  clear AD EA NG EN DB ED TI NU ET IK
  go_upto_region 5 with fail
  go_cut [73] (fun v wx => v = .bool false ∧ Mw w [(H, eb), (G, ea), (Y, [.int .u64 b.x0, .int .u64 b.x1, .int .u64 b.x2, .int .u64 b.x3]), (X, [.int .u64 a.x0, .int .u64 a.x1, .int .u64 a.x2, .int .u64 a.x3]), (w.heap.size + 1 + 1 + 1, cs), (w.heap.size + 1 + 1, [.int .u64 k.x0, .int .u64 k.x1, .int .u64 k.x2, .int .u64 k.x3]), (w.heap.size + 1, [.int .u64 b.x0, .int .u64 b.x1, .int .u64 b.x2, .int .u64 b.x3]), (w.heap.size, [.int .u64 a.x0, .int .u64 a.x1, .int .u64 a.x2, .int .u64 a.x3])] wx)
  case first =>
    as_aux_lemma =>
      refine wp_region_noPanic ?_
      refine wp_region_held_drew (S := Mw w [(H, eb), (G, ea), (Y, [.int .u64 b.x0, .int .u64 b.x1, .int .u64 b.x2, .int .u64 b.x3]), (X, [.int .u64 a.x0, .int .u64 a.x1, .int .u64 a.x2, .int .u64 a.x3]), (w.heap.size + 1 + 1 + 1, cs), (w.heap.size + 1 + 1, [.int .u64 k.x0, .int .u64 k.x1, .int .u64 k.x2, .int .u64 k.x3]), (w.heap.size + 1, [.int .u64 b.x0, .int .u64 b.x1, .int .u64 b.x2, .int .u64 b.x3]), (w.heap.size, [.int .u64 a.x0, .int .u64 a.x1, .int .u64 a.x2, .int .u64 a.x3])]) (by kernel_rfl) (MM.out.keep ((Below.refl _ _).drew)) (fun hHeld => ?_)
      refine wpAnyH_take (i := 0) (oi := _) (v := _) rfl (by kernel_rfl) (by kernel_rfl) (by kernel_rfl) (fun _ _ _ h => h) (yieldsIf_load_mid (by rfl) _ _ rfl _ _ rfl _ _ (fun _ h => (h.r (X, [.int .u64 a.x0, .int .u64 a.x1, .int .u64 a.x2, .int .u64 a.x3]) (by simp)).1) Tryd.underlying28 rfl JA.out) hHeld ?_
      refine wpAnyH_take (i := 1) (oi := _) (v := _) rfl (by kernel_rfl) (by kernel_rfl) (by kernel_rfl) (fun _ _ _ h => h) (yieldsIf_load_mid (by rfl) _ _ rfl _ _ rfl _ _ (fun _ h => (h.r (Y, [.int .u64 b.x0, .int .u64 b.x1, .int .u64 b.x2, .int .u64 b.x3]) (by simp)).1) Tryd.underlying28 rfl JB.out) hHeld ?_
      refine wpAnyH_take (i := 3) (oi := _) (v := _) rfl (by kernel_rfl) (by kernel_rfl) (by kernel_rfl) (fun _ _ _ h => h) (yieldsIf_load_mid (by rfl) _ _ rfl _ _ rfl _ _ (fun _ h => (h.r (G, ea) (by simp)).1) Tryd.underlying38 rfl IEa.out) hHeld ?_
      refine wpAnyH_take (i := 4) (oi := _) (v := _) rfl (by kernel_rfl) (by kernel_rfl) (by kernel_rfl) (fun _ _ _ h => h) (yieldsIf_load_mid (by rfl) _ _ rfl _ _ rfl _ _ (fun _ h => (h.r (H, eb) (by simp)).1) Tryd.underlying38 rfl IEb.out) hHeld ?_
      refine wpAnyH_ready (rs := [2]) (by kernel_rfl) (by simp) ?_
      refine AllReadyH.cons (o := _) rfl (fun K hK => ?_) AllReadyH.nil
      go_simp
      refine (SM.out _ hHeld.bel).mono ?_
      rintro e u14 ⟨rfl, hb⟩
      have hk := hidden (hHeld.keep hb)
      go_wp2_with fail
      refine hK.out _ _ hk.out (fun hHeld2 => ?_)
      clear hK K hHeld hb hk
      have hHeld := hHeld2
      clear hHeld2
      refine wpAnyH_ready (rs := [5]) (by kernel_rfl) (by simp) ?_
      refine AllReadyH.cons (o := _) rfl (fun K hK => ?_) AllReadyH.nil
      go_simp
      refine (ES.out _).mono ?_
      rintro e u15 ⟨rfl, hb⟩
      have hk := hidden (hHeld.keep hb)
      go_wp2_with fail
      refine hK.out _ _ hk.out (fun hHeld2 => ?_)
      clear hK K hHeld hb hk
      have hHeld := hHeld2
      clear hHeld2
      refine wpAnyH_take (i := 6) (oi := _) (v := ?_) rfl (by kernel_rfl) (by kernel_rfl) (by kernel_rfl) (fun _ _ _ h => h) (Or.inl ⟨by rfl, ?_⟩) hHeld ?_
      rotate_left 1
      · (intro w0 hSw; clear hSw; go_simp; try with_reducible rfl)
      refine wpAnyH_take (i := 7) (oi := _) (v := ?_) rfl (by kernel_rfl) (by kernel_rfl) (by kernel_rfl) (fun _ _ _ h => h) (Or.inl ⟨by rfl, ?_⟩) hHeld ?_
      rotate_left 1
      · (intro w0 hSw; clear hSw; go_simp; try with_reducible rfl)
      refine wpAnyH_take (i := 8) (oi := _) (v := _) rfl (by kernel_rfl) (by kernel_rfl) (by kernel_rfl) (fun _ _ _ h => h) (yieldsIf_load_mid (by rfl) _ _ rfl _ _ rfl _ _ (fun _ h => (h.r (X, [.int .u64 a.x0, .int .u64 a.x1, .int .u64 a.x2, .int .u64 a.x3]) (by simp)).1) Tryd.underlying28 rfl JA.out) hHeld ?_
      refine wpAnyH_take (i := 10) (oi := _) (v := _) rfl (by kernel_rfl) (by kernel_rfl) (by kernel_rfl) (fun _ _ _ h => h) (yieldsIf_load_mid (by rfl) _ _ rfl _ _ rfl _ _ (fun _ h => (h.r (G, ea) (by simp)).1) Tryd.underlying38 rfl IEa.out) hHeld ?_
      refine wpAnyH_ready (rs := [9]) (by kernel_rfl) (by simp) ?_
      refine AllReadyH.cons (o := _) rfl (fun K hK => ?_) AllReadyH.nil
      go_simp
      refine (NC.out _ hHeld.bel).mono ?_
      rintro e u16 ⟨rfl, hb⟩
      have hk := hidden (hHeld.keep hb)
      go_wp2_with fail
      refine hK.out _ _ hk.out (fun hHeld2 => ?_)
      clear hK K hHeld hb hk
      have hHeld := hHeld2
      clear hHeld2
      refine wpAnyH_ready (rs := [11]) (by kernel_rfl) (by simp) ?_
      refine AllReadyH.cons (o := _) rfl (fun K hK => ?_) AllReadyH.nil
      go_simp
      refine (EC.out _).mono ?_
      rintro e u17 ⟨rfl, hb⟩
      have hk := hidden (hHeld.keep hb)
      go_wp2_with fail
      refine hK.out _ _ hk.out (fun hHeld2 => ?_)
      clear hK K hHeld hb hk
      have hHeld := hHeld2
      clear hHeld2
      refine wpAnyH_take (i := 12) (oi := _) (v := ?_) rfl (by kernel_rfl) (by kernel_rfl) (by kernel_rfl) (fun _ _ _ h => h) (Or.inl ⟨by rfl, ?_⟩) hHeld ?_
      rotate_left 1
      · (intro w0 hSw; clear hSw; go_simp; try with_reducible rfl)
      refine wpAnyH_take (i := 13) (oi := _) (v := ?_) rfl (by kernel_rfl) (by kernel_rfl) (by kernel_rfl) (fun _ _ _ h => h) (Or.inl ⟨by rfl, ?_⟩) hHeld ?_
      rotate_left 1
      · (intro w0 hSw; clear hSw; go_simp; try with_reducible rfl)
      refine wpAnyH_done (by kernel_rfl) ?_ _
      refine NoPanic.normal ?_
      have HH := hidden hHeld
      clear hHeld
      go_wp2_with fail
      go_meet
      exact ⟨rfl, HH.out⟩
  case rest =>
  obtain ⟨rfl, hm⟩ := hcut
  replace MM := hidden hm
  clear hm
  generalize wc = w4 at *
  clear SM ES EC EQ IEa IEb
  replace MM := hidden (MM.out.sub (M := [(Y, [.int .u64 b.x0, .int .u64 b.x1, .int .u64 b.x2, .int .u64 b.x3]), (X, [.int .u64 a.x0, .int .u64 a.x1, .int .u64 a.x2, .int .u64 a.x3]), (w.heap.size + 1 + 1 + 1, cs)]) (by simp))
  have RX := hidden (MM.out.r (X, [.int .u64 a.x0, .int .u64 a.x1, .int .u64 a.x2, .int .u64 a.x3]) (by simp)).1
  have RC := hidden (MM.out.r (w.heap.size + 1 + 1 + 1, cs) (by simp)).1
  go_upto_region 8 with (first | refine wpList_load_mid rfl 28 _ rfl X 0 (by rfl) [.int .u64 a.x0, .int .u64 a.x1, .int .u64 a.x2, .int .u64 a.x3] _ RX.out Tryd.underlying28 rfl JA.out ?_ | refine wpList_load_mid rfl 26 _ rfl (w.heap.size + 1 + 1 + 1) 0 (by rfl) cs _ RC.out b_und rfl IB.out ?_ | (go_at_call 19; refine (LD.out _ MM.out.bel).mono ?_; rintro e wa ⟨rfl, ha⟩; have MK := (MM.out.keep ha); have HXw := (MK.r (X, [.int .u64 a.x0, .int .u64 a.x1, .int .u64 a.x2, .int .u64 a.x3]) (by simp)).2.2.2; have HYw := (MK.r (Y, [.int .u64 b.x0, .int .u64 b.x1, .int .u64 b.x2, .int .u64 b.x3]) (by simp)).2.2.2; have HWw := MK.bel.size; replace MM := hidden (MK.new [.int .u64 q.x0, .int .u64 q.x1, .int .u64 q.x2, .int .u64 q.x3] 28); clear ha MK))
  clear RX RC LD
  have hZX : wa.heap.size ≠ X := by
    have h9 : X < wa.heap.size := HXw
    omega
  have hZY : wa.heap.size ≠ Y := by
    have h9 : Y < wa.heap.size := HYw
    omega
  have hZw : w.heap.size ≤ wa.heap.size := HWw
  have hZl : ∀ (g : World), g.there wa.heap.size 0 4 → wa.heap.size < g.heap.size := fun g h => by
    obtain ⟨u, hu⟩ := Option.isSome_iff_exists.1 (h 0 (by omega)).1
    exact World.block_lt_of_cell? g _ hu
  clear HXw HYw HWw
  generalize wa.alloc (.cells #[.int .u64 q.x0, .int .u64 q.x1, .int .u64 q.x2, .int .u64 q.x3] 28) = w5 at *
  generalize wa.heap.size = Zb at *
  have RC := hidden (MM.out.r (w.heap.size + 1 + 1 + 1, cs) (by simp)).1
  have IQ := hidden (el_i q)
  have OQ := hidden (el_one q)
  have LQ := hidden (el_len q)
  have LIq := hidden (fun w' => LI.out q w')
  have JQ := hidden (l4_i q)
  clear LI
  generalize el q = eq at EDc IQ OQ LQ LIq
  go_upto_region 9 with (first | refine wpList_load_mid rfl 26 _ rfl (w.heap.size + 1 + 1 + 1) 0 (by rfl) cs _ RC.out b_und rfl IB.out ?_ | (go_at_call 20; refine (EDc.out _).mono ?_; rintro e wb ⟨rfl, ha⟩; have TH := hidden (((MM.out.keep ha).new z26 38).ther eq (.head _) (LQ.out.trans z26_len.symm)); replace MM : Hid (Mw w [(wb.heap.size, eq), (Zb, [.int .u64 q.x0, .int .u64 q.x1, .int .u64 q.x2, .int .u64 q.x3]), (Y, [.int .u64 b.x0, .int .u64 b.x1, .int .u64 b.x2, .int .u64 b.x3]), (X, [.int .u64 a.x0, .int .u64 a.x1, .int .u64 a.x2, .int .u64 a.x3]), (w.heap.size + 1 + 1 + 1, cs)] ((wb.alloc (.cells #[.int .i64 0, .int .i64 0, .int .i64 0, .int .i64 0, .int .i64 0, .int .i64 0, .int .i64 0, .int .i64 0, .int .i64 0, .int .i64 0, .int .i64 0, .int .i64 0, .int .i64 0, .int .i64 0, .int .i64 0, .int .i64 0, .int .i64 0, .int .i64 0, .int .i64 0, .int .i64 0, .int .i64 0, .int .u64 0, .int .u64 0, .int .u64 0, .int .u64 0, .slice none 0 0] 38)).setCells wb.heap.size 0 eq)) := hidden ((MM.out.keep ha).newset z26 eq 38 (LQ.out.trans z26_len.symm)); clear ha) | refine wpList_store_mid rfl 38 _ _ rfl (wb.heap.size) 0 eq.toArray (by rfl) (by rfl) TH.out IQ.out OQ.out ?_)
  generalize wb.heap.size = Wb at *
  generalize (wb.alloc (.cells #[.int .i64 0, .int .i64 0, .int .i64 0, .int .i64 0, .int .i64 0, .int .i64 0, .int .i64 0, .int .i64 0, .int .i64 0, .int .i64 0, .int .i64 0, .int .i64 0, .int .i64 0, .int .i64 0, .int .i64 0, .int .i64 0, .int .i64 0, .int .i64 0, .int .i64 0, .int .i64 0, .int .i64 0, .int .u64 0, .int .u64 0, .int .u64 0, .int .u64 0, .slice none 0 0] 38)).setCells Wb 0 eq = w6 at *
  have RZ := hidden (MM.out.r (Zb, [.int .u64 q.x0, .int .u64 q.x1, .int .u64 q.x2, .int .u64 q.x3]) (by simp)).1
  have RW := hidden (MM.out.r (Wb, eq) (by simp)).1
  clear EDc RC TH
  refine wp_region_lit ?_
  refine wpList_want (by rfl) (fun K hK => ?_)
  go_simp
  refine hK.out _ _ ?_
  clear hK K
  refine wpList_want (by rfl) (fun K hK => ?_)
  go_simp
  refine hK.out _ _ ?_
  clear hK K
  refine wpList_want (by rfl) (fun K hK => ?_)
  go_simp
  refine hK.out _ _ ?_
  clear hK K
  refine wpList_want (by rfl) (fun K hK => ?_)
  go_simp
  refine hK.out _ _ ?_
  clear hK K
  refine wpList_loadG (by rfl) 28 _ rfl Zb 0 (by rfl) [.int .u64 q.x0, .int .u64 q.x1, .int .u64 q.x2, .int .u64 q.x3] _ RZ.out Tryd.underlying28 rfl JQ.out ?_
  refine wpList_loadG (by rfl) 38 _ rfl Wb 0 (by rfl) eq _ RW.out Tryd.underlying38 rfl IQ.out ?_
  refine wpList_want (by rfl) (fun K hK => ?_)
  go_simp
  refine (LIq.out _).mono ?_
  rintro e wd ⟨rfl, ha⟩
  replace MM := hidden (MM.out.keep ha)
  go_wp2_with fail
  refine hK.out _ _ ?_
  clear hK K ha
  refine wpList_want (by rfl) (fun K hK => ?_)
  go_simp
  refine hK.out _ _ ?_
  clear hK K
  refine wpList_want (by rfl) (fun K hK => ?_)
  go_simp
  refine hK.out _ _ ?_
  clear hK K
  go_upto_region 11 with fail
  generalize wd = w7 at *
  clear RZ RW IQ OQ LQ LIq
  have JL := hidden (l4_i la)
  have OL := hidden (c4_one la)
  have S7 := hidden (⟨(MM.out.sub (M := [(Y, [.int .u64 b.x0, .int .u64 b.x1, .int .u64 b.x2, .int .u64 b.x3]), (X, [.int .u64 a.x0, .int .u64 a.x1, .int .u64 a.x2, .int .u64 a.x3])]) (by simp)).keep ((Below.refl _ _).drew), there_keepM (MM.out.r (Zb, [.int .u64 q.x0, .int .u64 q.x1, .int .u64 q.x2, .int .u64 q.x3]) (by simp)).2.1 ((Below.refl _ _).drew)⟩ : Mw w [(Y, [.int .u64 b.x0, .int .u64 b.x1, .int .u64 b.x2, .int .u64 b.x3]), (X, [.int .u64 a.x0, .int .u64 a.x1, .int .u64 a.x2, .int .u64 a.x3])] w7.drew ∧ World.there w7.drew Zb 0 4)
  clear MM
  go_cut [14] (fun v wx => v = .int .i64 0 ∧ Mw w [(Zb, [.int .u64 la.x0, .int .u64 la.x1, .int .u64 la.x2, .int .u64 la.x3]), (X, [.int .u64 a.x0, .int .u64 a.x1, .int .u64 a.x2, .int .u64 a.x3])] wx)
  case first =>
    as_aux_lemma =>
      refine wp_region_noPanic ?_
      refine wp_region_held_drew (S := fun w' => Mw w [(Y, [.int .u64 b.x0, .int .u64 b.x1, .int .u64 b.x2, .int .u64 b.x3]), (X, [.int .u64 a.x0, .int .u64 a.x1, .int .u64 a.x2, .int .u64 a.x3])] w' ∧ World.there w' Zb 0 4) (by kernel_rfl) S7.out (fun hHeld => ?_)
      refine wpAnyH_take (i := 0) (oi := _) (v := _) rfl (by kernel_rfl) (by kernel_rfl) (by kernel_rfl) (fun _ _ _ h => h) (yieldsIf_load_mid (by rfl) _ _ rfl _ _ rfl _ _ (fun _ h => (h.1.r (Y, [.int .u64 b.x0, .int .u64 b.x1, .int .u64 b.x2, .int .u64 b.x3]) (by simp)).1) Tryd.underlying28 rfl JB.out) hHeld ?_
      refine wpAnyH_take (i := 1) (oi := _) (v := _) rfl (by kernel_rfl) (by kernel_rfl) (by kernel_rfl) (fun _ _ _ h => h) (yieldsIf_load_mid (by rfl) _ _ rfl _ _ rfl _ _ (fun _ h => (h.1.r (X, [.int .u64 a.x0, .int .u64 a.x1, .int .u64 a.x2, .int .u64 a.x3]) (by simp)).1) Tryd.underlying28 rfl JA.out) hHeld ?_
      refine wpAnyH_ready (rs := [2]) (by kernel_rfl) (by simp) ?_
      refine AllReadyH.cons (o := _) rfl (fun K hK => ?_) AllReadyH.nil
      go_simp
      refine (NC.out _ hHeld.1.bel).mono ?_
      rintro e g0 ⟨rfl, hb⟩
      have hk : Hid (Mw w [(Y, [.int .u64 b.x0, .int .u64 b.x1, .int .u64 b.x2, .int .u64 b.x3]), (X, [.int .u64 a.x0, .int .u64 a.x1, .int .u64 a.x2, .int .u64 a.x3])] g0 ∧ World.there g0 Zb 0 4) := hidden ⟨hHeld.1.keep hb, there_keepM hHeld.2 hb⟩
      go_wp2_with fail
      refine hK.out _ _ hk.out (fun hHeld2 => ?_)
      clear hK K hHeld hb hk
      have hHeld := hHeld2
      clear hHeld2
      refine wpAnyH_ready (rs := [3]) (by kernel_rfl) (by simp) ?_
      refine AllReadyH.cons (o := _) rfl (fun K hK => ?_) AllReadyH.nil
      go_simp
      refine (LD2.out _ hHeld.1.bel).mono ?_
      rintro e g1 ⟨rfl, hb⟩
      have hk : Hid (Mw w [(Y, [.int .u64 b.x0, .int .u64 b.x1, .int .u64 b.x2, .int .u64 b.x3]), (X, [.int .u64 a.x0, .int .u64 a.x1, .int .u64 a.x2, .int .u64 a.x3])] g1 ∧ World.there g1 Zb 0 4) := hidden ⟨hHeld.1.keep hb, there_keepM hHeld.2 hb⟩
      go_wp2_with fail
      refine hK.out _ _ hk.out (fun hHeld2 => ?_)
      clear hK K hHeld hb hk
      have hHeld := hHeld2
      clear hHeld2
      refine wpAnyH_take (i := 4) (oi := _) (v := ?_) rfl (by kernel_rfl) (by kernel_rfl) (by kernel_rfl) (fun _ _ _ h => h) (Or.inl ⟨by rfl, ?_⟩) hHeld ?_
      rotate_left 1
      · (intro w0 hSw; clear hSw; go_simp; try with_reducible rfl)
      refine wpAnyH_take (i := 5) (oi := _) (v := ?_) rfl (by kernel_rfl) (by kernel_rfl) (by kernel_rfl) (fun _ _ _ h => h) (Or.inl ⟨by rfl, ?_⟩) hHeld ?_
      rotate_left 1
      · (intro w0 hSw; clear hSw; go_simp; try with_reducible rfl)
      refine wpAnyH_take (i := 6) (oi := _) (v := ?_) rfl (by kernel_rfl) (by kernel_rfl) (by kernel_rfl) (fun _ _ _ h => h) (Or.inl ⟨by rfl, ?_⟩) hHeld ?_
      rotate_left 1
      · (intro w0 hSw; clear hSw; go_simp; try with_reducible rfl)
      refine wpAnyH_ready (rs := [7]) (by kernel_rfl) (by simp) ?_
      refine AllReadyH.cons (o := _) rfl (fun K hK => ?_) AllReadyH.nil
      rw [if_pos (by rfl)]
      refine wp_store_mid _ _ _ rfl _ _ (List.toArray [.int .u64 la.x0, .int .u64 la.x1, .int .u64 la.x2, .int .u64 la.x3]) rfl rfl hHeld.2 JL.out OL.out ?_
      have N1 : Hid (Mw w [(Zb, [.int .u64 la.x0, .int .u64 la.x1, .int .u64 la.x2, .int .u64 la.x3]), (X, [.int .u64 a.x0, .int .u64 a.x1, .int .u64 a.x2, .int .u64 a.x3])] (g1.setCells Zb 0 [.int .u64 la.x0, .int .u64 la.x1, .int .u64 la.x2, .int .u64 la.x3])) := hidden ⟨below_setCellsM Zb _ 0 hHeld.1.bel hZw, fun p hp => by
        rcases List.mem_cons.1 hp with rfl | hp
        · exact ⟨World.rangeAt_setCells_same g1 Zb 0 _ hHeld.2, there_setM hHeld.2 _ _, hZw, by rw [size_setCellsM]; exact hZl g1 hHeld.2⟩
        · obtain rfl := List.mem_singleton.1 hp
          have q := hHeld.1.r (X, [.int .u64 a.x0, .int .u64 a.x1, .int .u64 a.x2, .int .u64 a.x3]) (by simp)
          exact ⟨World.rangeAt_setCells_apart q.1 _ _ _ (Or.inl (fun e => hZX e.symm)), there_setM q.2.1 _ _, q.2.2.1, by rw [size_setCellsM]; exact q.2.2.2⟩⟩
      have N2 : Hid (Mw w [(Y, [.int .u64 b.x0, .int .u64 b.x1, .int .u64 b.x2, .int .u64 b.x3]), (X, [.int .u64 a.x0, .int .u64 a.x1, .int .u64 a.x2, .int .u64 a.x3])] (g1.setCells Zb 0 [.int .u64 la.x0, .int .u64 la.x1, .int .u64 la.x2, .int .u64 la.x3]) ∧ World.there (g1.setCells Zb 0 [.int .u64 la.x0, .int .u64 la.x1, .int .u64 la.x2, .int .u64 la.x3]) Zb 0 4) := hidden ⟨⟨below_setCellsM Zb _ 0 hHeld.1.bel hZw, fun p hp => by
        have q := hHeld.1.r p hp
        have hne : p.1 ≠ Zb := by
          rcases List.mem_cons.1 hp with rfl | hp
          · exact fun e => hZY e.symm
          · obtain rfl := List.mem_singleton.1 hp
            exact fun e => hZX e.symm
        exact ⟨World.rangeAt_setCells_apart q.1 _ _ _ (Or.inl hne), there_setM q.2.1 _ _, q.2.2.1, by rw [size_setCellsM]; exact q.2.2.2⟩⟩, there_setM hHeld.2 _ _⟩
      refine hK.out _ _ N2.out (fun hHeld2 => ?_)
      clear hK K hHeld N2
      have hHeld := hHeld2
      clear hHeld2
      refine wpAnyH_ready (rs := [8]) (by kernel_rfl) (by simp) ?_
      refine AllReadyH.cons (o := _) rfl (fun K hK => ?_) AllReadyH.nil
      go_simp
      refine hK.out _ _ hHeld (fun hHeld2 => ?_)
      clear hK K hHeld2 hHeld
      refine wpAnyH_done (by kernel_rfl) ?_ _
      refine NoPanic.normal ?_
      go_wp2_with fail
      go_meet
      exact ⟨rfl, N1.out⟩
  case rest =>
  obtain ⟨rfl, hm⟩ := hcut
  have MM := hidden hm
  have RZ := hidden (hm.r (Zb, [.int .u64 la.x0, .int .u64 la.x1, .int .u64 la.x2, .int .u64 la.x3]) (by simp)).1
  have RX := hidden (hm.r (X, [.int .u64 a.x0, .int .u64 a.x1, .int .u64 a.x2, .int .u64 a.x3]) (by simp)).1
  have BL := hidden hm.bel
  clear hm MM NC LD2
  go_upto_region 12 with fail
  refine wp_region_lit ?_
  refine wpList_want (by rfl) (fun K hK => ?_)
  go_simp
  refine hK.out _ _ ?_
  clear hK K
  refine wpList_want (by rfl) (fun K hK => ?_)
  go_simp
  refine hK.out _ _ ?_
  clear hK K
  refine wpList_want (by rfl) (fun K hK => ?_)
  go_simp
  refine hK.out _ _ ?_
  clear hK K
  refine wpList_loadG (by rfl) 28 _ rfl Zb 0 (by rfl) [.int .u64 la.x0, .int .u64 la.x1, .int .u64 la.x2, .int .u64 la.x3] _ RZ.out Tryd.underlying28 rfl JL.out ?_
  refine wpList_loadG (by rfl) 28 _ rfl X 0 (by rfl) [.int .u64 a.x0, .int .u64 a.x1, .int .u64 a.x2, .int .u64 a.x3] _ RX.out Tryd.underlying28 rfl JA.out ?_
  refine wpList_want (by rfl) (fun K hK => ?_)
  go_simp
  refine (SM2.out _ BL.out).mono ?_
  rintro e wf ⟨rfl, ha⟩
  replace BL := hidden (bl_trans BL.out ha)
  go_wp2_with fail
  refine hK.out _ _ ?_
  clear hK K ha
  refine wpList_want (by rfl) (fun K hK => ?_)
  go_simp
  refine hK.out _ _ ?_
  clear hK K
  refine wpList_want (by rfl) (fun K hK => ?_)
  go_simp
  refine hK.out _ _ ?_
  clear hK K
  go_wp2_with fail
  refine bodyPost_ret (v := .bool true) (by simp [results, Tryd.results3, go_sem]) rfl ⟨rfl, BL.out⟩
end Go.Proofs.YtldapnlajnllhabDoor
