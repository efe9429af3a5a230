import Derived.Test.YtkfkmndhbfeagaaGreatDoorPd
namespace Go.Proofs.YtkfkmndhbfeagaaGreatDoor
open Go.RowKit
set_option linter.unusedVariables false
theorem run_arrayAt {P : Program} {w : World} {t e : TypeId} {n len cap : Nat} {a : Addr} (h : P.underlying t = some (.array n e)) (hl : n ≤ len) :
    (Instr.arrayAt t (.slice (some a) len cap)).run P w = .ok (.pointer (some a)) w := by
  have hl2 : ¬ len < n := by omega
  simp [Instr.arrayAt, run_underlying h, hl2, go_sem]

theorem mt_Decode (w : World) : (method 275 52 (.agg #[.int .u64 0, .int .u64 0, .int .u64 0, .int .u64 0]) "Decode").run Tryz.prog w = .ok (116, .agg #[.int .u64 0, .int .u64 0, .int .u64 0, .int .u64 0]) w := by kernel_rfl
theorem results_tri {fn : Func} {p q r : Tmp} {ty : TypeId} (h : fn.results = #[.cell p ty, .tmp q, .tmp r]) (tmps : Array Value) (P : Program) (w : World) (a : Addr) (v u x : Value) (ha : tmps.getD p undef = .pointer (some a)) (hu : tmps.getD q undef = u) (hx : tmps.getD r undef = x) (hl : (loadVar ty a).run P w = .ok v w) :
    (results fn tmps).run P w = .ok (.tuple #[v, u, x]) w := by
  have ha' : tmps[p]?.getD undef = .pointer (some a) := by rw [← ha]; simp [Array.getD_eq_getD_getElem?]
  have hu' : tmps[q]?.getD undef = u := by rw [← hu]; simp [Array.getD_eq_getD_getElem?]
  have hx' : tmps[r]?.getD undef = x := by rw [← hx]; simp [Array.getD_eq_getD_getElem?]
  simp only [results, h]
  simp [Result.andThen, ha', hu', hx', asAddr, hl]
theorem ready_store {P : Program} {ops : Array Oper} {o : Oper} {a : Act} {w : World} {K : Act → World → Prop} {Q : Exit → Act → World → Prop} {E : Prop} (hg : o.guard = none) (ty : TypeId) (x y : Operand) (ho : o.op = .store ty x y) (hd : o.dst = none)
    (b off : Nat) (cs : List Value) (hx : a.eval x = .pointer (some ⟨b, off, none⟩)) (hy : a.eval y = .agg cs.toArray) (ht : w.there b off cs.toArray.size) (hi : (P.info? ty).map (·.size) = some cs.toArray.size) (h1 : cs.toArray.all (·.oneCell') = true)
    (h : K a (w.setCells b off cs)) : if Region.wanted o (yielded ops a.tmps) = true then Oper.wp P o a w K Q else E := by
  have hw : Region.wanted o (yielded ops a.tmps) = true := by simp [Region.wanted, hg]
  rw [if_pos hw]
  refine wp_store_mid ty x y ho b off cs.toArray hx hy ht hi h1 ?_
  rw [hd, List.toList_toArray]
  exact h
theorem wpList_storeL {P : Program} {ops : Array Oper} {rest : List Oper} {o : Oper} {a : Act} {w : World} {Q : Exit → Act → World → Prop} (hg : o.guard = none) (ty : TypeId) (x y : Operand) (ho : o.op = .store ty x y) (hd : o.dst = none)
    (b off : Nat) (cs : List Value) (hx : a.eval x = .pointer (some ⟨b, off, none⟩)) (hy : a.eval y = .agg cs.toArray) (ht : w.there b off cs.toArray.size) (hi : (P.info? ty).map (·.size) = some cs.toArray.size) (h1 : cs.toArray.all (·.oneCell') = true)
    (h : wpList P ops Q rest a (w.setCells b off cs)) : wpList P ops Q (o :: rest) a w := by
  refine wpList_store_mid hg ty x y ho b off cs.toArray hx hy ht hi h1 ?_
  rw [hd, List.toList_toArray]
  exact h
/-- what the next 32 bytes decode to -/
def d4 (bs : List UInt8) : E4 := cond (decide (dn (bs.take 32) < Sm.L)) (lst (dn (bs.take 32))) zero4
def de (bs : List UInt8) : Int := cond (decide (dn (bs.take 32) < Sm.L)) 0 3
theorem dec_val (bs : List UInt8) : cond (decide ((num (zi (bs.take 32)) : Int) < Sm.L)) (limE (num (zi (bs.take 32)))) zero4 = d4 bs := by
  unfold d4
  show cond (decide (dn (bs.take 32) < Sm.L)) (limE (dn (bs.take 32))) zero4 = _
  by_cases h : dn (bs.take 32) < Sm.L
  · rw [limE_lst _ (dn_ge _) h]
  · simp [h]
theorem sdec (bs : List UInt8) (w : World) (hT : Tb w) (hl : 32 ≤ bs.length) : Calls Tryz.prog 47 #[.agg (Tr.cb (bs.take 32)).toArray] w fun e w' => e = .returned (.tuple #[(d4 bs).v, .int .i64 (de bs)]) ∧ Below w.heap.size w w' := by
  have h := Decode_any (zi (bs.take 32)) w hT (by rw [zi_len, List.length_take]; omega) (zi_bd _) _ rfl
  rw [dec_val] at h
  unfold bv at h
  rw [zi_cb] at h
  exact h
theorem ldec (a : E4) (bs : List UInt8) (w : World) (hT : Tb w) (hl : 32 ≤ bs.length) : Calls Tryz.prog 116 #[a.v, .agg (Tr.cb (bs.take 32)).toArray] w fun e w' => e = .returned (.tuple #[(d4 bs).v, .int .i64 (de bs)]) ∧ Below w.heap.size w w' := by
  have h := lDecode_any a (zi (bs.take 32)) w hT (by rw [zi_len, List.length_take]; omega) (zi_bd _) _ rfl
  rw [dec_val] at h
  unfold bv at h
  rw [zi_cb] at h
  exact h
theorem by_take {w : World} {b o c : Nat} {bs : List UInt8} (h : Tr.By w (some ⟨b, o, none⟩) c bs) (k : Nat) : w.rangeAt b o (Tr.cb (bs.take k)) := fun j u hu => by
  have := h.lie _ rfl j u (by
    have e : (Tr.cb (bs.take k))[j]? = some u := hu
    unfold Tr.cb at e ⊢
    rw [List.map_take, List.getElem?_take] at e
    split at e
    · exact e
    · cases e)
  rw [Addr.add_mid] at this
  exact this
theorem tk_i {bs : List UInt8} (h : 32 ≤ bs.length) : (Tryz.prog.info? 78).map (·.size) = some (Tr.cb (bs.take 32)).length := by rw [Tr.cb_len, List.length_take, Nat.min_eq_left h]; kernel_rfl
def toldLo : Array Oper := #[{ dst := some 11, op := Op.load 107 (Operand.tmp 1), type := 107, pos := "reader.go:76", after := #[], guard := none },
  { dst := some 12, op := Op.move (Operand.tmp 0), type := 29, pos := "reader.go:76", after := #[], guard := none },
  { dst := some 13, op := Op.slice 29 (Operand.tmp 12) none (some (Operand.const (Value.int IntKind.i64 32))) none, type := 29, pos := "reader.go:76", after := #[{ on := 1, ground := Ground.data }], guard := none },
  { dst := some 14, op := Op.sliceToArrayPointer 78 (Operand.tmp 13), type := 0, pos := "reader.go:76", after := #[{ on := 2, ground := Ground.data }], guard := none },
  { dst := some 15, op := Op.load 78 (Operand.tmp 14), type := 78, pos := "reader.go:76", after := #[{ on := 3, ground := Ground.data }], guard := none },
  { dst := some 16, op := Op.call { callee := Callee.value (Operand.tmp 11), args := #[Operand.tmp 15], argTypes := #[78] }, type := 126, pos := "reader.go:76", after := #[{ on := 0, ground := Ground.data }, { on := 4, ground := Ground.data }], guard := none },
  { dst := some 10, op := Op.move (Operand.tmp 16), type := 126, pos := "reader.go:76", after := #[{ on := 5, ground := Ground.data }], guard := none },
  { dst := some 17, op := Op.extract (Operand.tmp 10) 0, type := 52, pos := "reader.go:76", after := #[{ on := 6, ground := Ground.data }], guard := none },
  { dst := some 18, op := Op.extract (Operand.tmp 10) 1, type := 48, pos := "reader.go:76", after := #[{ on := 6, ground := Ground.data }, { on := 9, ground := Ground.gcOnly Departure.lateStores }], guard := none },
  { dst := none, op := Op.store 52 (Operand.tmp 3) (Operand.tmp 17), type := 0, pos := "reader.go:76", after := #[{ on := 7, ground := Ground.data }, { on := 5, ground := Ground.chain }, { on := 0, ground := Ground.phase }, { on := 1, ground := Ground.phase }, { on := 2, ground := Ground.phase }, { on := 3, ground := Ground.phase }, { on := 4, ground := Ground.phase }, { on := 5, ground := Ground.phase }, { on := 6, ground := Ground.phase }, { on := 7, ground := Ground.phase }, { on := 8, ground := Ground.textOnly Departure.lateStores }], guard := none },
  { dst := some 5, op := Op.assign (Operand.tmp 18), type := 48, pos := "reader.go:76", after := #[{ on := 8, ground := Ground.data }, { on := 9, ground := Ground.chain }, { on := 0, ground := Ground.phase }, { on := 1, ground := Ground.phase }, { on := 2, ground := Ground.phase }, { on := 3, ground := Ground.phase }, { on := 4, ground := Ground.phase }, { on := 5, ground := Ground.phase }, { on := 6, ground := Ground.phase }, { on := 7, ground := Ground.phase }, { on := 8, ground := Ground.phase }, { on := 9, ground := Ground.phase }], guard := none }]
theorem i4L (z : E4) : (Tryz.prog.info? 52).map (·.size) = some ([.int .u64 z.x0, .int .u64 z.x1, .int .u64 z.x2, .int .u64 z.x3] : List Value).length := by kernel_rfl
theorem i4aL (z : E4) : (Tryz.prog.info? 52).map (·.size) = some ([.int .u64 z.x0, .int .u64 z.x1, .int .u64 z.x2, .int .u64 z.x3] : List Value).toArray.size := i4L z
def fvL : Value := .func (.method "Decode") #[.iface 52 (.agg #[.int .u64 0, .int .u64 0, .int .u64 0, .int .u64 0])] #[]
set_option maxRecDepth 100000 in
set_option maxHeartbeats 8000000 in
theorem toldL (b o c X : Nat) (bs : List UInt8) (w : World) (hT : Tb w) (hB : Tr.By w (some ⟨b, o, none⟩) c bs) (h32 : 32 ≤ bs.length) (hc : bs.length ≤ c) (hX : w.cell? ⟨X, 0, none⟩ = some fvL) :
    Calls Tryz.prog 63 #[.slice (some ⟨b, o, none⟩) bs.length c, .pointer (some ⟨X, 0, none⟩)] w fun e w' => e = .returned (.tuple #[(d4 bs).v, .int .i64 32, .int .i64 (de bs)]) ∧ Below w.heap.size w w' := by
  have CD := hidden (fun x T => ldec zero4 bs x T h32)
  have SK : Hid (∀ x, Below w.heap.size w x → Below w.heap.size w x ∧ x.cell? ⟨X, 0, none⟩ = some fvL ∧ x.rangeAt b o (Tr.cb (bs.take 32))) := hidden (fun x h => ⟨h, cell_keep hX h, fun j u hu => cell_keep (by_take hB 32 j u hu) h⟩)
  have IB := hidden (tk_i h32)
  have UB : Hid (Tryz.prog.underlying 78 = _) := hidden b_und
  have TT := hidden (fun x (h : Below w.heap.size w x) => hT.keep h)
  have n0 : ¬ (bs.length : Int) < 32 := by omega
  have n1 : (32 : Int) ≤ (c : Int) := by omega
  have n2 : (32 : Int) ≤ (bs.length : Int) := by omega
  generalize d4 bs = z at CD ⊢
  generalize de bs = er at CD ⊢
  have MM := hidden ((Mw.start w).new [.int .u64 0, .int .u64 0, .int .u64 0, .int .u64 0] 52)
  have B0 := hidden (bl_alloc w (.cells #[.int .u64 0, .int .u64 0, .int .u64 0, .int .u64 0] 52))
  generalize hW : w.alloc (.cells #[.int .u64 0, .int .u64 0, .int .u64 0, .int .u64 0] 52) = W at MM B0
  clear hT hB h32 hc hX
  unfold fvL at SK
  unfold E4.v at CD ⊢
  generalize bs.length = n at n0 n2 ⊢
  generalize Tr.cb (bs.take 32) = cs at CD SK IB
  go_enter Tryz.func63, Tryz.ntmps63
  go_upto_region 3 with fail
  clear hW n0
  refine wp_region_noPanic ?_
  refine wp_region_held_drew (S := fun x => Below w.heap.size w x ∧ x.cell? ⟨X, 0, none⟩ = some (.func (.method "Decode") #[.iface 52 (.agg #[.int .u64 0, .int .u64 0, .int .u64 0, .int .u64 0])] #[]) ∧ x.rangeAt b o cs) (by kernel_rfl) (SK.out _ (bl_trans B0.out (Tr.drew_blW W))) (fun hHeld => ?_)
  change wpAnyH Tryz.prog .any toldLo _ _ 11 #[false, false, false, false, false, false, false, false, false, false, false] _ _
  refine wpAnyH_take (i := 0) (oi := { dst := some 11, op := Op.load 107 (Operand.tmp 1), type := 107, pos := "reader.go:76", after := #[], guard := none }) (v := .func (.method "Decode") #[.iface 52 (.agg #[.int .u64 0, .int .u64 0, .int .u64 0, .int .u64 0])] #[]) rfl (by kernel_rfl) (by kernel_rfl) (by kernel_rfl) (fun _ _ _ h => h) (Or.inl ⟨by rfl, fun w0 hSw => ?_⟩) hHeld ?_
  · (obtain ⟨s0, s1, s2⟩ := hSw; clear s0 s2; go_simp)
  simp only [Act.put, List.setIfInBounds_toArray, List.set_cons_zero, List.set_cons_succ]
  refine wpAnyH_take (i := 1) (oi := { dst := some 12, op := Op.move (Operand.tmp 0), type := 29, pos := "reader.go:76", after := #[], guard := none }) (v := .slice (some ⟨b, o, none⟩) n c) rfl (by kernel_rfl) (by kernel_rfl) (by kernel_rfl) (fun _ _ _ h => h) (Or.inl ⟨by rfl, fun w0 hSw => ?_⟩) hHeld ?_
  · (clear hSw; go_simp)
  simp only [Act.put, List.setIfInBounds_toArray, List.set_cons_zero, List.set_cons_succ]
  refine wpAnyH_take (i := 2) (oi := { dst := some 13, op := Op.slice 29 (Operand.tmp 12) none (some (Operand.const (Value.int IntKind.i64 32))) none, type := 29, pos := "reader.go:76", after := #[{ on := 1, ground := Ground.data }], guard := none }) (v := .slice (some ⟨b, o, none⟩) 32 c) rfl (by kernel_rfl) (by kernel_rfl) (by kernel_rfl) (fun _ _ _ h => h) (Or.inl ⟨by rfl, fun w0 hSw => ?_⟩) hHeld ?_
  · (clear hSw; go_simp)
  simp only [Act.put, List.setIfInBounds_toArray, List.set_cons_zero, List.set_cons_succ]
  refine wpAnyH_take (i := 3) (oi := { dst := some 14, op := Op.sliceToArrayPointer 78 (Operand.tmp 13), type := 0, pos := "reader.go:76", after := #[{ on := 2, ground := Ground.data }], guard := none }) (v := .pointer (some ⟨b, o, none⟩)) rfl (by kernel_rfl) (by kernel_rfl) (by kernel_rfl) (fun _ _ _ h => h) (Or.inl ⟨by rfl, fun w0 hSw => ?_⟩) hHeld ?_
  · (clear hSw; have hu := UB.out; have hx := run_arrayAt (P := Tryz.prog) (w := w0) (t := 78) (n := 32) (len := 32) (cap := c) (a := ⟨b, o, none⟩) hu (Nat.le_refl _); go_simp)
  simp only [Act.put, List.setIfInBounds_toArray, List.set_cons_zero, List.set_cons_succ]
  refine wpAnyH_take (i := 4) (oi := { dst := some 15, op := Op.load 78 (Operand.tmp 14), type := 78, pos := "reader.go:76", after := #[{ on := 3, ground := Ground.data }], guard := none }) (v := .agg (cs).toArray) rfl (by kernel_rfl) (by kernel_rfl) (by kernel_rfl) (fun _ _ _ h => h) (yieldsIf_load_mid (by rfl) 78 _ rfl (b) (o) rfl (cs) _ (fun w0 hSw => hSw.2.2) UB.out rfl IB.out) hHeld ?_
  simp only [Act.put, List.setIfInBounds_toArray, List.set_cons_zero, List.set_cons_succ]
  refine wpAnyH_ready (rs := [5]) (by kernel_rfl) (by simp) ?_
  refine AllReadyH.cons (o := { dst := some 16, op := Op.call { callee := Callee.value (Operand.tmp 11), args := #[Operand.tmp 15], argTypes := #[78] }, type := 126, pos := "reader.go:76", after := #[{ on := 0, ground := Ground.data }, { on := 4, ground := Ground.data }], guard := none }) rfl (fun K hK => ?_) AllReadyH.nil
  have m1 := mt_Decode
  have HH := hidden hHeld
  clear hHeld
  go_simp
  refine (CD.out _ (TT.out _ HH.out.1)).mono ?_
  rintro e wa ⟨rfl, hb⟩
  have SN := hidden (SK.out _ (bl_trans HH.out.1 hb))
  have MA := hidden ((MM.out.keep (Tr.drew_blW W)).keep hb)
  clear HH hb MM
  go_wp2_with fail
  refine hK.out _ _ SN.out (fun hHeld1 => ?_)
  clear hK K
  refine wpAnyH_take (i := 6) (oi := { dst := some 10, op := Op.move (Operand.tmp 16), type := 126, pos := "reader.go:76", after := #[{ on := 5, ground := Ground.data }], guard := none }) (v := .tuple #[.agg #[.int .u64 z.x0, .int .u64 z.x1, .int .u64 z.x2, .int .u64 z.x3], .int .i64 er]) rfl (by kernel_rfl) (by kernel_rfl) (by kernel_rfl) (fun _ _ _ h => h) (Or.inl ⟨by rfl, fun w0 hSw => ?_⟩) hHeld1 ?_
  · (clear hSw; go_simp)
  simp only [Act.put, List.setIfInBounds_toArray, List.set_cons_zero, List.set_cons_succ]
  refine wpAnyH_take (i := 7) (oi := { dst := some 17, op := Op.extract (Operand.tmp 10) 0, type := 52, pos := "reader.go:76", after := #[{ on := 6, ground := Ground.data }], guard := none }) (v := .agg #[.int .u64 z.x0, .int .u64 z.x1, .int .u64 z.x2, .int .u64 z.x3]) rfl (by kernel_rfl) (by kernel_rfl) (by kernel_rfl) (fun _ _ _ h => h) (Or.inl ⟨by rfl, fun w0 hSw => ?_⟩) hHeld1 ?_
  · (clear hSw; go_simp)
  simp only [Act.put, List.setIfInBounds_toArray, List.set_cons_zero, List.set_cons_succ]
  refine wpAnyH_take (i := 8) (oi := { dst := some 18, op := Op.extract (Operand.tmp 10) 1, type := 48, pos := "reader.go:76", after := #[{ on := 6, ground := Ground.data }, { on := 9, ground := Ground.gcOnly Departure.lateStores }], guard := none }) (v := .int .i64 er) rfl (by kernel_rfl) (by kernel_rfl) (by kernel_rfl) (fun _ _ _ h => h) (Or.inl ⟨by rfl, fun w0 hSw => ?_⟩) hHeld1 ?_
  · (clear hSw; go_simp)
  simp only [Act.put, List.setIfInBounds_toArray, List.set_cons_zero, List.set_cons_succ]
  refine wpAnyH_ready (rs := [9]) (by kernel_rfl) (by simp) ?_
  refine AllReadyH.cons (o := { dst := none, op := Op.store 52 (Operand.tmp 3) (Operand.tmp 17), type := 0, pos := "reader.go:76", after := #[{ on := 7, ground := Ground.data }, { on := 5, ground := Ground.chain }, { on := 0, ground := Ground.phase }, { on := 1, ground := Ground.phase }, { on := 2, ground := Ground.phase }, { on := 3, ground := Ground.phase }, { on := 4, ground := Ground.phase }, { on := 5, ground := Ground.phase }, { on := 6, ground := Ground.phase }, { on := 7, ground := Ground.phase }, { on := 8, ground := Ground.textOnly Departure.lateStores }], guard := none }) rfl (fun K hK => ?_) AllReadyH.nil
  clear hHeld1
  have TH := hidden (MA.out.ther [.int .u64 z.x0, .int .u64 z.x1, .int .u64 z.x2, .int .u64 z.x3] (c := w.heap.size) (o := [.int .u64 0, .int .u64 0, .int .u64 0, .int .u64 0]) (by simp) (by simp))
  have M2 := hidden (MA.out.set (M := []) [.int .u64 z.x0, .int .u64 z.x1, .int .u64 z.x2, .int .u64 z.x3] (c := w.heap.size) (o := [.int .u64 0, .int .u64 0, .int .u64 0, .int .u64 0]) (by simp) (by simp) (by simp))
  have I4 := hidden (i4aL z)
  have O4 := hidden (c4_one z)
  refine ready_store rfl 52 _ _ rfl rfl w.heap.size 0 [.int .u64 z.x0, .int .u64 z.x1, .int .u64 z.x2, .int .u64 z.x3] (by rfl) (by rfl) TH.out I4.out O4.out ?_
  refine hK.out _ _ (SK.out _ M2.out.bel) (fun hz => ?_)
  clear hK K hz TH MA SN
  generalize hV : wa.setCells w.heap.size 0 [.int .u64 z.x0, .int .u64 z.x1, .int .u64 z.x2, .int .u64 z.x3] = V at M2 ⊢
  have M3 := M2
  clear hV M2
  refine wpAnyH_ready (rs := [10]) (by kernel_rfl) (by simp) ?_
  refine AllReadyH.cons (o := { dst := some 5, op := Op.assign (Operand.tmp 18), type := 48, pos := "reader.go:76", after := #[{ on := 8, ground := Ground.data }, { on := 9, ground := Ground.chain }, { on := 0, ground := Ground.phase }, { on := 1, ground := Ground.phase }, { on := 2, ground := Ground.phase }, { on := 3, ground := Ground.phase }, { on := 4, ground := Ground.phase }, { on := 5, ground := Ground.phase }, { on := 6, ground := Ground.phase }, { on := 7, ground := Ground.phase }, { on := 8, ground := Ground.phase }, { on := 9, ground := Ground.phase }], guard := none }) rfl (fun K hK => ?_) AllReadyH.nil
  refine ready_assign rfl _ rfl (.int .i64 er) (by rfl) (some 5) rfl ?_
  simp only [Act.put, List.setIfInBounds_toArray, List.set_cons_zero, List.set_cons_succ]
  refine hK.out _ _ (SK.out _ M3.out.bel) (fun hz => ?_)
  clear hK K hz
  refine wpAnyH_done (by kernel_rfl) ?_ _
  refine NoPanic.normal ?_
  have RC := hidden (M3.out.r (w.heap.size, [.int .u64 z.x0, .int .u64 z.x1, .int .u64 z.x2, .int .u64 z.x3]) (by simp)).1
  have TH := hidden (M3.out.ther [.int .u64 z.x0, .int .u64 z.x1, .int .u64 z.x2, .int .u64 z.x3] (c := w.heap.size) (o := [.int .u64 z.x0, .int .u64 z.x1, .int .u64 z.x2, .int .u64 z.x3]) (by simp) (by simp))
  have M4 := hidden (M3.out.set (M := []) [.int .u64 z.x0, .int .u64 z.x1, .int .u64 z.x2, .int .u64 z.x3] (c := w.heap.size) (o := [.int .u64 z.x0, .int .u64 z.x1, .int .u64 z.x2, .int .u64 z.x3]) (by simp) (by simp) (by simp))
  have I5 := hidden (i4L z)
  have UT : Hid (Tryz.prog.underlying 52 = _) := hidden Tryz.underlying52
  have LD := hidden (M4.out.var (c := w.heap.size) (ds := [.int .u64 z.x0, .int .u64 z.x1, .int .u64 z.x2, .int .u64 z.x3]) (by simp) UT.out rfl I5.out)
  go_wp2_with (first | refine wpList_load_mid rfl 52 _ rfl w.heap.size 0 (by rfl) [.int .u64 z.x0, .int .u64 z.x1, .int .u64 z.x2, .int .u64 z.x3] _ RC.out UT.out rfl I5.out ?_ | refine wpList_storeL rfl 52 _ _ rfl rfl w.heap.size 0 [.int .u64 z.x0, .int .u64 z.x1, .int .u64 z.x2, .int .u64 z.x3] (by rfl) (by rfl) TH.out I4.out O4.out ?_)
  refine bodyPost_ret (v := .tuple #[.agg [.int .u64 z.x0, .int .u64 z.x1, .int .u64 z.x2, .int .u64 z.x3].toArray, .int .i64 32, .int .i64 er]) (results_tri Tryz.results63 _ _ _ _ _ _ _ (by rfl) (by rfl) (by rfl) LD.out) rfl ⟨rfl, M4.out.bel⟩
def toldSo : Array Oper := #[{ dst := some 11, op := Op.load 109 (Operand.tmp 1), type := 109, pos := "reader.go:76", after := #[], guard := none },
  { dst := some 12, op := Op.move (Operand.tmp 0), type := 29, pos := "reader.go:76", after := #[], guard := none },
  { dst := some 13, op := Op.slice 29 (Operand.tmp 12) none (some (Operand.const (Value.int IntKind.i64 32))) none, type := 29, pos := "reader.go:76", after := #[{ on := 1, ground := Ground.data }], guard := none },
  { dst := some 14, op := Op.sliceToArrayPointer 78 (Operand.tmp 13), type := 0, pos := "reader.go:76", after := #[{ on := 2, ground := Ground.data }], guard := none },
  { dst := some 15, op := Op.load 78 (Operand.tmp 14), type := 78, pos := "reader.go:76", after := #[{ on := 3, ground := Ground.data }], guard := none },
  { dst := some 16, op := Op.call { callee := Callee.value (Operand.tmp 11), args := #[Operand.tmp 15], argTypes := #[78] }, type := 129, pos := "reader.go:76", after := #[{ on := 0, ground := Ground.data }, { on := 4, ground := Ground.data }], guard := none },
  { dst := some 10, op := Op.move (Operand.tmp 16), type := 129, pos := "reader.go:76", after := #[{ on := 5, ground := Ground.data }], guard := none },
  { dst := some 17, op := Op.extract (Operand.tmp 10) 0, type := 24, pos := "reader.go:76", after := #[{ on := 6, ground := Ground.data }], guard := none },
  { dst := some 18, op := Op.extract (Operand.tmp 10) 1, type := 48, pos := "reader.go:76", after := #[{ on := 6, ground := Ground.data }, { on := 9, ground := Ground.gcOnly Departure.lateStores }], guard := none },
  { dst := none, op := Op.store 24 (Operand.tmp 3) (Operand.tmp 17), type := 0, pos := "reader.go:76", after := #[{ on := 7, ground := Ground.data }, { on := 5, ground := Ground.chain }, { on := 0, ground := Ground.phase }, { on := 1, ground := Ground.phase }, { on := 2, ground := Ground.phase }, { on := 3, ground := Ground.phase }, { on := 4, ground := Ground.phase }, { on := 5, ground := Ground.phase }, { on := 6, ground := Ground.phase }, { on := 7, ground := Ground.phase }, { on := 8, ground := Ground.textOnly Departure.lateStores }], guard := none },
  { dst := some 5, op := Op.assign (Operand.tmp 18), type := 48, pos := "reader.go:76", after := #[{ on := 8, ground := Ground.data }, { on := 9, ground := Ground.chain }, { on := 0, ground := Ground.phase }, { on := 1, ground := Ground.phase }, { on := 2, ground := Ground.phase }, { on := 3, ground := Ground.phase }, { on := 4, ground := Ground.phase }, { on := 5, ground := Ground.phase }, { on := 6, ground := Ground.phase }, { on := 7, ground := Ground.phase }, { on := 8, ground := Ground.phase }, { on := 9, ground := Ground.phase }], guard := none }]
theorem i4S (z : E4) : (Tryz.prog.info? 24).map (·.size) = some ([.int .u64 z.x0, .int .u64 z.x1, .int .u64 z.x2, .int .u64 z.x3] : List Value).length := by kernel_rfl
theorem i4aS (z : E4) : (Tryz.prog.info? 24).map (·.size) = some ([.int .u64 z.x0, .int .u64 z.x1, .int .u64 z.x2, .int .u64 z.x3] : List Value).toArray.size := i4S z
def fvS : Value := .func (.func 47) #[] #[]
set_option maxRecDepth 100000 in
set_option maxHeartbeats 8000000 in
theorem toldS (b o c X : Nat) (bs : List UInt8) (w : World) (hT : Tb w) (hB : Tr.By w (some ⟨b, o, none⟩) c bs) (h32 : 32 ≤ bs.length) (hc : bs.length ≤ c) (hX : w.cell? ⟨X, 0, none⟩ = some fvS) :
    Calls Tryz.prog 65 #[.slice (some ⟨b, o, none⟩) bs.length c, .pointer (some ⟨X, 0, none⟩)] w fun e w' => e = .returned (.tuple #[(d4 bs).v, .int .i64 32, .int .i64 (de bs)]) ∧ Below w.heap.size w w' := by
  have CD := hidden (fun x T => sdec bs x T h32)
  have SK : Hid (∀ x, Below w.heap.size w x → Below w.heap.size w x ∧ x.cell? ⟨X, 0, none⟩ = some fvS ∧ x.rangeAt b o (Tr.cb (bs.take 32))) := hidden (fun x h => ⟨h, cell_keep hX h, fun j u hu => cell_keep (by_take hB 32 j u hu) h⟩)
  have IB := hidden (tk_i h32)
  have UB : Hid (Tryz.prog.underlying 78 = _) := hidden b_und
  have TT := hidden (fun x (h : Below w.heap.size w x) => hT.keep h)
  have n0 : ¬ (bs.length : Int) < 32 := by omega
  have n1 : (32 : Int) ≤ (c : Int) := by omega
  have n2 : (32 : Int) ≤ (bs.length : Int) := by omega
  generalize d4 bs = z at CD ⊢
  generalize de bs = er at CD ⊢
  have MM := hidden ((Mw.start w).new [.int .u64 0, .int .u64 0, .int .u64 0, .int .u64 0] 24)
  have B0 := hidden (bl_alloc w (.cells #[.int .u64 0, .int .u64 0, .int .u64 0, .int .u64 0] 24))
  generalize hW : w.alloc (.cells #[.int .u64 0, .int .u64 0, .int .u64 0, .int .u64 0] 24) = W at MM B0
  clear hT hB h32 hc hX
  unfold fvS at SK
  unfold E4.v at CD ⊢
  generalize bs.length = n at n0 n2 ⊢
  generalize Tr.cb (bs.take 32) = cs at CD SK IB
  go_enter Tryz.func65, Tryz.ntmps65
  go_upto_region 3 with fail
  clear hW n0
  refine wp_region_noPanic ?_
  refine wp_region_held_drew (S := fun x => Below w.heap.size w x ∧ x.cell? ⟨X, 0, none⟩ = some (.func (.func 47) #[] #[]) ∧ x.rangeAt b o cs) (by kernel_rfl) (SK.out _ (bl_trans B0.out (Tr.drew_blW W))) (fun hHeld => ?_)
  change wpAnyH Tryz.prog .any toldSo _ _ 11 #[false, false, false, false, false, false, false, false, false, false, false] _ _
  refine wpAnyH_take (i := 0) (oi := { dst := some 11, op := Op.load 109 (Operand.tmp 1), type := 109, pos := "reader.go:76", after := #[], guard := none }) (v := .func (.func 47) #[] #[]) rfl (by kernel_rfl) (by kernel_rfl) (by kernel_rfl) (fun _ _ _ h => h) (Or.inl ⟨by rfl, fun w0 hSw => ?_⟩) hHeld ?_
  · (obtain ⟨s0, s1, s2⟩ := hSw; clear s0 s2; go_simp)
  simp only [Act.put, List.setIfInBounds_toArray, List.set_cons_zero, List.set_cons_succ]
  refine wpAnyH_take (i := 1) (oi := { dst := some 12, op := Op.move (Operand.tmp 0), type := 29, pos := "reader.go:76", after := #[], guard := none }) (v := .slice (some ⟨b, o, none⟩) n c) rfl (by kernel_rfl) (by kernel_rfl) (by kernel_rfl) (fun _ _ _ h => h) (Or.inl ⟨by rfl, fun w0 hSw => ?_⟩) hHeld ?_
  · (clear hSw; go_simp)
  simp only [Act.put, List.setIfInBounds_toArray, List.set_cons_zero, List.set_cons_succ]
  refine wpAnyH_take (i := 2) (oi := { dst := some 13, op := Op.slice 29 (Operand.tmp 12) none (some (Operand.const (Value.int IntKind.i64 32))) none, type := 29, pos := "reader.go:76", after := #[{ on := 1, ground := Ground.data }], guard := none }) (v := .slice (some ⟨b, o, none⟩) 32 c) rfl (by kernel_rfl) (by kernel_rfl) (by kernel_rfl) (fun _ _ _ h => h) (Or.inl ⟨by rfl, fun w0 hSw => ?_⟩) hHeld ?_
  · (clear hSw; go_simp)
  simp only [Act.put, List.setIfInBounds_toArray, List.set_cons_zero, List.set_cons_succ]
  refine wpAnyH_take (i := 3) (oi := { dst := some 14, op := Op.sliceToArrayPointer 78 (Operand.tmp 13), type := 0, pos := "reader.go:76", after := #[{ on := 2, ground := Ground.data }], guard := none }) (v := .pointer (some ⟨b, o, none⟩)) rfl (by kernel_rfl) (by kernel_rfl) (by kernel_rfl) (fun _ _ _ h => h) (Or.inl ⟨by rfl, fun w0 hSw => ?_⟩) hHeld ?_
  · (clear hSw; have hu := UB.out; have hx := run_arrayAt (P := Tryz.prog) (w := w0) (t := 78) (n := 32) (len := 32) (cap := c) (a := ⟨b, o, none⟩) hu (Nat.le_refl _); go_simp)
  simp only [Act.put, List.setIfInBounds_toArray, List.set_cons_zero, List.set_cons_succ]
  refine wpAnyH_take (i := 4) (oi := { dst := some 15, op := Op.load 78 (Operand.tmp 14), type := 78, pos := "reader.go:76", after := #[{ on := 3, ground := Ground.data }], guard := none }) (v := .agg (cs).toArray) rfl (by kernel_rfl) (by kernel_rfl) (by kernel_rfl) (fun _ _ _ h => h) (yieldsIf_load_mid (by rfl) 78 _ rfl (b) (o) rfl (cs) _ (fun w0 hSw => hSw.2.2) UB.out rfl IB.out) hHeld ?_
  simp only [Act.put, List.setIfInBounds_toArray, List.set_cons_zero, List.set_cons_succ]
  refine wpAnyH_ready (rs := [5]) (by kernel_rfl) (by simp) ?_
  refine AllReadyH.cons (o := { dst := some 16, op := Op.call { callee := Callee.value (Operand.tmp 11), args := #[Operand.tmp 15], argTypes := #[78] }, type := 129, pos := "reader.go:76", after := #[{ on := 0, ground := Ground.data }, { on := 4, ground := Ground.data }], guard := none }) rfl (fun K hK => ?_) AllReadyH.nil
  skip
  have HH := hidden hHeld
  clear hHeld
  go_simp
  refine (CD.out _ (TT.out _ HH.out.1)).mono ?_
  rintro e wa ⟨rfl, hb⟩
  have SN := hidden (SK.out _ (bl_trans HH.out.1 hb))
  have MA := hidden ((MM.out.keep (Tr.drew_blW W)).keep hb)
  clear HH hb MM
  go_wp2_with fail
  refine hK.out _ _ SN.out (fun hHeld1 => ?_)
  clear hK K
  refine wpAnyH_take (i := 6) (oi := { dst := some 10, op := Op.move (Operand.tmp 16), type := 129, pos := "reader.go:76", after := #[{ on := 5, ground := Ground.data }], guard := none }) (v := .tuple #[.agg #[.int .u64 z.x0, .int .u64 z.x1, .int .u64 z.x2, .int .u64 z.x3], .int .i64 er]) rfl (by kernel_rfl) (by kernel_rfl) (by kernel_rfl) (fun _ _ _ h => h) (Or.inl ⟨by rfl, fun w0 hSw => ?_⟩) hHeld1 ?_
  · (clear hSw; go_simp)
  simp only [Act.put, List.setIfInBounds_toArray, List.set_cons_zero, List.set_cons_succ]
  refine wpAnyH_take (i := 7) (oi := { dst := some 17, op := Op.extract (Operand.tmp 10) 0, type := 24, pos := "reader.go:76", after := #[{ on := 6, ground := Ground.data }], guard := none }) (v := .agg #[.int .u64 z.x0, .int .u64 z.x1, .int .u64 z.x2, .int .u64 z.x3]) rfl (by kernel_rfl) (by kernel_rfl) (by kernel_rfl) (fun _ _ _ h => h) (Or.inl ⟨by rfl, fun w0 hSw => ?_⟩) hHeld1 ?_
  · (clear hSw; go_simp)
  simp only [Act.put, List.setIfInBounds_toArray, List.set_cons_zero, List.set_cons_succ]
  refine wpAnyH_take (i := 8) (oi := { dst := some 18, op := Op.extract (Operand.tmp 10) 1, type := 48, pos := "reader.go:76", after := #[{ on := 6, ground := Ground.data }, { on := 9, ground := Ground.gcOnly Departure.lateStores }], guard := none }) (v := .int .i64 er) rfl (by kernel_rfl) (by kernel_rfl) (by kernel_rfl) (fun _ _ _ h => h) (Or.inl ⟨by rfl, fun w0 hSw => ?_⟩) hHeld1 ?_
  · (clear hSw; go_simp)
  simp only [Act.put, List.setIfInBounds_toArray, List.set_cons_zero, List.set_cons_succ]
  refine wpAnyH_ready (rs := [9]) (by kernel_rfl) (by simp) ?_
  refine AllReadyH.cons (o := { dst := none, op := Op.store 24 (Operand.tmp 3) (Operand.tmp 17), type := 0, pos := "reader.go:76", after := #[{ on := 7, ground := Ground.data }, { on := 5, ground := Ground.chain }, { on := 0, ground := Ground.phase }, { on := 1, ground := Ground.phase }, { on := 2, ground := Ground.phase }, { on := 3, ground := Ground.phase }, { on := 4, ground := Ground.phase }, { on := 5, ground := Ground.phase }, { on := 6, ground := Ground.phase }, { on := 7, ground := Ground.phase }, { on := 8, ground := Ground.textOnly Departure.lateStores }], guard := none }) rfl (fun K hK => ?_) AllReadyH.nil
  clear hHeld1
  have TH := hidden (MA.out.ther [.int .u64 z.x0, .int .u64 z.x1, .int .u64 z.x2, .int .u64 z.x3] (c := w.heap.size) (o := [.int .u64 0, .int .u64 0, .int .u64 0, .int .u64 0]) (by simp) (by simp))
  have M2 := hidden (MA.out.set (M := []) [.int .u64 z.x0, .int .u64 z.x1, .int .u64 z.x2, .int .u64 z.x3] (c := w.heap.size) (o := [.int .u64 0, .int .u64 0, .int .u64 0, .int .u64 0]) (by simp) (by simp) (by simp))
  have I4 := hidden (i4aS z)
  have O4 := hidden (c4_one z)
  refine ready_store rfl 24 _ _ rfl rfl w.heap.size 0 [.int .u64 z.x0, .int .u64 z.x1, .int .u64 z.x2, .int .u64 z.x3] (by rfl) (by rfl) TH.out I4.out O4.out ?_
  refine hK.out _ _ (SK.out _ M2.out.bel) (fun hz => ?_)
  clear hK K hz TH MA SN
  generalize hV : wa.setCells w.heap.size 0 [.int .u64 z.x0, .int .u64 z.x1, .int .u64 z.x2, .int .u64 z.x3] = V at M2 ⊢
  have M3 := M2
  clear hV M2
  refine wpAnyH_ready (rs := [10]) (by kernel_rfl) (by simp) ?_
  refine AllReadyH.cons (o := { dst := some 5, op := Op.assign (Operand.tmp 18), type := 48, pos := "reader.go:76", after := #[{ on := 8, ground := Ground.data }, { on := 9, ground := Ground.chain }, { on := 0, ground := Ground.phase }, { on := 1, ground := Ground.phase }, { on := 2, ground := Ground.phase }, { on := 3, ground := Ground.phase }, { on := 4, ground := Ground.phase }, { on := 5, ground := Ground.phase }, { on := 6, ground := Ground.phase }, { on := 7, ground := Ground.phase }, { on := 8, ground := Ground.phase }, { on := 9, ground := Ground.phase }], guard := none }) rfl (fun K hK => ?_) AllReadyH.nil
  refine ready_assign rfl _ rfl (.int .i64 er) (by rfl) (some 5) rfl ?_
  simp only [Act.put, List.setIfInBounds_toArray, List.set_cons_zero, List.set_cons_succ]
  refine hK.out _ _ (SK.out _ M3.out.bel) (fun hz => ?_)
  clear hK K hz
  refine wpAnyH_done (by kernel_rfl) ?_ _
  refine NoPanic.normal ?_
  have RC := hidden (M3.out.r (w.heap.size, [.int .u64 z.x0, .int .u64 z.x1, .int .u64 z.x2, .int .u64 z.x3]) (by simp)).1
  have TH := hidden (M3.out.ther [.int .u64 z.x0, .int .u64 z.x1, .int .u64 z.x2, .int .u64 z.x3] (c := w.heap.size) (o := [.int .u64 z.x0, .int .u64 z.x1, .int .u64 z.x2, .int .u64 z.x3]) (by simp) (by simp))
  have M4 := hidden (M3.out.set (M := []) [.int .u64 z.x0, .int .u64 z.x1, .int .u64 z.x2, .int .u64 z.x3] (c := w.heap.size) (o := [.int .u64 z.x0, .int .u64 z.x1, .int .u64 z.x2, .int .u64 z.x3]) (by simp) (by simp) (by simp))
  have I5 := hidden (i4S z)
  have UT : Hid (Tryz.prog.underlying 24 = _) := hidden Tryz.underlying24
  have LD := hidden (M4.out.var (c := w.heap.size) (ds := [.int .u64 z.x0, .int .u64 z.x1, .int .u64 z.x2, .int .u64 z.x3]) (by simp) UT.out rfl I5.out)
  go_wp2_with (first | refine wpList_load_mid rfl 24 _ rfl w.heap.size 0 (by rfl) [.int .u64 z.x0, .int .u64 z.x1, .int .u64 z.x2, .int .u64 z.x3] _ RC.out UT.out rfl I5.out ?_ | refine wpList_storeL rfl 24 _ _ rfl rfl w.heap.size 0 [.int .u64 z.x0, .int .u64 z.x1, .int .u64 z.x2, .int .u64 z.x3] (by rfl) (by rfl) TH.out I4.out O4.out ?_)
  refine bodyPost_ret (v := .tuple #[.agg [.int .u64 z.x0, .int .u64 z.x1, .int .u64 z.x2, .int .u64 z.x3].toArray, .int .i64 32, .int .i64 er]) (results_tri Tryz.results65 _ _ _ _ _ _ _ (by rfl) (by rfl) (by rfl) LD.out) rfl ⟨rfl, M4.out.bel⟩
end Go.Proofs.YtkfkmndhbfeagaaGreatDoor
