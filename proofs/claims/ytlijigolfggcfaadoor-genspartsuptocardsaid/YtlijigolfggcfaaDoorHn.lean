import Derived.Test.YtlijigolfggcfaaDoorHk
namespace Go.Proofs.YtlijigolfggcfaaDoor
open Go.RowKit
set_option linter.unusedVariables false
theorem buildEl3 (y0 y1 y2 : E4) (w : World) : (Instr.buildSlice 45 3 #[(0, .agg (el y0).toArray), (1, .agg (el y1).toArray), (2, .agg (el y2).toArray)]).run Tryd.prog w = .ok (.slice (some ⟨w.heap.size, 0, none⟩) 3 3) (w.alloc (.cells (el y0 ++ el y1 ++ el y2).toArray 44)) := by kernel_rfl
theorem wpList_buildEl3 {w : World} {ops : Array Oper} {rest : List Oper} {o : Oper} {a : Act} {Q : Exit → Act → World → Prop} (hgd : o.guard = none) (x0 x1 x2 : Operand) (ho : o.op = .buildSlice 45 3 #[(0, x0), (1, x1), (2, x2)]) (y0 y1 y2 : E4) (h0 : a.eval x0 = .agg (el y0).toArray) (h1 : a.eval x1 = .agg (el y1).toArray) (h2 : a.eval x2 = .agg (el y2).toArray)
    (h : wpList Tryd.prog ops Q rest (a.put o.dst (.slice (some ⟨w.heap.size, 0, none⟩) 3 3)) (w.alloc (.cells (el y0 ++ el y1 ++ el y2).toArray 44))) : wpList Tryd.prog ops Q (o :: rest) a w := by
  refine wpList_plain hgd fun K hK => ?_
  have hb := buildEl3 y0 y1 y2 w
  generalize (el y0 ++ el y1 ++ el y2) = z at hb h
  generalize el y0 = z0 at hb h0
  generalize el y1 = z1 at hb h1
  generalize el y2 = z2 at hb h2
  unfold Oper.wp execOp
  simp only [ho, Sem.run_bind, Sem.run_pure, Result.andThen_ok, List.map_toArray, List.map_cons, List.map_nil, h0, h1, h2, hb]
  exact hK _ _ h
theorem own_new (w : World) (base : Nat) (e : TypeId) (s n : Nat) (xs : List Value) (hb : base ≤ w.heap.size) (hl : xs.length = n * s) (hn : n ≤ maxLen) : (w.alloc (.cells xs.toArray e)).ownsRow base e s (.slice (some ⟨w.heap.size, 0, none⟩) n n) n xs :=
  ⟨hl, .inr ⟨w.heap.size, n, xs.toArray, rfl, hb, heap_alloc_new w _, Nat.le_refl _, hn, by simpa using hl, by rw [List.toList_toArray, ← hl, List.take_length]⟩⟩
theorem own_shapeP8 {w : World} {base n s : Nat} {e : TypeId} {v : Value} {xs : List Value} (h : w.ownsRow base e s v n xs) : ∃ (P : Option Addr) (c : Nat), v = .slice P n c := by
  rcases h.2 with ⟨rfl, rfl⟩ | ⟨g, cap, cur, rfl, _⟩
  · exact ⟨none, 0, rfl⟩
  · exact ⟨_, _, rfl⟩
theorem own_keepB {x y : World} {B s n m : Nat} {e : TypeId} {v : Value} {xs : List Value} (h : x.ownsRow B e s v n xs) (hb : Below m x y) (hm : ∀ k, v.ownBlock = some k → k < m) : y.ownsRow B e s v n xs := by
  refine ⟨h.1, ?_⟩
  rcases h.2 with h0 | ⟨g, cap, cur, rfl, hB, hg, h3⟩
  · exact .inl h0
  · exact .inr ⟨g, cap, cur, rfl, hB, (hb.block g (hm g rfl)).trans hg, h3⟩
/-- append of a list of its own, none or some -/
theorem wpList_append_both {P : Program} {w : World} {ops : Array Oper} {rest : List Oper} {o : Oper} {a : Act} {Q : Exit → Act → World → Prop} (hgd : o.guard = none) (s x : Operand) (t : TypeId)
    (ho : o.op = .call { callee := .builtin .append, args := #[s, x], argTypes := #[t, t] })
    (base : Nat) (e : TypeId) (i : TypeInfo) (z : Value) (size bytes : Nat) (ht : P.underlying t = some (.slice e)) (hi : P.info? e = some i) (hz : i.zero = some z)
    (hsize : i.size = size) (hby : i.bytes = bytes) (hzs : z.cells.size = size) (hsz : 0 < size)
    (v : Value) (n : Nat) (xs : List Value) (hs : a.eval s = v) (hown : w.ownsRow base e size v n xs)
    (u : Value) (m B2 : Nat) (news : List Value) (hx : a.eval x = u) (hu : w.ownsRow B2 e size u m news) (h1 : ∀ u ∈ news, u.oneCell' = true)
    (h63 : n + m ≤ maxLen) (hbytes : (n + m) * bytes ≤ 140737488355328) (hbase : base ≤ w.heap.size)
    (h : ∀ v' w', w'.ownsRow base e size v' (n + m) (xs ++ news) → Below base w w' → wpList P ops Q rest (a.put o.dst v') w') : wpList P ops Q (o :: rest) a w := by
  rcases hu.2 with ⟨rfl, rfl⟩ | ⟨gu, cap, cur, rfl, _⟩
  · have hn : news = [] := List.eq_nil_of_length_eq_zero (by rw [hu.1]; omega)
    subst hn
    refine wpList_append_own_none hgd s x t ho base e i size ht hi v n xs hs hown hx ?_
    exact h v w (by simpa using hown) (Below.refl _ _)
  · refine wpList_append_own_at w hgd s x t ho base e i z size bytes ht hi hz hsize hby hzs hsz v n xs hs hown ⟨gu, 0, none⟩ m cap news hx hu.1 (hu.cells rfl) h1 h63 hbytes hbase ?_
    intro v' w' h2 h3 _ _
    exact h v' w' h2 (below_grown h3 hbase (fun k hk => (hown.lt k hk).1))
set_option maxRecDepth 100000 in
set_option maxHeartbeats 8000000 in
theorem rall_any (y0 y1 y2 : E4) (Gv Hv : Value) (B LG LH : Nat) (fG fH : Nat → E4) (w : World) (hG : LG ≤ 1048576) (hH : LH ≤ 1048576) (oG : w.ownsRow B 44 26 Gv LG (evs LG fG)) (oH : w.ownsRow B 44 26 Hv LH (evs LH fH)) :
    Calls Tryd.prog 10 #[.agg (hdl y0 y1 y2 ++ [Gv, Hv]).toArray] w fun e w' => ∃ v : Value, e = .returned v ∧ w'.ownsRow w.heap.size 44 26 v (3 + LG + LH) ((el y0 ++ el y1 ++ el y2) ++ evs LG fG ++ evs LH fH) ∧ Below w.heap.size w w' := by
  have M0 := Bx1.new w (hdl y0 y1 y2 ++ [Gv, Hv]) 47
  have r0 : (w.alloc (.cells (hdl y0 y1 y2 ++ [Gv, Hv]).toArray 47)).rangeAt w.heap.size 1 (el y0) := fun j v hv => by
    have hj : j < 26 := (List.getElem?_eq_some_iff.1 hv).1
    have := M0.r (j + 1) v (by rw [List.getElem?_append_left (by rw [hdl_len]; omega)]; show (el y0 ++ el y1 ++ el y2)[j]? = some v; rw [List.append_assoc, List.getElem?_append_left (by rw [el_len]; omega)]; exact hv)
    rwa [show 0 + (j + 1) = 1 + j by omega] at this
  have r1 : (w.alloc (.cells (hdl y0 y1 y2 ++ [Gv, Hv]).toArray 47)).rangeAt w.heap.size 27 (el y1) := fun j v hv => by
    have hj : j < 26 := (List.getElem?_eq_some_iff.1 hv).1
    have := M0.r (26 + j + 1) v (by rw [List.getElem?_append_left (by rw [hdl_len]; omega)]; show (el y0 ++ el y1 ++ el y2)[26 + j]? = some v; rw [List.append_assoc, List.getElem?_append_right (by rw [el_len]; omega), el_len, show 26 + j - 26 = j by omega, List.getElem?_append_left (by rw [el_len]; omega)]; exact hv)
    rwa [show 0 + (26 + j + 1) = 27 + j by omega] at this
  have r2 : (w.alloc (.cells (hdl y0 y1 y2 ++ [Gv, Hv]).toArray 47)).rangeAt w.heap.size 53 (el y2) := fun j v hv => by
    have hj : j < 26 := (List.getElem?_eq_some_iff.1 hv).1
    have := M0.r (52 + j + 1) v (by rw [List.getElem?_append_left (by rw [hdl_len]; omega)]; show (el y0 ++ el y1 ++ el y2)[52 + j]? = some v; rw [List.append_assoc, List.getElem?_append_right (by rw [el_len]; omega), el_len, List.getElem?_append_right (by rw [el_len]; omega), el_len, show 52 + j - 26 - 26 = j by omega]; exact hv)
    rwa [show 0 + (52 + j + 1) = 53 + j by omega] at this
  have c79 : (w.alloc (.cells (hdl y0 y1 y2 ++ [Gv, Hv]).toArray 47)).cell? ⟨w.heap.size, 79, none⟩ = some Gv := M0.r 79 Gv rfl
  have c80 : (w.alloc (.cells (hdl y0 y1 y2 ++ [Gv, Hv]).toArray 47)).cell? ⟨w.heap.size, 80, none⟩ = some Hv := M0.r 80 Hv rfl
  have B0 := bl_alloc w (.cells (hdl y0 y1 y2 ++ [Gv, Hv]).toArray 47)
  have KG := own_keepL oG B0
  have KH := own_keepL oH B0
  obtain ⟨PG, cG, rfl⟩ := own_shapeP8 oG
  obtain ⟨PH, cH, rfl⟩ := own_shapeP8 oH
  obtain ⟨big, hbig⟩ : ∃ l, l = (hdl y0 y1 y2 ++ [Value.slice PG LG cG, Value.slice PH LH cH]) := ⟨_, rfl⟩
  rw [← hbig] at r0 r1 r2 c79 c80 B0 KG KH ⊢
  generalize hW : w.alloc (.cells big.toArray 47) = W at r0 r1 r2 c79 c80 B0 KG KH
  obtain ⟨i0, hi, hz0, hz1, hz2⟩ := info_parts einfoZ
  have HI := hidden hi
  have HZ0 := hidden hz0
  have HZ1 := hidden hz1
  have HZ2 := hidden hz2
  have HU : Hid (Tryd.prog.underlying 45 = some (.slice 44)) := hidden (by kernel_rfl)
  have UE : Hid (Tryd.prog.underlying 44 = _) := hidden Tryd.underlying44
  have I0 := hidden (el_i y0)
  have I1 := hidden (el_i y1)
  have I2 := hidden (el_i y2)
  have R0 := hidden r0
  have R1 := hidden r1
  have R2 := hidden r2
  have BA := bl_alloc W (.cells (el y0 ++ el y1 ++ el y2).toArray 44)
  have O3 := hidden (own_new W W.heap.size 44 26 3 (el y0 ++ el y1 ++ el y2) (Nat.le_refl _) rfl (by unfold maxLen; omega))
  have LH2 := hidden (fun k hk => (KH.lt k hk).2)
  have EG := hidden (evs_one LG fG)
  have EH := hidden (evs_one LH fH)
  have VS := hidden (show W.heap.size ≤ (W.alloc (.cells (el y0 ++ el y1 ++ el y2).toArray 44)).heap.size by simp)
  have d79 := cell_keep c79 BA
  have d80 := hidden (cell_keep c80 BA)
  have LW := hidden (show w.heap.size < W.heap.size from World.block_lt_of_cell? W _ c79)
  have OG := hidden (own_keepL KG BA)
  have OH := hidden (own_keepL KH BA)
  have BB := hidden (bl_trans B0 BA)
  have MG : Hid (LG ≤ 1048576) := hidden hG
  have MH : Hid (LH ≤ 1048576) := hidden hH
  have SB := hidden B0.size
  clear hi hz0 hz1 hz2 M0 oG oH KG KH r0 r1 r2 BA hbig hG hH B0 c80 c79
  go_enter Tryd.func10, Tryd.ntmps10
  go_wp2_with (first | refine wpList_load_mid rfl 44 _ rfl w.heap.size 1 (by rfl) (el y0) _ R0.out UE.out rfl I0.out ?_ | refine wpList_load_mid rfl 44 _ rfl w.heap.size 27 (by rfl) (el y1) _ R1.out UE.out rfl I1.out ?_ | refine wpList_load_mid rfl 44 _ rfl w.heap.size 53 (by rfl) (el y2) _ R2.out UE.out rfl I2.out ?_ | (refine wpList_buildEl3 rfl _ _ _ rfl y0 y1 y2 rfl rfl rfl ?_; generalize W.alloc (.cells (el y0 ++ el y1 ++ el y2).toArray 44) = V at d79 d80 O3 OG OH BB VS ⊢) | (at_builtin; refine wpList_append_both rfl _ _ 45 rfl W.heap.size 44 i0 (.agg ze.toArray) 26 224 HU.out HI.out HZ0.out HZ1.out HZ2.out rfl (by decide) _ 3 (el y0 ++ el y1 ++ el y2) rfl O3.out _ LG _ (evs LG fG) rfl OG.out EG.out (by have := MG.out; have := MH.out; unfold maxLen; omega) (by have := MG.out; have := MH.out; omega) VS.out ?_; intro v4 w4 o4 b4; have O4 := hidden o4; have e80 : w4.cell? ⟨w.heap.size, 80, none⟩ = some (.slice PH LH cH) := (b4.cell (p := ⟨w.heap.size, 80, none⟩) LW.out).trans d80.out; have QH := hidden (own_keepB OH.out b4 LH2.out); have B4 := hidden b4; have VT := hidden (Nat.le_trans VS.out b4.size); clear o4 b4 O3 d79) | (at_builtin; refine wpList_append_both rfl _ _ 45 rfl W.heap.size 44 i0 (.agg ze.toArray) 26 224 HU.out HI.out HZ0.out HZ1.out HZ2.out rfl (by decide) _ (3 + LG) ((el y0 ++ el y1 ++ el y2) ++ evs LG fG) rfl O4.out _ LH _ (evs LH fH) rfl QH.out EH.out (by have := MG.out; have := MH.out; unfold maxLen; omega) (by have := MG.out; have := MH.out; omega) VT.out ?_; intro v5 w5 o5 b5; have O5 := hidden (own_less o5 SB.out); have B5 := hidden (below_trans BB.out (below_less (below_trans B4.out b5) SB.out)); clear o5 b5 O4))
  refine bodyPost_ret (v := v5) (by simp [results, Tryd.results10, go_sem]) rfl ⟨v5, rfl, O5.out, B5.out⟩
end Go.Proofs.YtlijigolfggcfaaDoor
