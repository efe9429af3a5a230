import Derived.Test.YtcecpfcekejblaaBkd
namespace Go.Proofs.Ytcecpfcekejblaa
open Go.RowKit
set_option linter.unusedVariables false
/-- may a block have that height? -/
def okh (h : Int) : Prop := 1 ≤ h ∧ h ≤ 1048576
/-- is nothing too long? -/
def okl (mint : List UInt8) (ps : List (List UInt8)) : Prop := ps.length ≤ 32 ∧ mint.length ≤ 1048576 ∧ ¬ lg ps
def ptx (p : List UInt8) : List UInt8 := vn p.length ++ p
/-- a block's parts -/
def bps (par : List UInt8) (h : Nat) (mint : List UInt8) (ps : List (List UInt8)) : List (List UInt8) := [[3], par, vn h, vn mint.length ++ mint, vn ps.length] ++ ps.map ptx
/-- a block's bytes -/
def bkb (par : List UInt8) (h : Nat) (mint : List UInt8) (ps : List (List UInt8)) : List UInt8 := (bps par h mint ps).flatten
theorem by_box (w : World) (l : List UInt8) (T : TypeId) (c : Nat) : By (w.alloc (.cells (cb l).toArray T)) (some ⟨w.heap.size, 0, none⟩) c l :=
  ⟨fun h => (by cases h), fun a ha => by obtain rfl := Option.some.inj ha; exact cells_new w (cb l) _⟩
theorem own_sl {w : World} {B n : Nat} {v : Value} {bs : List UInt8} (h : w.ownsRow B 5 1 v n (cb bs)) (hn : n = bs.length) (h1 : 1 ≤ bs.length) : ∃ g c : Nat, v = .slice (some ⟨g, 0, none⟩) bs.length c ∧ By w (some ⟨g, 0, none⟩) c bs := by
  subst hn
  obtain ⟨g, c, rfl, _⟩ := own_some h (by omega)
  exact ⟨g, c, rfl, own_byQ h⟩
theorem an_sl (n : Nat) (hn : n < 2 ^ 64) (y : World) : Calls Try.prog 13 #[.slice none 0 0, .int .u64 (n : Int)] y fun e w' => ∃ g c : Nat, e = .returned (.slice (some ⟨g, 0, none⟩) (vn n).length c) ∧ By w' (some ⟨g, 0, none⟩) c (vn n) ∧ Below y.heap.size y w' := by
  refine (appNum_any none 0 [] n y (by_none y) (by simp) hn).mono ?_
  rintro e w' ⟨v, rfl, ho, hb⟩
  obtain ⟨g, c, rfl, hy⟩ := own_sl ho rfl (vn_len n).1
  exact ⟨g, c, rfl, hy, hb⟩
theorem ab_sl (Q : Option Addr) (d : Nat) (xs : List UInt8) (y : World) (hX : By y Q d xs) (hl : xs.length ≤ 1048576) : Calls Try.prog 14 #[.slice none 0 0, .slice Q xs.length d] y fun e w' => ∃ g c : Nat, e = .returned (.slice (some ⟨g, 0, none⟩) (vn xs.length ++ xs).length c) ∧ By w' (some ⟨g, 0, none⟩) c (vn xs.length ++ xs) ∧ Below y.heap.size y w' := by
  refine (appBytes_any none Q 0 d [] xs y (by_none y) hX (by simp; omega)).mono ?_
  rintro e w' ⟨v, rfl, ho, hb⟩
  obtain ⟨g, c, rfl, hy⟩ := own_sl ho rfl (by have := (vn_len xs.length).1; simp; omega)
  exact ⟨g, c, rfl, hy, hb⟩
/-- append of one list onto lists -/
theorem wpList_appV {w : World} {ops : Array Oper} {rest : List Oper} {o : Oper} {a : Act} {Q : Exit → Act → World → Prop} (hgd : o.guard = none) (sl x : Operand)
    (ho : o.op = .call { callee := .builtin .append, args := #[sl, x], argTypes := #[25, 25] })
    (base n g : Nat) (v u : Value) (vs : List Value) (hu : u.oneCell' = true) (hs : a.eval sl = v) (hx : a.eval x = .slice (some ⟨g, 0, none⟩) 1 1) (hown : w.ownsRow base 24 1 v n vs) (hc : w.cell? ⟨g, 0, none⟩ = some u) (hn : n ≤ 5864062014804) (hbase : base ≤ w.heap.size)
    (h : ∀ v' w', w'.ownsRow base 24 1 v' (n + 1) (vs ++ [u]) → w.grownBy w' v.ownBlock → wpList Try.prog ops Q rest (a.put o.dst v') w') : wpList Try.prog ops Q (o :: rest) a w := by
  have h1 : Try.prog.underlying 25 = some (.slice 24) := by kernel_rfl
  have hi : Try.prog.info? 24 = some (Try.prog.info? 24).get! := by kernel_rfl
  have hz : (Try.prog.info? 24).get!.zero = some (.slice none 0 0) := by kernel_rfl
  have hs' : (Try.prog.info? 24).get!.size = 1 := by kernel_rfl
  have hy : (Try.prog.info? 24).get!.bytes = 24 := by kernel_rfl
  obtain ⟨v', w', hr, ho', hg, _⟩ := run_append_own (P := Try.prog) w base _ o.type _ _ _ 1 24 h1 hi hz hs' hy rfl (by decide) v _ _ hown ⟨g, 0, none⟩ 1 1 [u] (by simp) (fun j y hy => by
    cases j with
    | zero => simp at hy; subst hy; exact hc
    | succ j => simp at hy) (by simpa using hu) (by unfold maxLen; omega) (by omega) hbase
  refine wpList_plain hgd fun K hK => ?_
  unfold Oper.wp execOp
  simp only [ho, resolve, invoke, builtin, Sem.run_bind, Sem.run_pure, Result.andThen_ok, List.map_toArray, List.map_cons, List.map_nil, hs, hx, hr]
  exact hK _ _ (h v' w' ho' hg)
theorem flat_map_len (ps : List (List UInt8)) (h : ∀ p ∈ ps, p.length ≤ 1048586) : ps.flatten.length ≤ ps.length * 1048586 := by
  induction ps with
  | nil => simp
  | cons p ps ih =>
    have h1 := h p (by simp)
    have h2 := ih (fun x hx => h x (by simp [hx]))
    simp only [List.flatten_cons, List.length_append, List.length_cons]
    omega
theorem not_lg {ps : List (List UInt8)} (h : ¬ lg ps) : ∀ p ∈ ps, p.length ≤ 1048576 := by
  intro p hp
  obtain ⟨k, hk, rfl⟩ := List.getElem_of_mem hp
  refine Nat.le_of_not_lt fun hl => h ⟨k, hk, ?_⟩
  simpa [List.getElem?_eq_getElem hk] using hl
theorem bps_len {par : List UInt8} {h : Nat} {mint : List UInt8} {ps : List (List UInt8)} (l0 : par.length = 64) (ho : okl mint ps) : 0 < (bkb par h mint ps).length ∧ (bkb par h mint ps).length ≤ 2 ^ 40 := by
  have h1 := (vn_len h).2
  have h2 := (vn_len mint.length).2
  have h3 := (vn_len ps.length).2
  have h4 := flat_map_len (ps.map ptx) (by
    intro p hp
    obtain ⟨x, hx, rfl⟩ := List.mem_map.1 hp
    have := not_lg ho.2.2 x hx
    have := (vn_len x.length).2
    simp only [ptx, List.length_append]
    omega)
  have h5 := ho.1
  have h6 := ho.2.1
  rw [List.length_map] at h4
  unfold bkb bps
  rw [List.flatten_append, List.length_append]
  simp only [List.flatten_cons, List.flatten_nil, List.length_append, List.length_cons, List.length_nil]
  omega
set_option maxRecDepth 100000 in
set_option maxHeartbeats 16000000 in
theorem block_bad1 (h : Int) (par : List UInt8) (pa : Array Value) (hpa : pa = (cb par).toArray) (l0 : par.length = 64) (mint : List UInt8) (pm : Option Addr) (cm : Nat) (ps : List (List UInt8)) (P : Option Addr) (cn : Nat) (q : Nat → Option Addr) (c : Nat → Nat) (w : World) (hM : By w pm cm mint) (hP : Pt w P ps q c) (hh : ¬ okh h) :
    Calls Try.prog 5 #[.agg pa, .int .i64 h, .slice pm mint.length cm, .slice P ps.length cn] w fun e w' => e = .returned (.tuple #[.slice none 0 0, .int .i64 186]) ∧ Below w.heap.size w w' := by
  have IH := hidden (isHeight_any h (w.alloc (.cells pa 23)) false (decide_eq_false (show ¬ (1 ≤ h ∧ h ≤ 1048576) from hh)).symm)
  have B0 := hidden (bl_alloc w (.cells pa 23))
  clear hh hM hP hpa l0
  go_enter Try.func5, Try.ntmps5
  go_upto_region 1 with fail
  generalize w.alloc (.cells pa 23) = w1 at *
  go_wp2_with (first | (go_at_call 10; refine IH.out.mono ?_; rintro e w2 ⟨rfl, rfl⟩))
  refine bodyPost_ret (v := .tuple #[.slice none 0 0, .int .i64 186]) (by simp [results, Try.results5, go_sem]) rfl ⟨rfl, B0.out⟩
set_option maxRecDepth 100000 in
set_option maxHeartbeats 16000000 in
theorem block_bad2 (h : Int) (par : List UInt8) (pa : Array Value) (hpa : pa = (cb par).toArray) (l0 : par.length = 64) (mint : List UInt8) (pm : Option Addr) (cm : Nat) (ps : List (List UInt8)) (P : Option Addr) (cn : Nat) (q : Nat → Option Addr) (c : Nat → Nat) (w : World) (hM : By w pm cm mint) (hP : Pt w P ps q c) (hh : okh h) (hl : ¬ okl mint ps) :
    Calls Try.prog 5 #[.agg pa, .int .i64 h, .slice pm mint.length cm, .slice P ps.length cn] w fun e w' => e = .returned (.tuple #[.slice none 0 0, .int .i64 2]) ∧ Below w.heap.size w w' := by
  have IH := hidden (isHeight_any h (w.alloc (.cells pa 23)) true (decide_eq_true (show 1 ≤ h ∧ h ≤ 1048576 from hh)).symm)
  have B0 := hidden (bl_alloc w (.cells pa 23))
  by_cases h32 : ps.length ≤ 32
  · by_cases hml : mint.length ≤ 1048576
    · have TL := hidden (tooLong_any pm cm mint.length (w.alloc (.cells pa 23)) false (by rw [decide_eq_false (by omega)]))
      have CF := hidden (contains_any ps P cn q c (w.alloc (.cells pa 23)) (hP.keep (bl_alloc w _)) (by omega) true ⟨fun _ => Classical.byContradiction fun x => hl ⟨h32, hml, x⟩, fun _ => rfl⟩)
      have k1 : ¬ (ps.length : Int) > 32 := by omega
      clear hh hM hP hpa l0 hl h32 hml
      go_enter Try.func5, Try.ntmps5
      go_upto_region 1 with fail
      generalize w.alloc (.cells pa 23) = w1 at *
      go_wp2_with (first | (go_at_call 10; refine IH.out.mono ?_; rintro e w2 ⟨rfl, rfl⟩) | (go_at_call 11; refine TL.out.mono ?_; rintro e w2 ⟨rfl, rfl⟩) | (go_at_call 12; refine CF.out.mono ?_; rintro e w2 ⟨rfl, rfl⟩))
      refine bodyPost_ret (v := .tuple #[.slice none 0 0, .int .i64 2]) (by simp [results, Try.results5, go_sem]) rfl ⟨rfl, B0.out⟩
    · have TL := hidden (tooLong_any pm cm mint.length (w.alloc (.cells pa 23)) true (by rw [decide_eq_true (by omega)]))
      have k1 : ¬ (ps.length : Int) > 32 := by omega
      clear hh hM hP hpa l0 hl h32 hml
      go_enter Try.func5, Try.ntmps5
      go_upto_region 1 with fail
      generalize w.alloc (.cells pa 23) = w1 at *
      go_wp2_with (first | (go_at_call 10; refine IH.out.mono ?_; rintro e w2 ⟨rfl, rfl⟩) | (go_at_call 11; refine TL.out.mono ?_; rintro e w2 ⟨rfl, rfl⟩))
      refine bodyPost_ret (v := .tuple #[.slice none 0 0, .int .i64 2]) (by simp [results, Try.results5, go_sem]) rfl ⟨rfl, B0.out⟩
  · have k1 : (ps.length : Int) > 32 := by omega
    clear hh hM hP hpa l0 hl h32
    go_enter Try.func5, Try.ntmps5
    go_upto_region 1 with fail
    generalize w.alloc (.cells pa 23) = w1 at *
    go_wp2_with (first | (go_at_call 10; refine IH.out.mono ?_; rintro e w2 ⟨rfl, rfl⟩))
    refine bodyPost_ret (v := .tuple #[.slice none 0 0, .int .i64 2]) (by simp [results, Try.results5, go_sem]) rfl ⟨rfl, B0.out⟩
theorem slot_snoc (v : Value) (vs : List Value) (h : ∃ P m d, vs[0]? = some (Value.slice P m d)) : ∃ P m d, (vs ++ [v])[0]? = some (Value.slice P m d) := by
  obtain ⟨P, m, d, h⟩ := h
  refine ⟨P, m, d, ?_⟩
  rw [List.getElem?_append_left (List.getElem?_eq_some_iff.1 h).1, h]
set_option maxRecDepth 100000 in
set_option maxHeartbeats 16000000 in
theorem block_ok (h : Nat) (par : List UInt8) (pa : Array Value) (hpa : pa = (cb par).toArray) (l0 : par.length = 64) (mint : List UInt8) (pm : Option Addr) (cm : Nat) (ps : List (List UInt8)) (P : Option Addr) (cn : Nat) (q : Nat → Option Addr) (c : Nat → Nat) (w : World) (hM : By w pm cm mint) (hP : Pt w P ps q c) (hh : okh h) (hl : okl mint ps) :
    Calls Try.prog 5 #[.agg pa, .int .i64 (h : Int), .slice pm mint.length cm, .slice P ps.length cn] w fun e w' => ∃ v, e = .returned (.tuple #[v, .int .i64 0]) ∧ w'.ownsRow w.heap.size 5 1 v (bkb par h mint ps).length (cb (bkb par h mint ps)) ∧ Below w.heap.size w w' := by
  have IH := hidden (isHeight_any h (w.alloc (.cells pa 23)) true (decide_eq_true (show 1 ≤ (h : Int) ∧ (h : Int) ≤ 1048576 from hh)).symm)
  have B0 := hidden (bl_alloc w (.cells pa 23))
  have TL := hidden (tooLong_any pm cm mint.length (w.alloc (.cells pa 23)) false (by rw [decide_eq_false (by have := hl.2.1; omega)]))
  have CF := hidden (contains_any ps P cn q c (w.alloc (.cells pa 23)) (hP.keep (bl_alloc w _)) (by have := hl.1; omega) false ⟨fun x => (by cases x), fun x => absurd x hl.2.2⟩)
  have k1 : ¬ (ps.length : Int) > 32 := by have := hl.1; omega
  have K0 := hidden (by_box w par 23 64)
  rw [← hpa] at K0
  have HH := hidden hh
  have HL := hidden hl
  have LN := hidden (bps_len (h := h) l0 hl)
  have L0 := hidden l0
  have z1 : IntKind.u64.wrap (h : Int) = (h : Int) := by rw [IntKind.wrap_u64]; have := hh.2; omega
  have z2 : IntKind.u64.wrap (ps.length : Int) = (ps.length : Int) := by rw [IntKind.wrap_u64]; have := hl.1; omega
  have z3 : (h : Int) % 18446744073709551616 = (h : Int) := by have := hh.2; omega
  have z4 : (ps.length : Int) % 18446744073709551616 = (ps.length : Int) := by have := hl.1; omega
  have PW := hidden hP
  have MW := hidden hM
  have SZ : Hid (w.heap.size ≤ (w.alloc (.cells pa 23)).heap.size) := hidden (bl_alloc w (.cells pa 23)).size
  clear hh hM hP hpa l0 hl
  go_enter Try.func5, Try.ntmps5
  go_upto_region 1 with fail
  obtain ⟨bx, hbx⟩ : ∃ bx, bx = w.heap.size := ⟨_, rfl⟩
  rw [← hbx] at K0
  generalize w.alloc (.cells pa 23) = w1 at *
  go_upto_region 6 with (first | (go_at_call 10; refine IH.out.mono ?_; rintro e w2 ⟨rfl, rfl⟩) | (go_at_call 11; refine TL.out.mono ?_; rintro e w2 ⟨rfl, rfl⟩) | (go_at_call 12; refine CF.out.mono ?_; rintro e w2 ⟨rfl, rfl⟩))
  rw [← hbx]
  clear hbx
  refine bk6 _ bx h mint.length cm ps.length cn pm P par (vn h) (vn mint.length ++ mint) (vn ps.length) _ _ _ _ _ _ _ _ _ _ _ _ _ _ _ _ _ _ _ _ _ _ _ _ _ _ _ _ _ _ _ _ _ _ _ _ _ _ _ _ _ _ _ _ _ _ _ _ _ _ _ _ _ z1 z2 z3 z4 L0.out (vn_len h).1 (by have := (vn_len mint.length).1; rw [List.length_append]; omega) (vn_len _).1 K0 (hidden fun y hy => an_sl h (by have := HH.out.2; omega) y) (hidden fun y hy => ab_sl pm cm mint y ((MW.out.keep B0.out).keep hy) HL.out.2.1) (hidden fun y hy => an_sl ps.length (by have := HL.out.1; omega) y) (hidden ?_)
  intro N0 g2 c2 g3 c3 g4 c4 tb wz OW LVz BZ
  have P5 : Hid (∃ vs, wz.ownsRow w.heap.size 24 1 (.slice (some ⟨tb, 0, none⟩) 5 5) (5 + 0) vs ∧ Lv wz vs ([[3], par, vn h, vn mint.length ++ mint, vn ps.length] ++ (ps.take 0).map ptx) ∧ ∃ P m d, vs[0]? = some (Value.slice P m d)) := hidden ⟨_, own_less OW SZ.out, by simpa using LVz, _, _, _, rfl⟩
  have B5 := hidden (bl_trans B0.out BZ)
  clear OW LVz BZ K0 IH TL CF B0 MW k1 z1 z3
  generalize (vn mint.length ++ mint).length = L3
  generalize (vn h).length = L2
  generalize (vn ps.length).length = L4
  go_wp2_with fail
  go_loopw [11, 44] (fun lv iv w' => ∃ i : Nat, i ≤ ps.length ∧ iv = .int .i64 i ∧ Hid (∃ vs, w'.ownsRow w.heap.size 24 1 lv (5 + i) vs ∧ Lv w' vs ([[3], par, vn h, vn mint.length ++ mint, vn ps.length] ++ (ps.take i).map ptx) ∧ ∃ P m d, vs[0]? = some (Value.slice P m d)) ∧ Hid (Below w.heap.size w w')) (fun _ i _ => ps.length - (intOf i).toNat)
  case atStart => exact ⟨0, by omega, rfl, P5, B5⟩
  case round =>
    clear P5 B5
    obtain ⟨i, hi, rfl, hL, hB⟩ := hrel
    by_cases hin : i < ps.length
    · have i0' : (0 : Int) ≤ (i : Int) := by omega
      have i1 : (i : Int) < (ps.length : Int) := by omega
      have w9 : IntKind.i64.wrap ((i : Int) + 1) = (i : Int) + 1 := IntWalk.i64_in _ (by have := HL.out.1; omega)
      obtain ⟨b, o, hPo, hc⟩ := PW.out.lie (by omega)
      have x0 := cell_keep (hc i hin) hB.out
      have hy := (PW.out.each i hin).keep hB.out
      have hlen : (ps.getD i []).length ≤ 1048576 := Nat.le_of_not_lt fun x => HL.out.2.2 ⟨i, hin, x⟩
      have CB := hidden (ab_sl (q i) (c i) (ps.getD i []) wr hy hlen)
      have hmap : (ps.take (i + 1)).map ptx = (ps.take i).map ptx ++ [ptx (ps.getD i [])] := by
        rw [List.take_succ_eq_append_getElem hin, List.map_append]
        simp [List.getElem?_eq_getElem hin]
      have HM := hidden hmap
      have hp1 : 1 ≤ (ptx (ps.getD i [])).length := by unfold ptx; have := (vn_len (ps.getD i []).length).1; rw [List.length_append]; omega
      have H1 := hidden hp1
      change Hid (Calls _ _ _ _ fun e w' => ∃ g c : Nat, e = .returned (.slice (some ⟨g, 0, none⟩) (ptx (ps.getD i [])).length c) ∧ By w' (some ⟨g, 0, none⟩) c (ptx (ps.getD i [])) ∧ _) at CB
      generalize ptx (ps.getD i []) = y at CB HM H1
      generalize (ps.getD i []).length = m at x0 CB
      generalize q i = qi at x0 CB
      generalize c i = ci at x0 CB
      obtain ⟨vs, ho, hv, hs⟩ := hL.out
      have HO := hidden ho
      have HV := hidden hv
      have HS := hidden hs
      subst hPo
      clear hc hy hlen hmap hp1 ho hv hs hL
      go_wp2_with (first
        | (go_at_call 14; refine CB.out.mono ?_; rintro e wa ⟨g, d, rfl, hy, hb⟩; have BY := hidden hy; have O1 := hidden (own_stay HO.out hb); have V1 := hidden (HV.out.keep hb); have B1 := hidden (bl_trans hB.out hb); clear hy hb CB HO HV hB)
        | (at_builtin; refine wpList_appV rfl _ _ rfl w.heap.size (5 + i) wa.heap.size _ (.slice (some ⟨g, 0, none⟩) y.length d) vs rfl rfl rfl (own_stay O1.out (bl_alloc wa _)) (by go_simp) (by have := HL.out.1; omega) (Nat.le_trans B1.out.size (bl_alloc wa _).size) ?_; intro v4 w4 ho4 hg4; have P4 : Hid (∃ vs, w4.ownsRow w.heap.size 24 1 v4 (5 + (i + 1)) vs ∧ Lv w4 vs ([[3], par, vn h, vn mint.length ++ mint, vn ps.length] ++ (ps.take (i + 1)).map ptx) ∧ ∃ P m d, vs[0]? = some (Value.slice P m d)) := hidden ⟨_, ho4, (by rw [HM.out, ← List.append_assoc]; exact ((V1.out.keep (bl_alloc wa _)).snoc H1.out (BY.out.keep (bl_alloc wa _))).grown (own_stay O1.out (bl_alloc wa _)) (by omega) HS.out hg4), slot_snoc _ _ HS.out⟩; have B4 := hidden (below_trans (bl_trans B1.out (bl_alloc wa _)) (below_grown hg4 (Nat.le_trans B1.out.size (bl_alloc wa _).size) (fun k hk => (O1.out.lt k hk).1))); clear ho4 hg4 O1 V1 BY B1))
      go_roundw
      case rel => exact ⟨i + 1, by omega, by go_num, P4, B4⟩
      case measure => simp [intOf]; omega
    · obtain rfl : i = ps.length := by omega
      have lq : ¬ (ps.length : Int) < (ps.length : Int) := by omega
      obtain ⟨vs, ho, hv, hs⟩ := hL.out
      obtain ⟨g, d, rfl, _⟩ := own_some ho (by omega)
      rw [List.take_length] at hv
      have hv2 : Lv wr vs (bps par h mint ps) := hv
      have hlp : 5 + ps.length = (bps par h mint ps).length := by unfold bps; simp; omega
      obtain ⟨q2, c2', hpt⟩ := hv2.pt ho hlp
      have CC := hidden (concat_any (bkb par h mint ps) (bps par h mint ps) rfl _ d q2 c2' wr hpt LN.out.1 LN.out.2 (by rw [← hlp]; have := HL.out.1; omega))
      rw [← hlp] at CC
      obtain ⟨F, hF⟩ : ∃ F, F = bkb par h mint ps := ⟨_, rfl⟩
      rw [← hF] at CC
      have HF := hidden hF
      clear hF
      clear ho hv hs hv2 hlp hpt hL
      go_wp2_with (first | (go_at_call 15; refine CC.out.mono ?_; rintro e wa ⟨v, rfl, ho, hb⟩; have OF := hidden (own_less ho hB.out.size); have BF := hidden (bl_trans hB.out hb); clear ho hb))
      refine bodyPost_ret (v := .tuple #[v, .int .i64 0]) (by simp [results, Try.results5, go_sem]) rfl ⟨v, rfl, by rw [← HF.out]; exact OF.out, BF.out⟩
end Go.Proofs.Ytcecpfcekejblaa
