import Derived.Test.YtcecpfcekejblaaBkf
namespace Go.Proofs.Ytcecpfcekejblaa
open Go.RowKit
set_option linter.unusedVariables false
set_option linter.unusedSimpArgs false
/-- a block's bytes up to a transaction -/
def rbi (par : List UInt8) (h : Nat) (mint : List UInt8) (ps : List (List UInt8)) (i : Nat) : List UInt8 := [3] ++ par ++ vn h ++ vn mint.length ++ mint ++ vn ps.length ++ ((ps.take i).map ptx).flatten
theorem rbi_all (par : List UInt8) (h : Nat) (mint : List UInt8) (ps : List (List UInt8)) : rbi par h mint ps ps.length = bkb par h mint ps := by
  unfold rbi bkb bps
  rw [List.take_length, List.flatten_append]
  simp
theorem rbi_next (par : List UInt8) (h : Nat) (mint : List UInt8) (ps : List (List UInt8)) (i : Nat) (hi : i < ps.length) : rbi par h mint ps (i + 1) = rbi par h mint ps i ++ vn (ps.getD i []).length ++ ps.getD i [] := by
  unfold rbi
  rw [List.take_succ_eq_append_getElem hi, List.map_append, List.flatten_append]
  simp [List.getElem?_eq_getElem hi, ptx]
theorem rbi_len (par : List UInt8) (h : Nat) (mint : List UInt8) (ps : List (List UInt8)) (i : Nat) (l0 : par.length = 64) (hm : mint.length ≤ 1048576) (h32 : ps.length ≤ 32) (hs : ∀ j, j < i → (ps.getD j []).length ≤ 1048576) : (rbi par h mint ps i).length ≤ 2 ^ 40 := by
  have h1 := (vn_len h).2
  have h2 := (vn_len mint.length).2
  have h3 := (vn_len ps.length).2
  have h4 := flat_map_len ((ps.take i).map ptx) (by
    intro p hp
    obtain ⟨x, hx, rfl⟩ := List.mem_map.1 hp
    obtain ⟨j, hj, rfl⟩ := List.getElem_of_mem hx
    rw [List.length_take] at hj
    have hh := hs j (by omega)
    have e : (ps.take i)[j]'(by rw [List.length_take]; exact hj) = ps.getD j [] := by simp [List.getElem?_eq_getElem (show j < ps.length by omega)]
    rw [e]
    have := (vn_len (ps.getD j []).length).2
    simp only [ptx, List.length_append]
    omega)
  have h5 : ((ps.take i).map ptx).length ≤ 32 := by simp; omega
  unfold rbi
  simp only [List.length_append, List.length_cons, List.length_nil]
  have h6 := Nat.mul_le_mul_right 1048586 h5
  omega
set_option maxRecDepth 100000 in
set_option maxHeartbeats 16000000 in
theorem rblock_bad1 (h : Int) (par : List UInt8) (pa : Array Value) (hpa : pa = (cb par).toArray) (l0 : par.length = 64) (mint : List UInt8) (pm : Option Addr) (cm : Nat) (ps : List (List UInt8)) (P : Option Addr) (cn : Nat) (q : Nat → Option Addr) (c : Nat → Nat) (w : World) (hM : By w pm cm mint) (hP : Pt w P ps q c) (hh : ¬ okh h) :
    Calls Try.prog 6 #[.agg pa, .int .i64 h, .slice pm mint.length cm, .slice P ps.length cn] w fun e w' => e = .returned (.tuple #[.slice none 0 0, .int .i64 186]) ∧ Below w.heap.size w w' := by
  have B0 := hidden (bl_alloc w (.cells pa 23))
  by_cases h1 : h < 1
  · clear hh hM hP hpa l0
    go_enter Try.func6, Try.ntmps6
    go_wp2_with fail
    refine bodyPost_ret (v := .tuple #[.slice none 0 0, .int .i64 186]) (by simp [results, Try.results6, go_sem]) rfl ⟨rfl, B0.out⟩
  · have h2 : h > 1048576 := by
      refine Classical.byContradiction fun x => hh ⟨by omega, by omega⟩
    clear hh hM hP hpa l0
    go_enter Try.func6, Try.ntmps6
    go_wp2_with fail
    refine bodyPost_ret (v := .tuple #[.slice none 0 0, .int .i64 186]) (by simp [results, Try.results6, go_sem]) rfl ⟨rfl, B0.out⟩
set_option maxRecDepth 100000 in
set_option maxHeartbeats 16000000 in
theorem rblock_bad2 (h : Int) (par : List UInt8) (pa : Array Value) (hpa : pa = (cb par).toArray) (l0 : par.length = 64) (mint : List UInt8) (pm : Option Addr) (cm : Nat) (ps : List (List UInt8)) (P : Option Addr) (cn : Nat) (q : Nat → Option Addr) (c : Nat → Nat) (w : World) (hM : By w pm cm mint) (hP : Pt w P ps q c) (hh : okh h) (hl : ¬ (ps.length ≤ 32 ∧ mint.length ≤ 1048576)) :
    Calls Try.prog 6 #[.agg pa, .int .i64 h, .slice pm mint.length cm, .slice P ps.length cn] w fun e w' => e = .returned (.tuple #[.slice none 0 0, .int .i64 2]) ∧ Below w.heap.size w w' := by
  have B0 := hidden (bl_alloc w (.cells pa 23))
  have h1 : ¬ h < 1 := by have := hh.1; omega
  have h2 : ¬ h > 1048576 := by have := hh.2; omega
  by_cases h32 : ps.length ≤ 32
  · have k1 : ¬ (ps.length : Int) > 32 := by omega
    have k2 : (mint.length : Int) > 1048576 := by
      have : ¬ mint.length ≤ 1048576 := fun x => hl ⟨h32, x⟩
      omega
    clear hh hM hP hpa l0 hl h32
    go_enter Try.func6, Try.ntmps6
    go_wp2_with fail
    refine bodyPost_ret (v := .tuple #[.slice none 0 0, .int .i64 2]) (by simp [results, Try.results6, go_sem]) rfl ⟨rfl, B0.out⟩
  · have k1 : (ps.length : Int) > 32 := by omega
    clear hh hM hP hpa l0 hl h32
    go_enter Try.func6, Try.ntmps6
    go_wp2_with fail
    refine bodyPost_ret (v := .tuple #[.slice none 0 0, .int .i64 2]) (by simp [results, Try.results6, go_sem]) rfl ⟨rfl, B0.out⟩
/-- what a Block answers -/
def An (h : Int) (par mint : List UInt8) (ps : List (List UInt8)) (E : Int) (F : List UInt8) : Prop :=
  (¬ okh h ∧ E = 186 ∧ F = []) ∨ (okh h ∧ ¬ okl mint ps ∧ E = 2 ∧ F = []) ∨ (okh h ∧ okl mint ps ∧ E = 0 ∧ F = bkb par h.toNat mint ps)
theorem An.same {h : Int} {par mint : List UInt8} {ps : List (List UInt8)} {E E' : Int} {F F' : List UInt8} (a : An h par mint ps E F) (b : An h par mint ps E' F') : E = E' ∧ F = F' := by
  rcases a with ⟨x, rfl, rfl⟩ | ⟨x, y, rfl, rfl⟩ | ⟨x, y, rfl, rfl⟩ <;> rcases b with ⟨x', rfl, rfl⟩ | ⟨x', y', rfl, rfl⟩ | ⟨x', y', rfl, rfl⟩ <;> first | exact ⟨rfl, rfl⟩ | exact absurd x x' | exact absurd x' x | exact absurd y y' | exact absurd y' y
theorem an_lg {h : Nat} {par mint : List UInt8} {ps : List (List UInt8)} (hh : okh h) (hl : lg ps) : An h par mint ps 2 [] := .inr (.inl ⟨hh, fun x => x.2.2 hl, rfl, rfl⟩)
set_option maxRecDepth 100000 in
set_option maxHeartbeats 16000000 in
theorem rblock_go (h : Nat) (par : List UInt8) (pa : Array Value) (hpa : pa = (cb par).toArray) (l0 : par.length = 64) (mint : List UInt8) (pm : Option Addr) (cm : Nat) (ps : List (List UInt8)) (P : Option Addr) (cn : Nat) (q : Nat → Option Addr) (c : Nat → Nat) (w : World) (hM : By w pm cm mint) (hP : Pt w P ps q c) (hh : okh h) (hl : ps.length ≤ 32 ∧ mint.length ≤ 1048576) :
    Calls Try.prog 6 #[.agg pa, .int .i64 (h : Int), .slice pm mint.length cm, .slice P ps.length cn] w fun e w' => ∃ v E F, e = .returned (.tuple #[v, .int .i64 E]) ∧ An h par mint ps E F ∧ w'.ownsRow w.heap.size 5 1 v F.length (cb F) ∧ Below w.heap.size w w' := by
  have B0 := hidden (bl_alloc w (.cells pa 23))
  have h1 : ¬ (h : Int) < 1 := by have := hh.1; omega
  have h2 : ¬ (h : Int) > 1048576 := by have := hh.2; omega
  have k1 : ¬ (ps.length : Int) > 32 := by have := hl.1; omega
  have k2 : ¬ (mint.length : Int) > 1048576 := by have := hl.2; omega
  have K0 := hidden (by_box w par 23 64)
  rw [← hpa] at K0
  have HH := hidden hh
  have HL := hidden hl
  have L0 := hidden l0
  have LV : Hid ((vn h).length ≤ 10 ∧ (vn mint.length).length ≤ 10 ∧ (vn ps.length).length ≤ 10 ∧ par.length = 64 ∧ mint.length ≤ 1048576) := hidden ⟨(vn_len h).2, (vn_len _).2, (vn_len _).2, l0, hl.2⟩
  have z1 : IntKind.u64.wrap (h : Int) = (h : Int) := by rw [IntKind.wrap_u64]; have := hh.2; omega
  have z2 : IntKind.u64.wrap (ps.length : Int) = (ps.length : Int) := by rw [IntKind.wrap_u64]; have := hl.1; omega
  have z5 : IntKind.u64.wrap (mint.length : Int) = (mint.length : Int) := by rw [IntKind.wrap_u64]; have := hl.2; omega
  have z3 : (h : Int) % 18446744073709551616 = (h : Int) := by have := hh.2; omega
  have z4 : (ps.length : Int) % 18446744073709551616 = (ps.length : Int) := by have := hl.1; omega
  have z6 : (mint.length : Int) % 18446744073709551616 = (mint.length : Int) := by have := hl.2; omega
  have PW := hidden hP
  have MW := hidden hM
  have SZ : Hid (w.heap.size ≤ (w.alloc (.cells pa 23)).heap.size) := hidden (bl_alloc w (.cells pa 23)).size
  clear hh hM hP hpa l0 hl
  go_enter Try.func6, Try.ntmps6
  go_upto_region 1 with fail
  obtain ⟨bx, hbx⟩ : ∃ bx, bx = w.heap.size := ⟨_, rfl⟩
  rw [← hbx] at K0
  generalize w.alloc (.cells pa 23) = w1 at *
  go_upto_region 5 with fail
  rw [← hbx]
  clear hbx
  have ON : Hid ((w1.alloc (.cells #[.int .u8 3] 5)).ownsRow w.heap.size 5 1 (.slice (some ⟨w1.heap.size, 0, none⟩) 1 1) ([3] : List UInt8).length (cb [3])) := hidden ⟨rfl, .inr ⟨w1.heap.size, 1, _, rfl, SZ.out, heap_alloc_new w1 _, by simp, by unfold maxLen; omega, by simp, by simp [cb]⟩⟩
  have YN := hidden (K0.out.keep (bl_alloc w1 (.cells #[.int .u8 3] 5)))
  have BN := hidden (bl_trans B0.out (bl_alloc w1 (.cells #[.int .u8 3] 5)))
  go_upto_region 6 with (first | (at_builtin; refine wpList_app_by rfl _ _ rfl w.heap.size _ ([3]) (par) _ _ rfl (by rw [L0.out]; rfl) ON.out (YN.out) (by have := LV.out; simp only [List.length_append, List.length_cons, List.length_nil]; omega) BN.out.size ?_; intro va0 wa0 ho hg; have OC := hidden ho; have BC := hidden (below_trans BN.out (below_grown hg BN.out.size (fun k hk => (ON.out.lt k hk).1))); clear ho hg))
  clear ON YN BN K0 B0 SZ
  go_upto_region 7 with (first | (go_at_call 16; refine (rNum18_any h _ (by have := HH.out.2; omega)).mono ?_; rintro e wn1 ⟨vn1, rfl, ho, hb⟩; obtain ⟨gn1, cn1, rfl, hy⟩ := own_sl ho rfl (vn_len _).1; have YN := hidden hy; have ON := hidden (own_stay OC.out hb); have BN := hidden (bl_trans BC.out hb); clear ho hb hy OC BC) | (at_builtin; refine wpList_app_by rfl _ _ rfl w.heap.size _ ([3] ++ par) (vn h) _ _ rfl rfl ON.out (YN.out) (by have := LV.out; simp only [List.length_append, List.length_cons, List.length_nil]; omega) BN.out.size ?_; intro va1 wa1 ho hg; have OC := hidden ho; have BC := hidden (below_trans BN.out (below_grown hg BN.out.size (fun k hk => (ON.out.lt k hk).1))); clear ho hg))
  clear ON YN BN
  go_upto_region 8 with (first | (go_at_call 16; refine (rNum18_any mint.length _ (by have := HL.out.2; omega)).mono ?_; rintro e wn2 ⟨vn2, rfl, ho, hb⟩; obtain ⟨gn2, cn2, rfl, hy⟩ := own_sl ho rfl (vn_len _).1; have YN := hidden hy; have ON := hidden (own_stay OC.out hb); have BN := hidden (bl_trans BC.out hb); clear ho hb hy OC BC) | (at_builtin; refine wpList_app_by rfl _ _ rfl w.heap.size _ ([3] ++ par ++ vn h) (vn mint.length) _ _ rfl rfl ON.out (YN.out) (by have := LV.out; simp only [List.length_append, List.length_cons, List.length_nil]; omega) BN.out.size ?_; intro va2 wa2 ho hg; have OC := hidden ho; have BC := hidden (below_trans BN.out (below_grown hg BN.out.size (fun k hk => (ON.out.lt k hk).1))); clear ho hg))
  clear ON YN BN
  have ON := OC
  have BN := BC
  clear OC BC
  go_upto_region 9 with (first | (at_builtin; refine wpList_app_by rfl _ _ rfl w.heap.size _ ([3] ++ par ++ vn h ++ vn mint.length) (mint) _ _ rfl rfl ON.out (MW.out.keep BN.out) (by have := LV.out; simp only [List.length_append, List.length_cons, List.length_nil]; omega) BN.out.size ?_; intro va3 wa3 ho hg; have OC := hidden ho; have BC := hidden (below_trans BN.out (below_grown hg BN.out.size (fun k hk => (ON.out.lt k hk).1))); clear ho hg))
  clear ON BN
  go_upto_region 10 with (first | (go_at_call 16; refine (rNum18_any ps.length _ (by have := HL.out.1; omega)).mono ?_; rintro e wn4 ⟨vn4, rfl, ho, hb⟩; obtain ⟨gn4, cn4, rfl, hy⟩ := own_sl ho rfl (vn_len _).1; have YN := hidden hy; have ON := hidden (own_stay OC.out hb); have BN := hidden (bl_trans BC.out hb); clear ho hb hy OC BC) | (at_builtin; refine wpList_app_by rfl _ _ rfl w.heap.size _ ([3] ++ par ++ vn h ++ vn mint.length ++ mint) (vn ps.length) _ _ rfl rfl ON.out (YN.out) (by have := LV.out; simp only [List.length_append, List.length_cons, List.length_nil]; omega) BN.out.size ?_; intro va4 wa4 ho hg; have OC := hidden ho; have BC := hidden (below_trans BN.out (below_grown hg BN.out.size (fun k hk => (ON.out.lt k hk).1))); clear ho hg))
  clear ON YN BN
  have O5 : Hid (wa4.ownsRow w.heap.size 5 1 va4 (rbi par h mint ps 0).length (cb (rbi par h mint ps 0))) := hidden (by have h0 := OC.out; simpa only [rbi, List.take_zero, List.map_nil, List.flatten_nil, List.append_nil] using h0)
  clear OC
  go_wp2_with fail
  go_loopw [10, 11] (fun vv iv w' => ∃ i : Nat, i ≤ ps.length ∧ iv = .int .i64 i ∧ Hid (∀ j, j < i → (ps.getD j []).length ≤ 1048576) ∧ Hid (w'.ownsRow w.heap.size 5 1 vv (rbi par h mint ps i).length (cb (rbi par h mint ps i))) ∧ Hid (Below w.heap.size w w')) (fun _ i _ => ps.length - (intOf i).toNat)
  case atStart => exact ⟨0, by omega, rfl, hidden (fun j hj => by omega), O5, BC⟩
  case round =>
    clear O5 BC
    obtain ⟨i, hi, rfl, hS, hO, hB⟩ := hrel
    by_cases hin : i < ps.length
    · have i0' : (0 : Int) ≤ (i : Int) := by omega
      have i1 : (i : Int) < (ps.length : Int) := by omega
      have w9 : IntKind.i64.wrap ((i : Int) + 1) = (i : Int) + 1 := IntWalk.i64_in _ (by have := HL.out.1; omega)
      obtain ⟨b, o, rfl, hc⟩ := PW.out.lie (by omega)
      have x0 := cell_keep (hc i hin) hB.out
      have CK := hidden (fun (x : World) (hb : Below w.heap.size w x) => cell_keep (hc i hin) hb)
      have YK := hidden (fun (x : World) (hb : Below w.heap.size w x) => (PW.out.each i hin).keep hb)
      have RN := hidden (rbi_next par h mint ps i hin)
      have RL := hidden (rbi_len par h mint ps i L0.out HL.out.2 HL.out.1 hS.out)
      by_cases hlen : (ps.getD i []).length ≤ 1048576
      · have k3 : ¬ ((ps.getD i []).length : Int) > 1048576 := by omega
        have z7 : IntKind.u64.wrap ((ps.getD i []).length : Int) = ((ps.getD i []).length : Int) := by rw [IntKind.wrap_u64]; omega
        have z8 : ((ps.getD i []).length : Int) % 18446744073709551616 = ((ps.getD i []).length : Int) := by omega
        have NS : Hid (∀ j, j < i + 1 → (ps.getD j []).length ≤ 1048576) := hidden (fun j hj => by
          by_cases e : j = i
          · subst e; exact hlen
          · exact hS.out j (by omega))
        have HLN := hidden hlen
        clear hc hS hlen
        generalize ps.getD i [] = y at x0 CK YK RN k3 z7 z8 HLN
        generalize rbi par h mint ps i = R at hO RN RL
        have OC := hO
        have BC := hB
        clear hO hB
        go_wp2_with (first | (go_at_call 16; refine (rNum18_any y.length _ (by have := HLN.out; omega)).mono ?_; rintro e wn5 ⟨vn5, rfl, ho, hb⟩; obtain ⟨gn5, cn5, rfl, hy⟩ := own_sl ho rfl (vn_len _).1; have YN := hidden hy; have ON := hidden (own_stay OC.out hb); have BN := hidden (bl_trans BC.out hb); have x1 := CK.out _ BN.out; clear ho hb hy OC BC) | (at_builtin; refine wpList_app_by rfl _ _ rfl w.heap.size _ (R) (vn y.length) _ _ rfl rfl ON.out (YN.out) (by have := RL.out; have := (vn_len y.length).2; omega) BN.out.size ?_; intro va5 wa5 ho hg; have OC := hidden ho; have BC := hidden (below_trans BN.out (below_grown hg BN.out.size (fun k hk => (ON.out.lt k hk).1))); have x2 := CK.out _ BC.out; clear ho hg ON YN BN) | (at_builtin; refine wpList_app_by rfl _ _ rfl w.heap.size _ (R ++ vn y.length) y _ _ rfl rfl OC.out (YK.out _ BC.out) (by have := RL.out; have := (vn_len y.length).2; have := HLN.out; rw [List.length_append]; omega) BC.out.size ?_; intro va6 wa6 ho hg; have OC2 := hidden ho; have BC2 := hidden (below_trans BC.out (below_grown hg BC.out.size (fun k hk => (OC.out.lt k hk).1))); clear ho hg OC BC))
        go_roundw
        case rel => exact ⟨i + 1, by omega, by go_num, NS, by rw [RN.out]; exact OC2, BC2⟩
        case measure => simp [intOf]; omega
      · have k3 : ((ps.getD i []).length : Int) > 1048576 := by omega
        have HLG : Hid (lg ps) := hidden ⟨i, hin, by omega⟩
        clear hc hS hlen CK YK RN RL
        generalize (ps.getD i []).length = m at x0 k3
        go_wp2_with fail
        refine bodyPost_ret (v := .tuple #[.slice none 0 0, .int .i64 2]) (by simp [results, Try.results6, go_sem]) rfl ⟨_, 2, [], rfl, an_lg HH.out HLG.out, World.ownsRow_nil _ _ _ _, hB.out⟩
    · obtain rfl : i = ps.length := by omega
      have lq : ¬ (ps.length : Int) < (ps.length : Int) := by omega
      have HF : Hid (An h par mint ps 0 (rbi par h mint ps ps.length)) := hidden (.inr (.inr ⟨HH.out, ⟨HL.out.1, HL.out.2, fun ⟨k, hk, hk2⟩ => by have := hS.out k hk; omega⟩, rfl, by rw [rbi_all]; rfl⟩))
      generalize rbi par h mint ps ps.length = F at hO HF
      clear hS
      go_wp2_with fail
      refine bodyPost_ret (v := .tuple #[u10, .int .i64 0]) (by simp [results, Try.results6, go_sem]) rfl ⟨_, 0, rfl, F, HF.out, hO.out, hB.out⟩
end Go.Proofs.Ytcecpfcekejblaa
