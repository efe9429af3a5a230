import Derived.Test.YthkfjggogcmdmaaDoorWd
import Derived.Laws.Small
import Derived.Laws.RangeAny
import Derived.Lib.OthersKept
namespace Go.Proofs.YthkfjggogcmdmaaDoor.Tr
open Go.RowKit
/-- a digit's letter -/
def hd (n : Nat) : UInt8 := if n < 10 then UInt8.ofNat (48 + n) else UInt8.ofNat (87 + n)
/-- bytes as digits -/
def hx (bs : List UInt8) : List UInt8 := bs.flatMap fun b => [hd (b.toNat / 16), hd (b.toNat % 16)]
/-- what a letter stands for; 16: nothing -/
def dv (c : UInt8) : Nat := if 48 ≤ c.toNat ∧ c.toNat ≤ 57 then c.toNat - 48 else if 97 ≤ c.toNat ∧ c.toNat ≤ 102 then c.toNat - 87 else 16
/-- the bytes of digits -/
def uh : List UInt8 → Option (List UInt8)
  | [] => some []
  | [_] => none
  | p :: q :: t => if dv p < 16 ∧ dv q < 16 then (uh t).map fun r => UInt8.ofNat (16 * dv p + dv q) :: r else none
theorem hd_dv (n : Nat) (h : n < 16) : dv (hd n) = n := by
  have : ∀ k : Fin 16, dv (hd k.val) = k.val := by decide
  exact this ⟨n, h⟩
theorem dv_hd (c : UInt8) (h : dv c < 16) : hd (dv c) = c := by
  unfold dv at h ⊢
  split
  · rename_i h1
    unfold hd
    rw [if_pos (by omega), show 48 + (c.toNat - 48) = c.toNat by omega]
    simp
  · rename_i h1
    rw [if_neg h1] at h
    split
    · rename_i h2
      unfold hd
      rw [if_neg (by omega), show 87 + (c.toNat - 87) = c.toNat by omega]
      simp
    · rename_i h2
      rw [if_neg h2] at h
      omega
theorem hx_len : ∀ bs : List UInt8, (hx bs).length = 2 * bs.length
  | [] => rfl
  | b :: r => by
    have := hx_len r
    simp only [hx, List.flatMap_cons, List.length_append, List.length_cons, List.length_nil] at this ⊢
    omega
theorem uh_hx : ∀ bs : List UInt8, uh (hx bs) = some bs
  | [] => rfl
  | b :: r => by
    have ih := uh_hx r
    have hb := b.toNat_lt
    simp only [hx, List.flatMap_cons, List.cons_append, List.nil_append] at ih ⊢
    rw [uh, hd_dv _ (by omega), hd_dv _ (by omega), if_pos (by omega), ih]
    simp only [Option.map_some, Option.some.injEq, List.cons.injEq, and_true]
    rw [show 16 * (b.toNat / 16) + b.toNat % 16 = b.toNat by omega]
    simp
theorem hx_uh : ∀ (n : Nat) (l r : List UInt8), l.length ≤ n → uh l = some r → hx r = l
  | _, [], r, _, h => by
    simp only [uh, Option.some.injEq] at h
    subst h
    rfl
  | _, [_], r, _, h => by simp [uh] at h
  | 0, _ :: _ :: _, _, hl, _ => by simp at hl
  | n + 1, p :: q :: t, r, hl, h => by
    unfold uh at h
    split at h
    · rename_i h1
      cases h2 : uh t with
      | none => rw [h2] at h; simp at h
      | some s =>
        rw [h2] at h
        simp only [Option.map_some, Option.some.injEq] at h
        subst h
        have ih := hx_uh n t s (by simp at hl; omega) h2
        have e : (UInt8.ofNat (16 * dv p + dv q)).toNat = 16 * dv p + dv q := by rw [UInt8.toNat_ofNat']; omega
        simp only [hx, List.flatMap_cons, List.cons_append, List.nil_append] at ih ⊢
        rw [e, ih, show (16 * dv p + dv q) / 16 = dv p by omega, show (16 * dv p + dv q) % 16 = dv q by omega, dv_hd p h1.1, dv_hd q h1.2]
    · simp at h
theorem hx_next (bs : List UInt8) (k : Nat) (h : k < bs.length) : hx (bs.take (k + 1)) = hx (bs.take k) ++ [hd ((bs.getD k 0).toNat / 16), hd ((bs.getD k 0).toNat % 16)] := by
  unfold hx
  rw [List.take_add_one, List.flatMap_append]
  simp [List.getElem?_eq_getElem h]
/-- append of bytes for which there is room -/
theorem run_app_fits (w : World) (base ty g n cap : Nat) (xs bs : List UInt8) (a : Addr) (c : Nat) (ho : w.ownsRow base 5 1 (.slice (some ⟨g, 0, none⟩) n cap) n (cb xs)) (hB : By w (some a) c bs) (hx : n + bs.length ≤ cap) :
    ∃ w', (Builtin.append_ #[29, 29] ty #[.slice (some ⟨g, 0, none⟩) n cap, .slice (some a) bs.length c]).run Tryd.prog w = .ok (.slice (some ⟨g, 0, none⟩) (n + bs.length) cap) w' ∧ w'.ownsRow base 5 1 (.slice (some ⟨g, 0, none⟩) (n + bs.length) cap) (n + bs.length) (cb (xs ++ bs)) ∧ w.grownBy w' (some g) := by
  have h1 : Tryd.prog.underlying 29 = some (.slice 5) := by kernel_rfl
  have hi : Tryd.prog.info? 5 = some (Tryd.prog.info? 5).get! := by kernel_rfl
  have hs : (Tryd.prog.info? 5).get!.size = 1 := by kernel_rfl
  have hxl : (cb xs).length = n * 1 := ho.1
  rcases ho.2 with ⟨h', _⟩ | ⟨g', cap', cur, h', hbg, hg, hnc, hcm, hcs, htake⟩
  · simp at h'
  · simp only [Value.slice.injEq, Option.some.injEq, Addr.mk.injEq, and_true, true_and] at h'
    obtain ⟨rfl, rfl⟩ := h'
    have hr := run_append_room (P := Tryd.prog) w _ ty _ _ h1 hi g n cap cur hg a bs.length c (cb bs) (by simp [hs, cb_len]) (hB.lie a rfl) (cb_one bs) hx (by rw [hs, cb_len]; omega)
    rw [hs] at hr
    refine ⟨_, hr, ⟨by rw [cb_app, List.length_append, hxl, cb_len, Nat.add_mul, Nat.mul_one bs.length], .inr ⟨g, cap, _, rfl, hbg, setRow_heap w g cur _ _ _ hg, hx, hcm, ?_, ?_⟩⟩, ⟨rfl, rfl, rfl, by simp, fun k _ hk => setRow_other w g k _ (fun e => hk (by simp [e]))⟩⟩
    · simp only [List.size_toArray, List.length_append, List.length_take, List.length_drop, Array.length_toList, cb_len]
      omega
    · rw [htake, cb_app]
      have : (n + bs.length) * 1 = (cb xs ++ cb bs).length := by rw [List.length_append, hxl, cb_len]; omega
      rw [this]
      exact List.take_left
theorem step_app_fits {ops : Array Oper} {o : Oper} {a : Act} {w : World} {K : Act → World → Prop} {Q : Exit → Act → World → Prop} {E : Prop}
    (hg : o.guard = none) (s x : Operand) (hop : o.op = Op.call { callee := Callee.builtin Builtin.append, args := #[s, x], argTypes := #[29, 29] })
    (base g n cap : Nat) (xs bs : List UInt8) (ad : Addr) (c : Nat) (hs : a.eval s = .slice (some ⟨g, 0, none⟩) n cap) (hx : a.eval x = .slice (some ad) bs.length c) (hown : w.ownsRow base 5 1 (.slice (some ⟨g, 0, none⟩) n cap) n (cb xs)) (hB : By w (some ad) c bs) (hroom : n + bs.length ≤ cap)
    (h : ∀ w', w'.ownsRow base 5 1 (.slice (some ⟨g, 0, none⟩) (n + bs.length) cap) (n + bs.length) (cb (xs ++ bs)) → w.grownBy w' (some g) → K (a.put o.dst (.slice (some ⟨g, 0, none⟩) (n + bs.length) cap)) w') :
    if Region.wanted o (yielded ops a.tmps) = true then Oper.wp Tryd.prog o a w K Q else E := by
  have hw : Region.wanted o (yielded ops a.tmps) = true := by simp [Region.wanted, hg]
  rw [if_pos hw]
  obtain ⟨w', hr, h2, h3⟩ := run_app_fits w base o.type g n cap xs bs ad c hown hB hroom
  unfold Oper.wp
  simp only [execOp, hop, resolve, invoke, builtin, Sem.run_bind, Sem.run_pure, Result.andThen_ok, List.map_toArray, List.map_cons, List.map_nil, hs, hx, hr]
  exact h w' h2 h3
end Go.Proofs.YthkfjggogcmdmaaDoor.Tr
namespace Go.Proofs.YthkfjggogcmdmaaDoor.Tr
open Go.RowKit
theorem ixd (n : Nat) (hn : n < 16) (k : Nat) (hk : k = n) (h : k < ({ data := #[48, 49, 50, 51, 52, 53, 54, 55, 56, 57, 97, 98, 99, 100, 101, 102] } : ByteArray).size) : ({ data := #[48, 49, 50, 51, 52, 53, 54, 55, 56, 57, 97, 98, 99, 100, 101, 102] } : ByteArray)[k]'h = hd n := by
  subst hk
  have key : ∀ m : Fin 16, (({ data := #[48, 49, 50, 51, 52, 53, 54, 55, 56, 57, 97, 98, 99, 100, 101, 102] } : ByteArray)[m.val]'m.isLt) = hd m.val := by decide
  exact key ⟨k, hn⟩
theorem and15 (y : UInt8) : bits .and .u8 (y.toNat : Int) 15 = (y.toNat : Int) % 16 := by
  have : ∀ n : Fin 256, bits .and .u8 (n.val : Int) 15 = (n.val : Int) % 16 := by decide +kernel
  exact this ⟨y.toNat, y.toNat_lt⟩
set_option maxRecDepth 100000 in
set_option maxHeartbeats 8000000 in
theorem hex_any (P : Option Addr) (c : Nat) (bs : List UInt8) (w : World) (hB : By w P c bs) (hl : bs.length ≤ 140737488351232) :
    Calls Tryd.prog 6 #[.slice P bs.length c] w fun e w' => e = .returned (.string (sb (hx bs))) ∧ Below w.heap.size w w' := by
  have HL := hidden hl
  have HP := hidden hB
  have w0 : IntKind.i64.wrap (2 * (bs.length : Int)) = 2 * (bs.length : Int) := IntWalk.i64_in _ (by omega)
  have hmk : (Instr.makeSlice 29 (.int .i64 0) (.int .i64 (2 * (bs.length : Int)))).run Tryd.prog w = .ok (.slice (some ⟨w.heap.size, 0, none⟩) 0 (2 * bs.length)) (w.alloc (.cells (madeCells #[.int .u8 0] (2 * bs.length)) 5)) := by
    have h := run_make (P := Tryd.prog) w 29 5 (Tryd.prog.info? 5).get! (.int .u8 0) (by kernel_rfl) (by kernel_rfl) (by kernel_rfl) .i64 .i64 0 (2 * (bs.length : Int)) (by omega) (by omega) (by rw [show (Tryd.prog.info? 5).get!.bytes = 1 by kernel_rfl]; omega) (by omega)
    rw [show (Tryd.prog.info? 5).get!.size = 1 by kernel_rfl, show (2 * (bs.length : Int)).toNat = 2 * bs.length by omega, Nat.mul_one] at h
    exact h
  have HO := hidden (World.ownsRow_made (base := w.heap.size) (e := 5) (size := 1) w (madeCells #[.int .u8 0] (2 * bs.length)) (2 * bs.length) (Nat.le_refl _) (by unfold maxLen; omega) (by simp [madeCells]))
  have HB := hidden (bl_alloc w (.cells (madeCells #[.int .u8 0] (2 * bs.length)) 5))
  generalize madeCells #[.int .u8 0] (2 * bs.length) = Z at hmk HO HB
  clear hl hB
  go_enter Tryd.func6, Tryd.ntmps6
  go_upto_region 3 with fail
  generalize hW : w.alloc (.cells Z 5) = wz at HO HB
  clear hmk hW
  go_loopw [3, 12] (fun vv kv w' => ∃ k : Nat, k ≤ bs.length ∧ kv = .int .i64 (k : Int) ∧ vv = .slice (some ⟨w.heap.size, 0, none⟩) (2 * k) (2 * bs.length) ∧ Hid (w'.ownsRow w.heap.size 5 1 (.slice (some ⟨w.heap.size, 0, none⟩) (2 * k) (2 * bs.length)) (2 * k) (cb (hx (bs.take k)))) ∧ Hid (Below w.heap.size w w')) (fun _ k _ => bs.length - (intOf k).toNat)
  case atStart => exact ⟨0, by omega, rfl, rfl, HO, HB⟩
  case round =>
    clear HO HB
    obtain ⟨k, hk, rfl, rfl, HO, HB⟩ := hrel
    by_cases hkn : k < bs.length
    · obtain ⟨b, o, rfl⟩ := HP.out.none' (by omega)
      have x0 := (HP.out.keep HB.out).at k hkn
      have k0 : (0 : Int) ≤ (k : Int) := by omega
      have k1 : (k : Int) < (bs.length : Int) := by omega
      have HX := hidden (hx_next bs k hkn)
      generalize bs.getD k 0 = y at x0 HX
      have y0 := y.toNat_lt
      have i0 := ixd (y.toNat / 16) (by omega) ((y.toNat : Int) / 16).toNat (by omega)
      have i1 := ixd (y.toNat % 16) (by omega) ((y.toNat : Int) % 16).toNat (by omega)
      have j0 : (0 : Int) ≤ (y.toNat : Int) / 16 ∧ (y.toNat : Int) / 16 < 16 := by omega
      have j1 : (0 : Int) ≤ (y.toNat : Int) % 16 ∧ (y.toNat : Int) % 16 < 16 := by omega
      have e0 := and15 y
      generalize hd (y.toNat / 16) = p at i0 HX
      generalize hd (y.toNat % 16) = q at i1 HX
      go_upto_region 5 with fail
      have HO' := hidden (fun o => (own_stay HO.out (bl_alloc wr o)).drew)
      have HY' := hidden ((by_list wr [p, q] 2).keep (drew_blW _))
      have R0 : 2 * k + [p, q].length ≤ 2 * bs.length := by simp only [List.length_cons, List.length_nil]; omega
      have R1 := hidden R0
      clear R0
      go_region_law (first | (refine step_app_fits rfl (.tmp 16) (.tmp 23) rfl w.heap.size w.heap.size (2 * k) (2 * bs.length) (hx (bs.take k)) [p, q] ⟨wr.heap.size, 0, none⟩ 2 rfl rfl (HO'.out _) HY'.out R1.out ?_; intro w3 ho hg; have NO := hidden ho; have NB := hidden (below_set (bl_trans (bl_trans HB.out (bl_alloc wr _)) (drew_blW _)) hg (Nat.le_refl _) (Nat.le_refl _)); clear ho hg))
      all_goals
        rw [← HX.out] at NO
        clear x0 i0 i1 j0 j1 e0
        have w9 : IntKind.i64.wrap ((k : Int) + 1) = (k : Int) + 1 := IntWalk.i64_in _ (by have := HL.out; omega)
        go_wp2_with fail
        go_roundw
        case rel => exact ⟨k + 1, by omega, by go_num, by simp [Nat.mul_add], by have h := NO.out; simp only [List.length_cons, List.length_nil] at h; exact hidden h, NB⟩
        case measure => simp [intOf]; omega
    · obtain rfl : k = bs.length := by omega
      have lq : ¬ (bs.length : Int) < (bs.length : Int) := by omega
      rw [List.take_length] at HO
      have h2 := HO.out
      rw [← hx_len bs] at h2
      have CV := own_conv h2
      rw [hx_len bs] at CV
      clear h2
      go_wp2_with fail
      refine bodyPost_ret (v := .string (sb (hx bs))) (by simp [results, Tryd.results6, go_sem]) rfl ⟨rfl, HB.out⟩
end Go.Proofs.YthkfjggogcmdmaaDoor.Tr
namespace Go.Proofs.YthkfjggogcmdmaaDoor.Tr
open Go.RowKit
/-- a byte half made of two digits -/
def ub (l : List UInt8) (k j : Nat) : UInt8 := if 2 * j + 1 < k then UInt8.ofNat (16 * dv (l.getD (2 * j) 0) + dv (l.getD (2 * j + 1) 0)) else if 2 * j < k then UInt8.ofNat (dv (l.getD (2 * j) 0)) else 0
/-- the bytes, k digits in -/
def ul (l : List UInt8) (k : Nat) : List UInt8 := (List.range (l.length / 2)).map (ub l k)
theorem ul_len (l : List UInt8) (k : Nat) : (ul l k).length = l.length / 2 := by simp [ul]
theorem ul_zero (l : List UInt8) : cb (ul l 0) = List.replicate (l.length / 2) (.int .u8 0) := by
  have : ul l 0 = List.replicate (l.length / 2) 0 := by
    unfold ul
    have e : ub l 0 = fun _ => 0 := by funext j; simp [ub]
    rw [e]
    simp [List.map_const']
  rw [this]
  simp [cb]
theorem uh_even : ∀ (n : Nat) (l : List UInt8), l.length = 2 * n → (∀ i, i < l.length → dv (l.getD i 0) < 16) → uh l = some ((List.range n).map fun j => UInt8.ofNat (16 * dv (l.getD (2 * j) 0) + dv (l.getD (2 * j + 1) 0)))
  | 0, l, hl, _ => by
    have : l = [] := List.eq_nil_of_length_eq_zero (by omega)
    subst this
    rfl
  | n + 1, p :: q :: t, hl, hd => by
    have ih := uh_even n t (by simp at hl; omega) (fun i hi => by have := hd (i + 2) (by simp; omega); simpa using this)
    have h0 := hd 0 (by simp)
    have h1 := hd 1 (by simp)
    simp only [List.getD_cons_zero, List.getD_cons_succ] at h0 h1
    rw [uh, if_pos ⟨h0, h1⟩, ih, List.range_succ_eq_map]
    simp [Function.comp_def, Nat.mul_add]
  | n + 1, [_], hl, _ => by simp at hl; omega
  | n + 1, [], hl, _ => by simp at hl
theorem uh_all (l : List UInt8) (h : l.length % 2 = 0) (hd : ∀ i, i < l.length → dv (l.getD i 0) < 16) : uh l = some (ul l l.length) := by
  rw [uh_even (l.length / 2) l (by omega) hd]
  congr 1
  unfold ul
  refine List.map_congr_left fun j hj => ?_
  have := List.mem_range.1 hj
  unfold ub
  rw [if_pos (by omega)]
theorem uh_bad : ∀ (n : Nat) (l : List UInt8) (i : Nat), l.length ≤ n → i < l.length → ¬ dv (l.getD i 0) < 16 → uh l = none
  | _, [], i, _, hi, _ => by simp at hi
  | _, [_], i, _, _, _ => rfl
  | 0, _ :: _ :: _, _, hl, _, _ => by simp at hl
  | n + 1, p :: q :: t, i, hl, hi, hd => by
    rw [uh]
    split
    · rename_i h1
      match i, hd, hi with
      | 0, hd, _ => exact absurd h1.1 (by simpa using hd)
      | 1, hd, _ => exact absurd h1.2 (by simpa using hd)
      | i + 2, hd, hi =>
        rw [uh_bad n t i (by simp at hl; omega) (by simp at hi; omega) (by simpa using hd)]
        rfl
    · rfl
theorem uh_odd : ∀ (n : Nat) (l : List UInt8), l.length ≤ n → l.length % 2 = 1 → uh l = none
  | _, [], _, h => by simp at h
  | _, [_], _, _ => rfl
  | 0, _ :: _ :: _, hl, _ => by simp at hl
  | n + 1, p :: q :: t, hl, h => by
    rw [uh]
    split
    · rw [uh_odd n t (by simp at hl; omega) (by simp at h; omega)]
      rfl
    · rfl
theorem ul_set (l : List UInt8) (k : Nat) (h : k < l.length) (he : l.length % 2 = 0) : (cb (ul l k)).set (k / 2) (.int .u8 ((ub l (k + 1) (k / 2)).toNat : Int)) = cb (ul l (k + 1)) := by
  refine List.ext_getElem? fun j => ?_
  rw [List.getElem?_set]
  by_cases e : k / 2 = j
  · subst e
    rw [if_pos rfl, if_pos (by rw [cb_len, ul_len]; omega)]
    simp [cb, ul, List.getElem?_range (show k / 2 < l.length / 2 by omega)]
  · rw [if_neg e]
    by_cases hj : j < l.length / 2
    · have : ub l (k + 1) j = ub l k j := by
        unfold ub
        by_cases h1 : 2 * j + 1 < k
        · rw [if_pos h1, if_pos (by omega)]
        · rw [if_neg h1, if_neg (by omega)]
          by_cases h2 : 2 * j < k
          · rw [if_pos h2, if_pos (by omega)]
          · rw [if_neg h2, if_neg (by omega)]
      simp [cb, ul, List.getElem?_range hj, this]
    · rw [List.getElem?_eq_none (by rw [cb_len, ul_len]; omega), List.getElem?_eq_none (by rw [cb_len, ul_len]; omega)]
/-- a digit more -/
theorem u8_shl (a d : Nat) (ha : a < 16) (hd : d < 16) : bits .or .u8 ((a : Int) * 16 % 256) (d : Int) = ((16 * a + d : Nat) : Int) := by
  have : ∀ (a d : Fin 16), bits .or .u8 ((a.val : Int) * 16 % 256) (d.val : Int) = ((16 * a.val + d.val : Nat) : Int) := by decide +kernel
  exact this ⟨a, ha⟩ ⟨d, hd⟩
end Go.Proofs.YthkfjggogcmdmaaDoor.Tr
namespace Go.Proofs.YthkfjggogcmdmaaDoor.Tr
open Go.RowKit
theorem grown_iter (w : World) (k : Nat) (s : ByteArray) (pos : Nat) : w.grownBy (w.iterAt k s pos) (some k) :=
  ⟨rfl, rfl, rfl, by rw [Lib.iterAt_size]; exact Nat.le_refl _, fun j _ hne => Lib.iterAt_other w k j s pos (fun e => hne (by rw [e]))⟩
theorem sb_get (l : List UInt8) (k : Nat) (h : k < (sb l).size) (h2 : k < l.length) : (sb l)[k]'h = l.getD k 0 := by
  simp [sb, h2]
  rfl
theorem ub_lt (l : List UInt8) (k : Nat) (h : ∀ i, i < k → dv (l.getD i 0) < 16) : (ub l k (k / 2)).toNat < 16 := by
  unfold ub
  rw [if_neg (by omega)]
  split
  · have := h (2 * (k / 2)) (by omega)
    rw [UInt8.toNat_ofNat']
    omega
  · decide
theorem ub_next (l : List UInt8) (k : Nat) (h : ∀ i, i < k → dv (l.getD i 0) < 16) (hd : dv (l.getD k 0) < 16) : 16 * (ub l k (k / 2)).toNat + dv (l.getD k 0) = (ub l (k + 1) (k / 2)).toNat := by
  unfold ub
  rw [if_neg (by omega)]
  by_cases e : k % 2 = 0
  · rw [if_neg (by omega), if_neg (by omega), if_pos (by omega), show 2 * (k / 2) = k by omega, UInt8.toNat_ofNat', show (0 : UInt8).toNat = 0 from rfl]
    omega
  · have h1 := h (2 * (k / 2)) (by omega)
    rw [if_pos (by omega), if_pos (by omega), show 2 * (k / 2) + 1 = k by omega, UInt8.toNat_ofNat', UInt8.toNat_ofNat']
    omega
theorem iterPos_of {w : World} {k : Nat} {s : ByteArray} {p : Nat} (h : w.heap[k]? = some (.stringIter s p)) : w.iterPos k = p := by unfold World.iterPos; rw [h]
/-- what Unhex answers -/
def UhR (l : List UInt8) (w w' : World) (v : Value) (e : Nat) : Prop :=
  match uh l with
  | some r => e = 0 ∧ w'.ownsRow w.heap.size 5 1 v r.length (cb r)
  | none => e = 104 ∧ v = .slice none 0 0
end Go.Proofs.YthkfjggogcmdmaaDoor.Tr
namespace Go.Proofs.YthkfjggogcmdmaaDoor.Tr
open Go.RowKit
theorem dv_le (c : UInt8) : dv c ≤ 16 := by
  have := c.toNat_lt
  unfold dv
  split
  · omega
  · split <;> omega
theorem ul_next (l : List UInt8) (k : Nat) (h : 2 * k + 1 < l.length) : (ul l l.length).take (k + 1) = (ul l l.length).take k ++ [UInt8.ofNat (16 * dv (l.getD (2 * k) 0) + dv (l.getD (2 * k + 1) 0))] := by
  rw [List.take_add_one]
  congr 1
  simp only [ul, List.getElem?_map, List.getElem?_range (show k < l.length / 2 by omega), Option.map_some, Option.toList_some]
  unfold ub
  rw [if_pos h]
end Go.Proofs.YthkfjggogcmdmaaDoor.Tr
namespace Go.Proofs.YthkfjggogcmdmaaDoor.Tr
open Go.RowKit
theorem exd (n : Nat) (hn : n < 16) : ({ data := #[48, 49, 50, 51, 52, 53, 54, 55, 56, 57, 97, 98, 99, 100, 101, 102] } : ByteArray).extract n (n + 1) = sb [hd n] := by
  have key : ∀ m : Fin 16, (({ data := #[48, 49, 50, 51, 52, 53, 54, 55, 56, 57, 97, 98, 99, 100, 101, 102] } : ByteArray).extract m.val (m.val + 1)) = sb [hd m.val] := by decide +kernel
  exact key ⟨n, hn⟩
theorem sb_app (a b : List UInt8) : sb a ++ sb b = sb (a ++ b) := by
  apply ByteArray.ext
  simp [sb, ByteArray.data_append]
set_option maxRecDepth 100000 in
set_option maxHeartbeats 8000000 in
theorem rhex_any (P : Option Addr) (c : Nat) (bs : List UInt8) (w : World) (hB : By w P c bs) (hl : bs.length ≤ 140737488351232) :
    Calls Tryd.prog 7 #[.slice P bs.length c] w fun e w' => e = .returned (.string (sb (hx bs))) ∧ Below w.heap.size w w' := by
  have HL := hidden hl
  have HP := hidden hB
  have HB := hidden (Below.refl w.heap.size w)
  clear hl hB
  go_enter Tryd.func7, Tryd.ntmps7
  go_upto_region 3 with fail
  go_loopw [3, 4] (fun sv kv w' => ∃ k : Nat, k ≤ bs.length ∧ kv = .int .i64 (k : Int) ∧ sv = .string (sb (hx (bs.take k))) ∧ Hid (Below w.heap.size w w')) (fun _ k _ => bs.length - (intOf k).toNat)
  case atStart => exact ⟨0, by omega, rfl, rfl, HB⟩
  case round =>
    clear HB
    obtain ⟨k, hk, rfl, rfl, HB⟩ := hrel
    by_cases hkn : k < bs.length
    · obtain ⟨b, o, rfl⟩ := HP.out.none' (by omega)
      have x0 := (HP.out.keep HB.out).at k hkn
      have k0 : (0 : Int) ≤ (k : Int) := by omega
      have k1 : (k : Int) < (bs.length : Int) := by omega
      have HX := hidden (hx_next bs k hkn)
      generalize bs.getD k 0 = y at x0 HX
      have y0 := y.toNat_lt
      have HN : Hid ((hx (bs.take k)).length ≤ 2 ^ 60) := hidden (by have := HL.out; rw [hx_len, List.length_take]; omega)
      generalize hx (bs.take k) = X at HX HN
      have z0 := sb_size X
      have w9 : IntKind.i64.wrap ((k : Int) + 1) = (k : Int) + 1 := IntWalk.i64_in _ (by have := HL.out; omega)
      have t0 := exd (y.toNat / 16) (by omega)
      have t1 := exd (y.toNat % 16) (by omega)
      generalize hd (y.toNat / 16) = p at t0 HX
      generalize hd (y.toNat % 16) = q at t1 HX
      have a0 := sb_app X [p]
      have a1 := sb_app (X ++ [p]) [q]
      have z1 : (sb [p]).size = 1 := sb_size [p]
      have z2 : (sb [q]).size = 1 := sb_size [q]
      have z3 : (sb (X ++ [p])).size = X.length + 1 := by rw [sb_size]; simp
      rw [List.append_assoc, List.cons_append, List.nil_append, ← HX.out] at a1
      have n0 : ¬ 9223372036854775807 < X.length + 1 := by have := HN.out; omega
      have n1 : ¬ 9223372036854775807 < X.length + 1 + 1 := by have := HN.out; omega
      generalize sb (X ++ [p]) = Z at a0 a1 z3
      go_upto_region 5 with fail
      go_big_region
      all_goals
        clear x0 t0 t1 a0 a1 z0 z1 z2 z3 n0 n1
        go_wp2_with fail
        go_roundw
        case rel => exact ⟨k + 1, by omega, by go_num, rfl, hidden (bl_trans HB.out (drew_blW _))⟩
        case measure => simp [intOf]; omega
    · obtain rfl : k = bs.length := by omega
      have lq : ¬ (bs.length : Int) < (bs.length : Int) := by omega
      rw [List.take_length]
      go_wp2_with fail
      refine bodyPost_ret (v := .string (sb (hx bs))) (by simp [results, Tryd.results7, go_sem]) rfl ⟨rfl, HB.out⟩
end Go.Proofs.YthkfjggogcmdmaaDoor.Tr
