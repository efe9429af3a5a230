import Derived.Test.YtkfkmndhbfeagaaGreatDoorPa
namespace Go.Proofs.YtkfkmndhbfeagaaGreatDoor
open Go.RowKit
set_option linter.unusedVariables false
theorem kp_cell {G : Nat} {w w' : World} {b o : Nat} {v : Value} (k : Tr.Kp G w w') (h : w.cell? ⟨b, o, none⟩ = some v) (hne : b ≠ G) : w'.cell? ⟨b, o, none⟩ = some v := by
  rw [← h]
  exact World.cell?_of_block (k.block b (World.block_lt_of_cell? w ⟨b, o, none⟩ h) hne)
theorem Tb.kp {G : Nat} {w w' : World} (h : Tb w) (k : Tr.Kp G w w') (hG : 5 ≠ G) : Tb w' := by
  obtain ⟨h0, h1, h2, h3, h4, h5, h6, h7, h8, h9, h10, h11⟩ := h
  exact ⟨kp_cell k h0 hG, kp_cell k h1 hG, kp_cell k h2 hG, kp_cell k h3 hG, kp_cell k h4 hG, kp_cell k h5 hG, kp_cell k h6 hG, kp_cell k h7 hG, kp_cell k h8 hG, kp_cell k h9 hG, kp_cell k h10 hG, kp_cell k h11 hG⟩
theorem Rl.kp {G : Nat} {w w' : World} {b o n : Nat} {g : Nat → E4} (h : Rl w b o n g) (k : Tr.Kp G w w') (hne : b ≠ G) : Rl w' b o n g :=
  ⟨fun j hj => kp_cell k (h.c0 j hj) hne, fun j hj => kp_cell k (h.c1 j hj) hne, fun j hj => kp_cell k (h.c2 j hj) hne, fun j hj => kp_cell k (h.c3 j hj) hne⟩
/-- a number's bytes -/
def eb (n : Int) : List UInt8 := (bytes (n % Sm.L)).map fun z => UInt8.ofNat z.toNat
theorem eb_len (n : Int) : (eb n).length = 32 := by simp [eb, bytes_len]
theorem eb_cb (n : Int) : Tr.cb (eb n) = (bytes (n % Sm.L)).map fun z => Value.int .u8 z := by
  unfold Tr.cb eb
  rw [List.map_map]
  refine List.map_congr_left fun z hz => ?_
  obtain ⟨h0, h1⟩ := bytes_bd _ z hz
  simp only [Function.comp]
  rw [UInt8.toNat_ofNat', show z.toNat % 2 ^ 8 = z.toNat by omega, Int.toNat_of_nonneg h0]
theorem eb_congr {m n : Int} (h : m % Sm.L = n % Sm.L) : eb m = eb n := by unfold eb; rw [h]
/-- bytes as numbers -/
def zi (l : List UInt8) : List Int := l.map fun b => (b.toNat : Int)
theorem zi_len (l : List UInt8) : (zi l).length = l.length := by simp [zi]
theorem zi_bd (l : List UInt8) : ∀ z ∈ zi l, 0 ≤ z ∧ z ≤ 255 := by
  intro z hz
  obtain ⟨b, _, rfl⟩ := List.mem_map.1 hz
  have := b.toNat_lt
  omega
theorem zi_cb (l : List UInt8) : ((zi l).map fun z => Value.int .u8 z) = Tr.cb l := by simp [zi, Tr.cb]
theorem zi_eb (n : Int) : zi (eb n) = bytes (n % Sm.L) := by
  unfold zi eb
  rw [List.map_map]
  refine (List.map_congr_left fun z hz => ?_).trans (List.map_id _)
  obtain ⟨h0, h1⟩ := bytes_bd _ z hz
  simp only [Function.comp, id]
  rw [UInt8.toNat_ofNat', show z.toNat % 2 ^ 8 = z.toNat by omega, Int.toNat_of_nonneg h0]
theorem zi_inj {a b : List UInt8} (h : zi a = zi b) : a = b := by
  have := congrArg (List.map fun z : Int => UInt8.ofNat z.toNat) h
  simpa [zi, Function.comp_def] using this
/-- the number of bytes -/
def dn (l : List UInt8) : Int := (num (zi l) : Int)
theorem dn_eb (n : Int) : dn (eb n) = n % Sm.L := by unfold dn; rw [zi_eb]; exact num_bytes_L n
theorem dn_ge (l : List UInt8) : 0 ≤ dn l := by unfold dn; omega
theorem eb_dn {l : List UInt8} (hl : l.length = 32) (h : dn l < Sm.L) : eb (dn l) = l := by
  apply zi_inj
  rw [zi_eb, Int.emod_eq_of_lt (dn_ge l) h]
  exact bytes_num (zi l) (by rw [zi_len, hl]) (zi_bd l)
/-- the bytes of several scalars -/
def ef (n : Nat) (g : Nat → E4) : List UInt8 := (List.range n).flatMap fun k => eb (g k).n
theorem ef_zero (g : Nat → E4) : ef 0 g = [] := rfl
theorem ef_succ (n : Nat) (g : Nat → E4) : ef (n + 1) g = ef n g ++ eb (g n).n := by simp [ef, List.range_succ]
theorem ef_len (n : Nat) (g : Nat → E4) : (ef n g).length = 32 * n := by
  induction n with
  | zero => rfl
  | succ n ih => rw [ef_succ, List.length_append, ih, eb_len]; omega
theorem by_range {w : World} {b c : Nat} {l : List UInt8} (h : w.rangeAt b 0 (Tr.cb l)) : Tr.By w (some ⟨b, 0, none⟩) c l :=
  ⟨fun h => (by cases h), fun a ha j u hu => by
    obtain rfl := Option.some.inj ha
    rw [Addr.add_mid]
    exact h j u hu⟩
theorem wpList_app_fits {w : World} {ops : Array Oper} {rest : List Oper} {o : Oper} {a : Act} {Q : Exit → Act → World → Prop} (hgd : o.guard = none) (s x : Operand)
    (ho : o.op = Op.call { callee := Callee.builtin Builtin.append, args := #[s, x], argTypes := #[29, 29] })
    (base g n cap : Nat) (xs bs : List UInt8) (ad : Addr) (m c : Nat) (hm : m = bs.length) (hs : a.eval s = .slice (some ⟨g, 0, none⟩) n cap) (hx : a.eval x = .slice (some ad) m c) (hown : w.ownsRow base 5 1 (.slice (some ⟨g, 0, none⟩) n cap) n (Tr.cb xs)) (hB : Tr.By w (some ad) c bs) (hroom : n + m ≤ cap)
    (h : ∀ w', w'.ownsRow base 5 1 (.slice (some ⟨g, 0, none⟩) (n + m) cap) (n + m) (Tr.cb (xs ++ bs)) → w.grownBy w' (some g) → wpList Tryz.prog ops Q rest (a.put o.dst (.slice (some ⟨g, 0, none⟩) (n + m) cap)) w') : wpList Tryz.prog ops Q (o :: rest) a w := by
  subst hm
  refine wpList_plain hgd fun K hK => ?_
  obtain ⟨w', hr, h2, h3⟩ := run_app_fits w base o.type g n cap xs bs ad c hown hB hroom
  unfold Oper.wp execOp
  simp only [ho, resolve, invoke, builtin, Sem.run_bind, Sem.run_pure, Result.andThen_ok, List.map_toArray, List.map_cons, List.map_nil, hs, hx, hr]
  exact hK _ _ (h w' h2 h3)
def z32 : List Value := List.replicate 32 (.int .u8 0)
theorem mt_EncodeL (a : E4) (w : World) : (method 275 52 (.agg #[.int .u64 a.x0, .int .u64 a.x1, .int .u64 a.x2, .int .u64 a.x3]) "Encode").run Tryz.prog w = .ok (118, .agg #[.int .u64 a.x0, .int .u64 a.x1, .int .u64 a.x2, .int .u64 a.x3]) w := by kernel_rfl
set_option maxRecDepth 100000 in
set_option maxHeartbeats 8000000 in
theorem appAllL (base G cap lb n lc : Nat) (bs : List UInt8) (g : Nat → E4) (w : World) (hT : Tb w) (hG : 5 ≠ G) (hne : lb ≠ G) (hn : n ≤ 64) (hok : ∀ k, k < n → (g k).ok) (hr : Rl w lb 0 n g) (hroom : bs.length + 32 * n ≤ cap) (hcap : cap ≤ 1048576)
    (ho : w.ownsRow base 5 1 (.slice (some ⟨G, 0, none⟩) bs.length cap) bs.length (Tr.cb bs)) :
    Calls Tryz.prog 26 #[.slice (some ⟨G, 0, none⟩) bs.length cap, .slice (some ⟨lb, 0, none⟩) n lc] w fun e w' => e = .returned (.slice (some ⟨G, 0, none⟩) (bs.length + 32 * n) cap) ∧ w'.ownsRow base 5 1 (.slice (some ⟨G, 0, none⟩) (bs.length + 32 * n) cap) (bs.length + 32 * n) (Tr.cb (bs ++ ef n g)) ∧ Tr.Kp G w w' := by
  have HT := hidden hT
  have HR := hidden hr
  have HO := hidden ho
  have HK := hidden hok
  have HN := hidden hn
  have HG := hidden hG
  have HE := hidden hne
  have HM := hidden hroom
  have HC := hidden hcap
  have UB : Hid (Tryz.prog.underlying 78 = _) := hidden b_und
  clear hT hr ho hok hG hne hroom hcap
  go_enter Tryz.func26, Tryz.ntmps26
  go_upto_region 2 with fail
  go_loopw [0, 10] (fun v kv w' => ∃ k : Nat, k ≤ n ∧ kv = .int .i64 (k : Int) ∧ v = .slice (some ⟨G, 0, none⟩) (bs.length + 32 * k) cap ∧ Hid (w'.ownsRow base 5 1 (.slice (some ⟨G, 0, none⟩) (bs.length + 32 * k) cap) (bs.length + 32 * k) (Tr.cb (bs ++ ef k g)) ∧ Tr.Kp G w w')) (fun _ k _ => n - (intOf k).toNat)
  case atStart => exact ⟨0, by omega, rfl, rfl, hidden ⟨by rw [ef_zero, List.append_nil]; exact HO.out, Tr.Kp.refl _ _⟩⟩
  case round =>
    obtain ⟨k, hk, rfl, rfl, KW⟩ := hrel
    by_cases hkn : k < n
    · have k0 : (0 : Int) ≤ (k : Int) := by omega
      have k1 : (k : Int) < (n : Int) := by omega
      have w9 : IntKind.i64.wrap ((k : Int) + 1) = (k : Int) + 1 := IntWalk.i64_in _ (by have := HN.out; omega)
      have RR := HR.out.kp KW.out.2 HE.out
      have x0 := RR.c0 k hkn; have x1 := RR.c1 k hkn; have x2 := RR.c2 k hkn; have x3 := RR.c3 k hkn
      simp only [Nat.zero_add] at x0 x1 x2 x3
      obtain ⟨a, ea⟩ : ∃ a, g k = a := ⟨_, rfl⟩
      rw [ea] at x0 x1 x2 x3
      have ha : a.ok := ea ▸ HK.out k hkn
      have RA : Hid (∀ x, Tb x → Calls Tryz.prog 118 #[.agg #[.int .u64 a.x0, .int .u64 a.x1, .int .u64 a.x2, .int .u64 a.x3]] x fun e w' => e = .returned (.agg (Tr.cb (eb a.n)).toArray) ∧ Below x.heap.size x w') := hidden (fun x T => by rw [eb_cb]; exact lEncode_any a ha x T)
      have m1 := mt_EncodeL a
      have TW := hidden (HT.out.kp KW.out.2 HG.out)
      have EA := hidden ea
      have OW := hidden KW.out.1
      have D1 : Hid ((Tryz.prog.info? 78).map (·.size) = some (Tr.cb (eb a.n)).toArray.size) := hidden (by rw [eb_cb]; exact b_i2 _)
      have D2 : Hid ((Tr.cb (eb a.n)).toArray.all (·.oneCell') = true) := hidden (by rw [eb_cb]; exact b_one _)
      have D3 : Hid ((Tr.cb (eb a.n)).length = 32) := hidden (by rw [Tr.cb_len, eb_len])
      have LB : Hid ((eb a.n).length = 32) := hidden (eb_len _)
      have SE : Hid (bs ++ ef (k + 1) g = (bs ++ ef k g) ++ eb a.n) := hidden (by rw [ef_succ, ea, List.append_assoc])
      have RM : Hid (bs.length + 32 * k + 32 ≤ cap) := hidden (by have := HM.out; omega)
      generalize eb a.n = l at RA D1 D2 D3 LB SE
      clear RR ha ea
      have B1 := hidden (bl_alloc wr (.cells #[.int .u64 a.x0, .int .u64 a.x1, .int .u64 a.x2, .int .u64 a.x3] 52))
      go_upto_region 5 with (first | (go_at_call 118; refine (RA.out _ (TW.out.keep B1.out)).mono ?_; rintro e wa ⟨rfl, hb⟩; have M2 := hidden ((Mw.start wa).new [.int .u8 0, .int .u8 0, .int .u8 0, .int .u8 0, .int .u8 0, .int .u8 0, .int .u8 0, .int .u8 0, .int .u8 0, .int .u8 0, .int .u8 0, .int .u8 0, .int .u8 0, .int .u8 0, .int .u8 0, .int .u8 0, .int .u8 0, .int .u8 0, .int .u8 0, .int .u8 0, .int .u8 0, .int .u8 0, .int .u8 0, .int .u8 0, .int .u8 0, .int .u8 0, .int .u8 0, .int .u8 0, .int .u8 0, .int .u8 0, .int .u8 0, .int .u8 0] 78); have TH := hidden (M2.out.ther (Tr.cb l) (c := wa.heap.size) (o := [.int .u8 0, .int .u8 0, .int .u8 0, .int .u8 0, .int .u8 0, .int .u8 0, .int .u8 0, .int .u8 0, .int .u8 0, .int .u8 0, .int .u8 0, .int .u8 0, .int .u8 0, .int .u8 0, .int .u8 0, .int .u8 0, .int .u8 0, .int .u8 0, .int .u8 0, .int .u8 0, .int .u8 0, .int .u8 0, .int .u8 0, .int .u8 0, .int .u8 0, .int .u8 0, .int .u8 0, .int .u8 0, .int .u8 0, .int .u8 0, .int .u8 0, .int .u8 0]) (by simp) (by rw [D3.out]; rfl)); have M3 := hidden (M2.out.set (M := []) (Tr.cb l) (c := wa.heap.size) (o := [.int .u8 0, .int .u8 0, .int .u8 0, .int .u8 0, .int .u8 0, .int .u8 0, .int .u8 0, .int .u8 0, .int .u8 0, .int .u8 0, .int .u8 0, .int .u8 0, .int .u8 0, .int .u8 0, .int .u8 0, .int .u8 0, .int .u8 0, .int .u8 0, .int .u8 0, .int .u8 0, .int .u8 0, .int .u8 0, .int .u8 0, .int .u8 0, .int .u8 0, .int .u8 0, .int .u8 0, .int .u8 0, .int .u8 0, .int .u8 0, .int .u8 0, .int .u8 0]) (by simp) (by rw [D3.out]; rfl) (by simp)); have B2 := hidden (bl_trans B1.out hb); clear hb RA x0 x1 x2 x3 B1 M2 m1) | refine wpList_store_mid rfl 78 _ _ rfl wa.heap.size 0 (Tr.cb l).toArray (by rfl) (by rfl) TH.out D1.out D2.out ?_)
      generalize hV : (wa.alloc (.cells ([.int .u8 0, .int .u8 0, .int .u8 0, .int .u8 0, .int .u8 0, .int .u8 0, .int .u8 0, .int .u8 0, .int .u8 0, .int .u8 0, .int .u8 0, .int .u8 0, .int .u8 0, .int .u8 0, .int .u8 0, .int .u8 0, .int .u8 0, .int .u8 0, .int .u8 0, .int .u8 0, .int .u8 0, .int .u8 0, .int .u8 0, .int .u8 0, .int .u8 0, .int .u8 0, .int .u8 0, .int .u8 0, .int .u8 0, .int .u8 0, .int .u8 0, .int .u8 0] : List Value).toArray 78)).setCells wa.heap.size 0 (Tr.cb l) = V at M3 ⊢
      clear hV TH
      have B3 := hidden (bl_trans B2.out M3.out.bel)
      have BY := hidden (by_range (c := 32) (M3.out.r (wa.heap.size, Tr.cb l) (by simp)).1)
      have O3 := hidden (Tr.own_stay OW.out B3.out)
      generalize wa.heap.size = N at BY ⊢
      clear M3 B2
      go_upto_region 6 with (first | (at_builtin; refine wpList_app_fits rfl _ _ rfl base G (bs.length + 32 * k) cap (bs ++ ef k g) l ⟨N, 0, none⟩ 32 32 LB.out.symm (by rfl) (by rfl) O3.out BY.out RM.out ?_; intro we oe ge; have OE := hidden oe; have GE := hidden ((KW.out.2.trans (Tr.Kp.of B3.out)).trans (Tr.Kp.grown ge)); clear oe ge))
      go_wp2_with fail
      go_roundw
      case rel => exact ⟨k + 1, by omega, by go_num, by congr 1, hidden ⟨by rw [SE.out, show bs.length + 32 * (k + 1) = bs.length + 32 * k + 32 by omega]; exact OE.out, GE.out⟩⟩
      case measure => simp [intOf]; omega
    · obtain rfl : k = n := by omega
      have lq : ¬ (k : Int) < (k : Int) := by omega
      go_wp2_with fail
      refine bodyPost_ret (v := .slice (some ⟨G, 0, none⟩) (bs.length + 32 * k) cap) (by simp [results, Tryz.results26, go_sem]) rfl ⟨rfl, KW.out.1, KW.out.2⟩
theorem mt_EncodeS (a : E4) (w : World) : (method 275 24 (.agg #[.int .u64 a.x0, .int .u64 a.x1, .int .u64 a.x2, .int .u64 a.x3]) "Encode").run Tryz.prog w = .ok (109, .agg #[.int .u64 a.x0, .int .u64 a.x1, .int .u64 a.x2, .int .u64 a.x3]) w := by kernel_rfl
set_option maxRecDepth 100000 in
set_option maxHeartbeats 8000000 in
theorem appAllS (base G cap lb n lc : Nat) (bs : List UInt8) (g : Nat → E4) (w : World) (hT : Tb w) (hG : 5 ≠ G) (hne : lb ≠ G) (hn : n ≤ 64) (hok : ∀ k, k < n → (g k).ok) (hr : Rl w lb 0 n g) (hroom : bs.length + 32 * n ≤ cap) (hcap : cap ≤ 1048576)
    (ho : w.ownsRow base 5 1 (.slice (some ⟨G, 0, none⟩) bs.length cap) bs.length (Tr.cb bs)) :
    Calls Tryz.prog 27 #[.slice (some ⟨G, 0, none⟩) bs.length cap, .slice (some ⟨lb, 0, none⟩) n lc] w fun e w' => e = .returned (.slice (some ⟨G, 0, none⟩) (bs.length + 32 * n) cap) ∧ w'.ownsRow base 5 1 (.slice (some ⟨G, 0, none⟩) (bs.length + 32 * n) cap) (bs.length + 32 * n) (Tr.cb (bs ++ ef n g)) ∧ Tr.Kp G w w' := by
  have HT := hidden hT
  have HR := hidden hr
  have HO := hidden ho
  have HK := hidden hok
  have HN := hidden hn
  have HG := hidden hG
  have HE := hidden hne
  have HM := hidden hroom
  have HC := hidden hcap
  have UB : Hid (Tryz.prog.underlying 78 = _) := hidden b_und
  clear hT hr ho hok hG hne hroom hcap
  go_enter Tryz.func27, Tryz.ntmps27
  go_upto_region 2 with fail
  go_loopw [0, 10] (fun v kv w' => ∃ k : Nat, k ≤ n ∧ kv = .int .i64 (k : Int) ∧ v = .slice (some ⟨G, 0, none⟩) (bs.length + 32 * k) cap ∧ Hid (w'.ownsRow base 5 1 (.slice (some ⟨G, 0, none⟩) (bs.length + 32 * k) cap) (bs.length + 32 * k) (Tr.cb (bs ++ ef k g)) ∧ Tr.Kp G w w')) (fun _ k _ => n - (intOf k).toNat)
  case atStart => exact ⟨0, by omega, rfl, rfl, hidden ⟨by rw [ef_zero, List.append_nil]; exact HO.out, Tr.Kp.refl _ _⟩⟩
  case round =>
    obtain ⟨k, hk, rfl, rfl, KW⟩ := hrel
    by_cases hkn : k < n
    · have k0 : (0 : Int) ≤ (k : Int) := by omega
      have k1 : (k : Int) < (n : Int) := by omega
      have w9 : IntKind.i64.wrap ((k : Int) + 1) = (k : Int) + 1 := IntWalk.i64_in _ (by have := HN.out; omega)
      have RR := HR.out.kp KW.out.2 HE.out
      have x0 := RR.c0 k hkn; have x1 := RR.c1 k hkn; have x2 := RR.c2 k hkn; have x3 := RR.c3 k hkn
      simp only [Nat.zero_add] at x0 x1 x2 x3
      obtain ⟨a, ea⟩ : ∃ a, g k = a := ⟨_, rfl⟩
      rw [ea] at x0 x1 x2 x3
      have ha : a.ok := ea ▸ HK.out k hkn
      have RA : Hid (∀ x, Tb x → Calls Tryz.prog 109 #[.agg #[.int .u64 a.x0, .int .u64 a.x1, .int .u64 a.x2, .int .u64 a.x3]] x fun e w' => e = .returned (.agg (Tr.cb (eb a.n)).toArray) ∧ Below x.heap.size x w') := hidden (fun x T => by rw [eb_cb]; exact Encode_any a x T ha)
      have m1 := mt_EncodeS a
      have TW := hidden (HT.out.kp KW.out.2 HG.out)
      have EA := hidden ea
      have OW := hidden KW.out.1
      have D1 : Hid ((Tryz.prog.info? 78).map (·.size) = some (Tr.cb (eb a.n)).toArray.size) := hidden (by rw [eb_cb]; exact b_i2 _)
      have D2 : Hid ((Tr.cb (eb a.n)).toArray.all (·.oneCell') = true) := hidden (by rw [eb_cb]; exact b_one _)
      have D3 : Hid ((Tr.cb (eb a.n)).length = 32) := hidden (by rw [Tr.cb_len, eb_len])
      have LB : Hid ((eb a.n).length = 32) := hidden (eb_len _)
      have SE : Hid (bs ++ ef (k + 1) g = (bs ++ ef k g) ++ eb a.n) := hidden (by rw [ef_succ, ea, List.append_assoc])
      have RM : Hid (bs.length + 32 * k + 32 ≤ cap) := hidden (by have := HM.out; omega)
      generalize eb a.n = l at RA D1 D2 D3 LB SE
      clear RR ha ea
      have B1 := hidden (bl_alloc wr (.cells #[.int .u64 a.x0, .int .u64 a.x1, .int .u64 a.x2, .int .u64 a.x3] 24))
      go_upto_region 5 with (first | (go_at_call 109; refine (RA.out _ (TW.out.keep B1.out)).mono ?_; rintro e wa ⟨rfl, hb⟩; have M2 := hidden ((Mw.start wa).new [.int .u8 0, .int .u8 0, .int .u8 0, .int .u8 0, .int .u8 0, .int .u8 0, .int .u8 0, .int .u8 0, .int .u8 0, .int .u8 0, .int .u8 0, .int .u8 0, .int .u8 0, .int .u8 0, .int .u8 0, .int .u8 0, .int .u8 0, .int .u8 0, .int .u8 0, .int .u8 0, .int .u8 0, .int .u8 0, .int .u8 0, .int .u8 0, .int .u8 0, .int .u8 0, .int .u8 0, .int .u8 0, .int .u8 0, .int .u8 0, .int .u8 0, .int .u8 0] 78); have TH := hidden (M2.out.ther (Tr.cb l) (c := wa.heap.size) (o := [.int .u8 0, .int .u8 0, .int .u8 0, .int .u8 0, .int .u8 0, .int .u8 0, .int .u8 0, .int .u8 0, .int .u8 0, .int .u8 0, .int .u8 0, .int .u8 0, .int .u8 0, .int .u8 0, .int .u8 0, .int .u8 0, .int .u8 0, .int .u8 0, .int .u8 0, .int .u8 0, .int .u8 0, .int .u8 0, .int .u8 0, .int .u8 0, .int .u8 0, .int .u8 0, .int .u8 0, .int .u8 0, .int .u8 0, .int .u8 0, .int .u8 0, .int .u8 0]) (by simp) (by rw [D3.out]; rfl)); have M3 := hidden (M2.out.set (M := []) (Tr.cb l) (c := wa.heap.size) (o := [.int .u8 0, .int .u8 0, .int .u8 0, .int .u8 0, .int .u8 0, .int .u8 0, .int .u8 0, .int .u8 0, .int .u8 0, .int .u8 0, .int .u8 0, .int .u8 0, .int .u8 0, .int .u8 0, .int .u8 0, .int .u8 0, .int .u8 0, .int .u8 0, .int .u8 0, .int .u8 0, .int .u8 0, .int .u8 0, .int .u8 0, .int .u8 0, .int .u8 0, .int .u8 0, .int .u8 0, .int .u8 0, .int .u8 0, .int .u8 0, .int .u8 0, .int .u8 0]) (by simp) (by rw [D3.out]; rfl) (by simp)); have B2 := hidden (bl_trans B1.out hb); clear hb RA x0 x1 x2 x3 B1 M2 m1) | refine wpList_store_mid rfl 78 _ _ rfl wa.heap.size 0 (Tr.cb l).toArray (by rfl) (by rfl) TH.out D1.out D2.out ?_)
      generalize hV : (wa.alloc (.cells ([.int .u8 0, .int .u8 0, .int .u8 0, .int .u8 0, .int .u8 0, .int .u8 0, .int .u8 0, .int .u8 0, .int .u8 0, .int .u8 0, .int .u8 0, .int .u8 0, .int .u8 0, .int .u8 0, .int .u8 0, .int .u8 0, .int .u8 0, .int .u8 0, .int .u8 0, .int .u8 0, .int .u8 0, .int .u8 0, .int .u8 0, .int .u8 0, .int .u8 0, .int .u8 0, .int .u8 0, .int .u8 0, .int .u8 0, .int .u8 0, .int .u8 0, .int .u8 0] : List Value).toArray 78)).setCells wa.heap.size 0 (Tr.cb l) = V at M3 ⊢
      clear hV TH
      have B3 := hidden (bl_trans B2.out M3.out.bel)
      have BY := hidden (by_range (c := 32) (M3.out.r (wa.heap.size, Tr.cb l) (by simp)).1)
      have O3 := hidden (Tr.own_stay OW.out B3.out)
      generalize wa.heap.size = N at BY ⊢
      clear M3 B2
      go_upto_region 6 with (first | (at_builtin; refine wpList_app_fits rfl _ _ rfl base G (bs.length + 32 * k) cap (bs ++ ef k g) l ⟨N, 0, none⟩ 32 32 LB.out.symm (by rfl) (by rfl) O3.out BY.out RM.out ?_; intro we oe ge; have OE := hidden oe; have GE := hidden ((KW.out.2.trans (Tr.Kp.of B3.out)).trans (Tr.Kp.grown ge)); clear oe ge))
      go_wp2_with fail
      go_roundw
      case rel => exact ⟨k + 1, by omega, by go_num, by congr 1, hidden ⟨by rw [SE.out, show bs.length + 32 * (k + 1) = bs.length + 32 * k + 32 by omega]; exact OE.out, GE.out⟩⟩
      case measure => simp [intOf]; omega
    · obtain rfl : k = n := by omega
      have lq : ¬ (k : Int) < (k : Int) := by omega
      go_wp2_with fail
      refine bodyPost_ret (v := .slice (some ⟨G, 0, none⟩) (bs.length + 32 * k) cap) (by simp [results, Tryz.results27, go_sem]) rfl ⟨rfl, KW.out.1, KW.out.2⟩
end Go.Proofs.YtkfkmndhbfeagaaGreatDoor
