import Derived.Test.YtkfkmndhbfeagaaGreatDoorPG
import Derived.Test.YtkfkmndhbfeagaaGreatDoorSWG
import Derived.Deep.RegionLaw
namespace Go.Proofs.YtkfkmndhbfeagaaGreatDoor
open Go.RowKit
set_option linter.unusedVariables false
theorem wpList_buildC {P : Program} {ops : Array Oper} {rest : List Oper} {o : Oper} {a : Act} {w : World} {Q : Exit → Act → World → Prop} (hg : o.guard = none) (t : TypeId) (parts : Array (Nat × Operand)) (ho : o.op = .build t parts) (c : Array Value)
    (hb : P.built t (parts.map fun (i, x) => (i, a.eval x)).toList = some c) (h : wpList P ops Q rest (a.put o.dst (.agg c)) w) : wpList P ops Q (o :: rest) a w :=
  wpList_build hg t parts ho (by rw [hb]; rfl) (by rw [hb]; exact h)
/-- the cells of the document's element of a scalar -/
def el (k : E4) : List Value := [.int .i64 2, .int .i64 0, .int .i64 0, .int .i64 0, .int .i64 0, .int .i64 0, .int .i64 0, .int .i64 0, .int .i64 0, .int .i64 0, .int .i64 0, .int .i64 0, .int .i64 0, .int .i64 0, .int .i64 0, .int .i64 0, .int .i64 0, .int .i64 0, .int .i64 0, .int .i64 0, .int .i64 0, .int .u64 k.x0, .int .u64 k.x1, .int .u64 k.x2, .int .u64 k.x3, .slice none 0 0]
theorem el_len (k : E4) : (el k).length = 26 := rfl
theorem el_one (k : E4) : (el k).toArray.all (·.oneCell') = true := by simp [el, Value.oneCell']
theorem einfo : (Tryz.prog.info? 41).map (·.size) = some 26 := by kernel_rfl
theorem el_i (k : E4) : (Tryz.prog.info? 41).map (·.size) = some (el k).length := einfo
theorem el_i2 (k : E4) : (Tryz.prog.info? 41).map (·.size) = some (el k).toArray.size := einfo
theorem el_0 (k : E4) : (el k)[0]? = some (.int .i64 2) := rfl
theorem el_21 (k : E4) : (el k)[21]? = some (.int .u64 k.x0) := rfl
theorem el_22 (k : E4) : (el k)[22]? = some (.int .u64 k.x1) := rfl
theorem el_23 (k : E4) : (el k)[23]? = some (.int .u64 k.x2) := rfl
theorem el_24 (k : E4) : (el k)[24]? = some (.int .u64 k.x3) := rfl
set_option maxRecDepth 100000 in
set_option maxHeartbeats 4000000 in
theorem lineOf_any (k : E4) (w : World) :
    Calls Tryz.prog 21 #[k.v] w fun e w' => e = .returned (.agg (el k).toArray) ∧ Below w.heap.size w w' := by
  have M0 := ((Mw.start w).new [.int .u64 k.x0, .int .u64 k.x1, .int .u64 k.x2, .int .u64 k.x3] 38).new [.int .i64 0, .int .i64 0, .int .i64 0, .int .i64 0, .int .i64 0, .int .i64 0, .int .i64 0, .int .i64 0, .int .i64 0, .int .i64 0, .int .i64 0, .int .i64 0, .int .i64 0, .int .i64 0, .int .i64 0, .int .i64 0, .int .i64 0, .int .i64 0, .int .i64 0, .int .i64 0, .int .i64 0, .int .u64 0, .int .u64 0, .int .u64 0, .int .u64 0, .slice none 0 0] 41
  simp only [World.size_alloc] at M0
  have TH := hidden (M0.ther (el k) (c := w.heap.size + 1) (o := [.int .i64 0, .int .i64 0, .int .i64 0, .int .i64 0, .int .i64 0, .int .i64 0, .int .i64 0, .int .i64 0, .int .i64 0, .int .i64 0, .int .i64 0, .int .i64 0, .int .i64 0, .int .i64 0, .int .i64 0, .int .i64 0, .int .i64 0, .int .i64 0, .int .i64 0, .int .i64 0, .int .i64 0, .int .u64 0, .int .u64 0, .int .u64 0, .int .u64 0, .slice none 0 0]) (by simp) rfl)
  have M1 := M0.set (M := []) (el k) (c := w.heap.size + 1) (o := [.int .i64 0, .int .i64 0, .int .i64 0, .int .i64 0, .int .i64 0, .int .i64 0, .int .i64 0, .int .i64 0, .int .i64 0, .int .i64 0, .int .i64 0, .int .i64 0, .int .i64 0, .int .i64 0, .int .i64 0, .int .i64 0, .int .i64 0, .int .i64 0, .int .i64 0, .int .i64 0, .int .i64 0, .int .u64 0, .int .u64 0, .int .u64 0, .int .u64 0, .slice none 0 0]) (by simp) rfl (fun p hp => by cases hp)
  have LD := hidden (M1.var (c := w.heap.size + 1) (ds := el k) (by simp) Tryz.underlying41 rfl (el_i k))
  have BL := hidden M1.bel
  have I2 := hidden (el_i2 k)
  have O2 := hidden (el_one k)
  unfold E4.v
  clear M0 M1
  go_enter Tryz.func21, Tryz.ntmps21
  go_wp2_with (first | refine wpList_buildC rfl 41 _ rfl (el k).toArray (by kernel_rfl) ?_ | refine wpList_store_mid rfl 41 _ _ rfl (w.heap.size + 1) 0 (el k).toArray (by rfl) (by rfl) TH.out I2.out O2.out ?_)
  refine bodyPost_ret (v := .agg (el k).toArray) (results_cellM Tryz.results21 _ _ _ _ _ (by rfl) LD.out) rfl ⟨rfl, BL.out⟩


set_option maxRecDepth 100000 in
set_option maxHeartbeats 4000000 in
theorem eEncode_any (n : Int) (w : World) :
    Calls Tryz.prog 23 #[.agg (el (lst n)).toArray] w fun e w' => e = .returned (.agg ((bytes (n % Sm.L)).map fun z => Value.int .u8 z).toArray) ∧ Below w.heap.size w w' := by
  have RA := hidden (fun w => rEncode_any n w)
  have D1 := b_i (n % Sm.L)
  have D2 := b_one (n % Sm.L)
  have D3 := by_len (n % Sm.L)
  generalize ((bytes (n % Sm.L)).map fun z => Value.int .u8 z) = ds at *
  generalize lst n = x at *
  unfold E4.v at RA
  obtain ⟨lx, hex⟩ : ∃ l, el x = l := ⟨_, rfl⟩
  have h0x : lx[0]? = some (.int .i64 2) := by rw [← hex]; exact el_0 _
  have h21x : lx[21]? = some (.int .u64 x.x0) := by rw [← hex]; exact el_21 _
  have h22x : lx[22]? = some (.int .u64 x.x1) := by rw [← hex]; exact el_22 _
  have h23x : lx[23]? = some (.int .u64 x.x2) := by rw [← hex]; exact el_23 _
  have h24x : lx[24]? = some (.int .u64 x.x3) := by rw [← hex]; exact el_24 _
  rw [hex]
  clear hex
  have M0 := ((Mw.start w).new lx 41).new [.int .u8 0, .int .u8 0, .int .u8 0, .int .u8 0, .int .u8 0, .int .u8 0, .int .u8 0, .int .u8 0, .int .u8 0, .int .u8 0, .int .u8 0, .int .u8 0, .int .u8 0, .int .u8 0, .int .u8 0, .int .u8 0, .int .u8 0, .int .u8 0, .int .u8 0, .int .u8 0, .int .u8 0, .int .u8 0, .int .u8 0, .int .u8 0, .int .u8 0, .int .u8 0, .int .u8 0, .int .u8 0, .int .u8 0, .int .u8 0, .int .u8 0, .int .u8 0] 78
  simp only [World.size_alloc] at M0
  have MM := hidden M0
  have I1 := hidden (D1)
  have O2 := hidden (D2)
  clear M0
  go_enter Tryz.func23, Tryz.ntmps23
  go_wp2_with (first | (go_at_call 24; refine (RA.out _).mono ?_; rintro e wa ⟨rfl, ha⟩; replace MM := hidden (MM.out.keep ha); clear ha; have TH := hidden (MM.out.ther ds (c := w.heap.size + 1) (o := [.int .u8 0, .int .u8 0, .int .u8 0, .int .u8 0, .int .u8 0, .int .u8 0, .int .u8 0, .int .u8 0, .int .u8 0, .int .u8 0, .int .u8 0, .int .u8 0, .int .u8 0, .int .u8 0, .int .u8 0, .int .u8 0, .int .u8 0, .int .u8 0, .int .u8 0, .int .u8 0, .int .u8 0, .int .u8 0, .int .u8 0, .int .u8 0, .int .u8 0, .int .u8 0, .int .u8 0, .int .u8 0, .int .u8 0, .int .u8 0, .int .u8 0, .int .u8 0]) (by simp) D3); have M1 := MM.out.set (M := []) ds (c := w.heap.size + 1) (o := [.int .u8 0, .int .u8 0, .int .u8 0, .int .u8 0, .int .u8 0, .int .u8 0, .int .u8 0, .int .u8 0, .int .u8 0, .int .u8 0, .int .u8 0, .int .u8 0, .int .u8 0, .int .u8 0, .int .u8 0, .int .u8 0, .int .u8 0, .int .u8 0, .int .u8 0, .int .u8 0, .int .u8 0, .int .u8 0, .int .u8 0, .int .u8 0, .int .u8 0, .int .u8 0, .int .u8 0, .int .u8 0, .int .u8 0, .int .u8 0, .int .u8 0, .int .u8 0]) (by simp) D3 (fun p hp => by cases hp); have LD := hidden (M1.var (c := w.heap.size + 1) (ds := ds) (by simp) b_und rfl I1.out); have BL := hidden M1.bel; clear M1) | refine wpList_store_mid rfl 78 _ _ rfl (w.heap.size + 1) 0 ds.toArray (by rfl) (by rfl) TH.out (by simpa using I1.out) O2.out ?_)
  refine bodyPost_ret (v := .agg ds.toArray) (results_cellM Tryz.results23 _ _ _ _ _ (by rfl) LD.out) rfl ⟨rfl, BL.out⟩
end Go.Proofs.YtkfkmndhbfeagaaGreatDoor
namespace Go.Proofs.YtkfkmndhbfeagaaGreatDoor
open Go.RowKit
set_option linter.unusedVariables false
/-- the document's proof in a block: its things are the least of g's; the list of its rounds' elements -/
structure Dp (w : World) (T k : Nat) (g : Nat → E4) (Pl : Option Addr) (cl : Nat) : Prop where
  four : ∀ i, i < 4 → w.rangeAt T (i * 26) (el (lst (g i).n))
  three : ∀ i, i < 3 → w.rangeAt T (104 + i * 4) [.int .u64 (lst (g (4 + i)).n).x0, .int .u64 (lst (g (4 + i)).n).x1, .int .u64 (lst (g (4 + i)).n).x2, .int .u64 (lst (g (4 + i)).n).x3]
  lr : w.cell? ⟨T, 116, none⟩ = some (.slice Pl (2 * k) cl)
  two : ∀ i, i < 2 → w.rangeAt T (117 + i * 4) [.int .u64 (lst (g (7 + 2 * k + i)).n).x0, .int .u64 (lst (g (7 + 2 * k + i)).n).x1, .int .u64 (lst (g (7 + 2 * k + i)).n).x2, .int .u64 (lst (g (7 + 2 * k + i)).n).x3]
  row : 0 < k → ∃ b : Nat, Pl = some ⟨b, 0, none⟩ ∧ ∀ i, i < 2 * k → w.rangeAt b (i * 26) (el (lst (g (7 + i)).n))
theorem range_keepQ {w w' : World} {b o : Nat} {cs : List Value} (h : w.rangeAt b o cs) (hb : Below w.heap.size w w') : w'.rangeAt b o cs := fun j u hu => cell_keep (h j u hu) hb
theorem Dp.keep {w w' : World} {T k : Nat} {g : Nat → E4} {Pl : Option Addr} {cl : Nat} (h : Dp w T k g Pl cl) (hb : Below w.heap.size w w') : Dp w' T k g Pl cl :=
  ⟨fun i hi => range_keepQ (h.four i hi) hb, fun i hi => range_keepQ (h.three i hi) hb, cell_keep h.lr hb, fun i hi => range_keepQ (h.two i hi) hb, fun hk => by
    obtain ⟨b, e, r⟩ := h.row hk
    exact ⟨b, e, fun i hi => range_keepQ (r i hi) hb⟩⟩
theorem own_keepQ {w1 w2 : World} {base s : Nat} {e : TypeId} {v : Value} {n : Nat} {xs : List Value} (h : w1.ownsRow base e s v n xs) (hb : Below w1.heap.size w1 w2) : w2.ownsRow base e s v n xs :=
  h.kept (row := none) ⟨hb.os, hb.tape, hb.output, hb.size, fun k hk _ => hb.block k hk⟩ (by cases v.ownBlock <;> simp)
theorem below_transQ {n : Nat} {w1 w2 w3 : World} (h1 : Below n w1 w2) (h2 : Below n w2 w3) : Below n w1 w3 := ⟨h2.os.trans h1.os, h2.tape.trans h1.tape, h2.output.trans h1.output, Nat.le_trans h1.size h2.size, fun k hk => (h2.block k hk).trans (h1.block k hk)⟩
theorem cb_one (l : List UInt8) : ∀ u ∈ Tr.cb l, u.oneCell' = true := by
  intro u hu
  obtain ⟨b, _, rfl⟩ := List.mem_map.1 hu
  rfl
theorem uinfo8 : (Tryz.prog.info? 5).map (fun i => (i.zero, i.size, i.bytes)) = some (some (.int .u8 0), 1, 1) := by kernel_rfl
theorem info8 : ∃ i, Tryz.prog.info? 5 = some i ∧ i.zero = some (.int .u8 0) ∧ i.size = 1 ∧ i.bytes = 1 := by
  have h := uinfo8
  cases hi : Tryz.prog.info? 5 with
  | none => rw [hi] at h; cases h
  | some i =>
    rw [hi] at h
    simp only [Option.map_some, Option.some.injEq, Prod.mk.injEq] at h
    exact ⟨i, rfl, h.1, h.2.1, h.2.2⟩
theorem e_und : Tryz.prog.underlying 41 = Tryz.prog.underlying 41 := rfl
theorem s_i (a : E4) : (Tryz.prog.info? 38).map (·.size) = some [Value.int .u64 a.x0, .int .u64 a.x1, .int .u64 a.x2, .int .u64 a.x3].length := by kernel_rfl

theorem below_growQ {B : Nat} {w w' : World} {row : Option Nat} (hg : w.grownBy w' row) (hB : B ≤ w.heap.size) (hr : ∀ k, row = some k → B ≤ k) : Below B w w' := (Below.refl _ _).grown hg hB hr
theorem own_lessQ {w : World} {B C s n : Nat} {e : TypeId} {v : Value} {xs : List Value} (h : w.ownsRow B e s v n xs) (hc : C ≤ B) : w.ownsRow C e s v n xs := by
  refine ⟨h.1, ?_⟩
  rcases h.2 with h0 | ⟨g, cap, cur, h1, hB, h3⟩
  · exact .inl h0
  · exact .inr ⟨g, cap, cur, h1, Nat.le_trans hc hB, h3⟩
theorem bl_trans2Q {B : Nat} {w1 w2 w3 : World} (h1 : Below B w1 w2) (h2 : Below w2.heap.size w2 w3) (hB : B ≤ w1.heap.size := by exact Nat.le_refl _) : Below B w1 w3 := below_transQ h1 ⟨h2.os, h2.tape, h2.output, h2.size, fun k hk => h2.block k (Nat.lt_of_lt_of_le (Nat.lt_of_lt_of_le hk hB) h1.size)⟩
set_option maxRecDepth 100000 in
set_option maxHeartbeats 16000000 in
theorem rEncodeProof_any (p : List Value) (m : Nat) (g : Nat → E4) (Pl : Option Addr) (cl : Nat) (w : World) (hm : m ≤ 1048576) (hp : Dp (w.alloc (.cells p.toArray 47)) w.heap.size m g Pl cl) :
    Calls Tryz.prog 5 #[.agg p.toArray] w fun e w' => ∃ G c : Nat, e = .returned (.slice (some ⟨G, 0, none⟩) (32 * (9 + 2 * m)) c) ∧ w'.ownsRow w.heap.size 5 1 (.slice (some ⟨G, 0, none⟩) (32 * (9 + 2 * m)) c) (32 * (9 + 2 * m)) (Tr.cb (ef (9 + 2 * m) g)) ∧ Below w.heap.size w w' := by
  obtain ⟨i0, hi, hz0, hz1, hz2⟩ := info8
  have HI := hidden hi
  have HZ0 := hidden hz0
  have HZ1 := hidden hz1
  have HZ2 := hidden hz2
  have HU : Hid (Tryz.prog.underlying 29 = some (.slice 5)) := hidden (by kernel_rfl)
  have HM := hidden hm
  have DP := hidden hp
  have BW := hidden (bl_alloc w (.cells p.toArray 47))
  clear hi hz0 hz1 hz2 hm hp
  go_enter Tryz.func5, Tryz.ntmps5
  go_upto_region 2 with fail
  generalize w.alloc (.cells p.toArray 47) = w1 at *
  generalize w.heap.size = T at DP ⊢
  go_wp2_with fail

  go_loopw [3, 4] (fun v kv w' => ∃ k : Nat, k ≤ 4 ∧ kv = .int .i64 (k : Int) ∧ Hid (w'.ownsRow w1.heap.size 5 1 v (32 * (0 + k)) (Tr.cb (ef (0 + k) g))) ∧ Hid (Below w1.heap.size w1 w')) (fun _ k _ => 4 - (intOf k).toNat)
  case atStart => exact ⟨0, by omega, rfl, hidden (by rw [ef_zero]; exact World.ownsRow_nil _ _ _ _), hidden (Below.refl _ _)⟩
  case round =>
    skip
    obtain ⟨k, hk, rfl, hO, hB⟩ := hrel
    by_cases hkn : k < 4
    · have k0 : (0 : Int) ≤ (k : Int) := by omega
      have k1 : (k : Int) < 4 := by omega
      have w9 : IntKind.i64.wrap ((k : Int) + 1) = (k : Int) + 1 := IntWalk.i64_in _ (by have := HM.out; omega)
      have dp := DP.out.keep hB.out
      have ra := dp.four k hkn
      skip
      obtain ⟨gx, hgx⟩ : ∃ x, g k = x := ⟨_, rfl⟩
      rw [hgx] at ra
      have RA : Hid (∀ x, Calls Tryz.prog 23 #[.agg (el (lst gx.n)).toArray] x fun e w' => e = .returned (.agg (Tr.cb (eb gx.n)).toArray) ∧ Below x.heap.size x w') := hidden (fun x => by rw [eb_cb]; exact eEncode_any gx.n x)
      have SE : Hid (ef (0 + (k + 1)) g = ef (0 + k) g ++ eb gx.n) := hidden (by rw [show 0 + (k + 1) = 0 + k + 1 by omega, ef_succ, show g (0 + k) = gx by rw [Nat.zero_add]; exact hgx])
      have D1 : Hid ((Tryz.prog.info? 78).map (·.size) = some (Tr.cb (eb gx.n)).toArray.size) := hidden (by rw [eb_cb]; exact b_i2 _)
      have D2 : Hid ((Tr.cb (eb gx.n)).toArray.all (·.oneCell') = true) := hidden (by rw [eb_cb]; exact b_one _)
      have D3 : Hid ((Tr.cb (eb gx.n)).length = 32) := hidden (by rw [Tr.cb_len, eb_len])
      have LB : Hid ((eb gx.n).length = 32) := hidden (eb_len _)
      have ON := hidden (cb_one (eb gx.n))
      have IE := hidden (el_i (lst gx.n))
      generalize el (lst gx.n) = le at ra RA IE
      have UE : Hid (Tryz.prog.underlying 41 = _) := hidden Tryz.underlying41
      generalize eb gx.n = l at RA D1 D2 D3 LB SE ON
      have HRA := hidden ra
      have BN := hidden (show 32 * (0 + k) + 32 ≤ 134217728 by have := HM.out; omega)
      clear ra dp hgx gx
      go_upto_region 6 with (first | (refine wpList_load_mid rfl 41 _ rfl T (k * 26) (by rfl) le _ HRA.out UE.out rfl IE.out ?_) | (go_at_call 23; refine (RA.out _).mono ?_; rintro e wa ⟨rfl, hb⟩; have M2 := hidden ((Mw.start wa).new [.int .u8 0, .int .u8 0, .int .u8 0, .int .u8 0, .int .u8 0, .int .u8 0, .int .u8 0, .int .u8 0, .int .u8 0, .int .u8 0, .int .u8 0, .int .u8 0, .int .u8 0, .int .u8 0, .int .u8 0, .int .u8 0, .int .u8 0, .int .u8 0, .int .u8 0, .int .u8 0, .int .u8 0, .int .u8 0, .int .u8 0, .int .u8 0, .int .u8 0, .int .u8 0, .int .u8 0, .int .u8 0, .int .u8 0, .int .u8 0, .int .u8 0, .int .u8 0] 78); have TH := hidden (M2.out.ther (Tr.cb l) (c := wa.heap.size) (o := [.int .u8 0, .int .u8 0, .int .u8 0, .int .u8 0, .int .u8 0, .int .u8 0, .int .u8 0, .int .u8 0, .int .u8 0, .int .u8 0, .int .u8 0, .int .u8 0, .int .u8 0, .int .u8 0, .int .u8 0, .int .u8 0, .int .u8 0, .int .u8 0, .int .u8 0, .int .u8 0, .int .u8 0, .int .u8 0, .int .u8 0, .int .u8 0, .int .u8 0, .int .u8 0, .int .u8 0, .int .u8 0, .int .u8 0, .int .u8 0, .int .u8 0, .int .u8 0]) (by simp) (by rw [D3.out]; rfl)); have M3 := hidden (M2.out.set (M := []) (Tr.cb l) (c := wa.heap.size) (o := [.int .u8 0, .int .u8 0, .int .u8 0, .int .u8 0, .int .u8 0, .int .u8 0, .int .u8 0, .int .u8 0, .int .u8 0, .int .u8 0, .int .u8 0, .int .u8 0, .int .u8 0, .int .u8 0, .int .u8 0, .int .u8 0, .int .u8 0, .int .u8 0, .int .u8 0, .int .u8 0, .int .u8 0, .int .u8 0, .int .u8 0, .int .u8 0, .int .u8 0, .int .u8 0, .int .u8 0, .int .u8 0, .int .u8 0, .int .u8 0, .int .u8 0, .int .u8 0]) (by simp) (by rw [D3.out]; rfl) (by simp)); have B2 := hidden hb; clear hb RA M2) | refine wpList_store_mid rfl 78 _ _ rfl wa.heap.size 0 (Tr.cb l).toArray (by rfl) (by rfl) TH.out D1.out D2.out ?_)
      generalize hV : (wa.alloc (.cells ([.int .u8 0, .int .u8 0, .int .u8 0, .int .u8 0, .int .u8 0, .int .u8 0, .int .u8 0, .int .u8 0, .int .u8 0, .int .u8 0, .int .u8 0, .int .u8 0, .int .u8 0, .int .u8 0, .int .u8 0, .int .u8 0, .int .u8 0, .int .u8 0, .int .u8 0, .int .u8 0, .int .u8 0, .int .u8 0, .int .u8 0, .int .u8 0, .int .u8 0, .int .u8 0, .int .u8 0, .int .u8 0, .int .u8 0, .int .u8 0, .int .u8 0, .int .u8 0] : List Value).toArray 78)).setCells wa.heap.size 0 (Tr.cb l) = V at M3 ⊢
      clear hV TH HRA UE IE D1 D2
      have B3 := hidden (bl_trans B2.out M3.out.bel)
      have RN := (M3.out.r (wa.heap.size, Tr.cb l) (by simp)).1
      have NW : Hid (∀ j u, (Tr.cb l)[j]? = some u → V.cell? ((⟨wa.heap.size, 0, none⟩ : Addr).add j) = some u) := hidden (fun j u hu => by
        rw [Addr.add_mid]
        exact RN j u hu)
      have O3 := hidden (own_keepQ hO.out B3.out)
      have BS3 := hidden (Nat.le_trans hB.out.size B3.out.size)
      have BB := hidden (bl_trans2Q hB.out B3.out)
      generalize wa.heap.size = NN at NW ⊢
      clear M3 B2 B3 RN hO hB
      skip
      go_upto_region 4 with (first | (at_builtin; refine wpList_append_own_at _ rfl _ _ 29 rfl w1.heap.size 5 i0 (.int .u8 0) 1 1 HU.out HI.out HZ0.out HZ1.out HZ2.out rfl (by decide) _ (32 * (0 + k)) _ rfl O3.out ⟨NN, 0, none⟩ 32 32 (Tr.cb l) rfl D3.out NW.out ON.out (by have := BN.out; unfold maxLen; omega) (by have := BN.out; omega) BS3.out ?_; intro va we oe ge _ _; have OE := hidden oe; have GE := hidden (below_transQ BB.out (below_growQ ge BS3.out (fun j hj => (O3.out.lt j hj).1))); clear oe ge))
      go_wp2_with fail
      go_roundw
      case rel => exact ⟨k + 1, by omega, by go_num, hidden (by rw [SE.out, Tr.cb_app, show 32 * (0 + (k + 1)) = 32 * (0 + k) + 32 by omega]; exact OE.out), GE⟩
      case measure => simp [intOf]; omega
    · obtain rfl : k = 4 := by omega
      rw [show ((4 : Nat) : Int) = 4 from rfl]
      have OS : Hid (wr.ownsRow w1.heap.size 5 1 u3 (32 * (4 + 0)) (Tr.cb (ef (4 + 0) g))) := hidden hO.out
      have BS := hB
      clear hO hB
      go_wp2_with fail
      go_loopw [3, 6] (fun v kv w' => ∃ k : Nat, k ≤ 3 ∧ kv = .int .i64 (k : Int) ∧ Hid (w'.ownsRow w1.heap.size 5 1 v (32 * (4 + k)) (Tr.cb (ef (4 + k) g))) ∧ Hid (Below w1.heap.size w1 w')) (fun _ k _ => 3 - (intOf k).toNat)
      case atStart => exact ⟨0, by omega, rfl, OS, BS⟩
      case round =>
        clear OS BS
        obtain ⟨k, hk, rfl, hO, hB⟩ := hrel
        by_cases hkn : k < 3
        · have k0 : (0 : Int) ≤ (k : Int) := by omega
          have k1 : (k : Int) < 3 := by omega
          have w9 : IntKind.i64.wrap ((k : Int) + 1) = (k : Int) + 1 := IntWalk.i64_in _ (by have := HM.out; omega)
          have dp := DP.out.keep hB.out
          have ra := dp.three k hkn
          skip
          obtain ⟨gx, hgx⟩ : ∃ x, g (4 + k) = x := ⟨_, rfl⟩
          rw [hgx] at ra
          have RA : Hid (∀ x, Calls Tryz.prog 24 #[(lst gx.n).v] x fun e w' => e = .returned (.agg (Tr.cb (eb gx.n)).toArray) ∧ Below x.heap.size x w') := hidden (fun x => by rw [eb_cb]; exact rEncode_any gx.n x)
          have SE : Hid (ef (4 + (k + 1)) g = ef (4 + k) g ++ eb gx.n) := hidden (by rw [show 4 + (k + 1) = 4 + k + 1 by omega, ef_succ, show g (4 + k) = gx from hgx])
          have D1 : Hid ((Tryz.prog.info? 78).map (·.size) = some (Tr.cb (eb gx.n)).toArray.size) := hidden (by rw [eb_cb]; exact b_i2 _)
          have D2 : Hid ((Tr.cb (eb gx.n)).toArray.all (·.oneCell') = true) := hidden (by rw [eb_cb]; exact b_one _)
          have D3 : Hid ((Tr.cb (eb gx.n)).length = 32) := hidden (by rw [Tr.cb_len, eb_len])
          have LB : Hid ((eb gx.n).length = 32) := hidden (eb_len _)
          have ON := hidden (cb_one (eb gx.n))
          unfold E4.v at RA
          have IE := hidden (s_i (lst gx.n))
          generalize hle : [Value.int .u64 (lst gx.n).x0, .int .u64 (lst gx.n).x1, .int .u64 (lst gx.n).x2, .int .u64 (lst gx.n).x3] = le at ra IE
          rw [show (Value.agg #[.int .u64 (lst gx.n).x0, .int .u64 (lst gx.n).x1, .int .u64 (lst gx.n).x2, .int .u64 (lst gx.n).x3]) = .agg le.toArray from by rw [← hle]] at RA
          clear hle
          have UE : Hid (Tryz.prog.underlying 38 = _) := hidden Tryz.underlying38
          generalize eb gx.n = l at RA D1 D2 D3 LB SE ON
          have HRA := hidden ra
          have BN := hidden (show 32 * (4 + k) + 32 ≤ 134217728 by have := HM.out; omega)
          clear ra dp hgx gx
          go_upto_region 11 with (first | (refine wpList_load_mid rfl 38 _ rfl T (104 + k * 4) (by rfl) le _ HRA.out UE.out rfl IE.out ?_) | (go_at_call 24; refine (RA.out _).mono ?_; rintro e wa ⟨rfl, hb⟩; have M2 := hidden ((Mw.start wa).new [.int .u8 0, .int .u8 0, .int .u8 0, .int .u8 0, .int .u8 0, .int .u8 0, .int .u8 0, .int .u8 0, .int .u8 0, .int .u8 0, .int .u8 0, .int .u8 0, .int .u8 0, .int .u8 0, .int .u8 0, .int .u8 0, .int .u8 0, .int .u8 0, .int .u8 0, .int .u8 0, .int .u8 0, .int .u8 0, .int .u8 0, .int .u8 0, .int .u8 0, .int .u8 0, .int .u8 0, .int .u8 0, .int .u8 0, .int .u8 0, .int .u8 0, .int .u8 0] 78); have TH := hidden (M2.out.ther (Tr.cb l) (c := wa.heap.size) (o := [.int .u8 0, .int .u8 0, .int .u8 0, .int .u8 0, .int .u8 0, .int .u8 0, .int .u8 0, .int .u8 0, .int .u8 0, .int .u8 0, .int .u8 0, .int .u8 0, .int .u8 0, .int .u8 0, .int .u8 0, .int .u8 0, .int .u8 0, .int .u8 0, .int .u8 0, .int .u8 0, .int .u8 0, .int .u8 0, .int .u8 0, .int .u8 0, .int .u8 0, .int .u8 0, .int .u8 0, .int .u8 0, .int .u8 0, .int .u8 0, .int .u8 0, .int .u8 0]) (by simp) (by rw [D3.out]; rfl)); have M3 := hidden (M2.out.set (M := []) (Tr.cb l) (c := wa.heap.size) (o := [.int .u8 0, .int .u8 0, .int .u8 0, .int .u8 0, .int .u8 0, .int .u8 0, .int .u8 0, .int .u8 0, .int .u8 0, .int .u8 0, .int .u8 0, .int .u8 0, .int .u8 0, .int .u8 0, .int .u8 0, .int .u8 0, .int .u8 0, .int .u8 0, .int .u8 0, .int .u8 0, .int .u8 0, .int .u8 0, .int .u8 0, .int .u8 0, .int .u8 0, .int .u8 0, .int .u8 0, .int .u8 0, .int .u8 0, .int .u8 0, .int .u8 0, .int .u8 0]) (by simp) (by rw [D3.out]; rfl) (by simp)); have B2 := hidden hb; clear hb RA M2) | refine wpList_store_mid rfl 78 _ _ rfl wa.heap.size 0 (Tr.cb l).toArray (by rfl) (by rfl) TH.out D1.out D2.out ?_)
          generalize hV : (wa.alloc (.cells ([.int .u8 0, .int .u8 0, .int .u8 0, .int .u8 0, .int .u8 0, .int .u8 0, .int .u8 0, .int .u8 0, .int .u8 0, .int .u8 0, .int .u8 0, .int .u8 0, .int .u8 0, .int .u8 0, .int .u8 0, .int .u8 0, .int .u8 0, .int .u8 0, .int .u8 0, .int .u8 0, .int .u8 0, .int .u8 0, .int .u8 0, .int .u8 0, .int .u8 0, .int .u8 0, .int .u8 0, .int .u8 0, .int .u8 0, .int .u8 0, .int .u8 0, .int .u8 0] : List Value).toArray 78)).setCells wa.heap.size 0 (Tr.cb l) = V at M3 ⊢
          clear hV TH HRA UE IE D1 D2
          have B3 := hidden (bl_trans B2.out M3.out.bel)
          have RN := (M3.out.r (wa.heap.size, Tr.cb l) (by simp)).1
          have NW : Hid (∀ j u, (Tr.cb l)[j]? = some u → V.cell? ((⟨wa.heap.size, 0, none⟩ : Addr).add j) = some u) := hidden (fun j u hu => by
            rw [Addr.add_mid]
            exact RN j u hu)
          have O3 := hidden (own_keepQ hO.out B3.out)
          have BS3 := hidden (Nat.le_trans hB.out.size B3.out.size)
          have BB := hidden (bl_trans2Q hB.out B3.out)
          generalize wa.heap.size = NN at NW ⊢
          clear M3 B2 B3 RN hO hB
          skip
          go_upto_region 9 with (first | (at_builtin; refine wpList_append_own_at _ rfl _ _ 29 rfl w1.heap.size 5 i0 (.int .u8 0) 1 1 HU.out HI.out HZ0.out HZ1.out HZ2.out rfl (by decide) _ (32 * (4 + k)) _ rfl O3.out ⟨NN, 0, none⟩ 32 32 (Tr.cb l) rfl D3.out NW.out ON.out (by have := BN.out; unfold maxLen; omega) (by have := BN.out; omega) BS3.out ?_; intro va we oe ge _ _; have OE := hidden oe; have GE := hidden (below_transQ BB.out (below_growQ ge BS3.out (fun j hj => (O3.out.lt j hj).1))); clear oe ge))
          go_wp2_with fail
          go_roundw
          case rel => exact ⟨k + 1, by omega, by go_num, hidden (by rw [SE.out, Tr.cb_app, show 32 * (4 + (k + 1)) = 32 * (4 + k) + 32 by omega]; exact OE.out), GE⟩
          case measure => simp [intOf]; omega
        · obtain rfl : k = 3 := by omega
          rw [show ((3 : Nat) : Int) = 3 from rfl]
          have OS : Hid (wr.ownsRow w1.heap.size 5 1 u3 (32 * (7 + 0)) (Tr.cb (ef (7 + 0) g))) := hidden hO.out
          have BS := hB
          clear hO hB
          go_wp2_with fail
          go_loopw [3, 8] (fun v kv w' => ∃ k : Nat, k ≤ 2 * m ∧ kv = .int .i64 (k : Int) ∧ Hid (w'.ownsRow w1.heap.size 5 1 v (32 * (7 + k)) (Tr.cb (ef (7 + k) g))) ∧ Hid (Below w1.heap.size w1 w')) (fun _ k _ => 2 * m - (intOf k).toNat)
          case atStart => exact ⟨0, by omega, rfl, OS, BS⟩
          case round =>
            clear OS BS
            obtain ⟨k, hk, rfl, hO, hB⟩ := hrel
            by_cases hkn : k < 2 * m
            · have k0 : (0 : Int) ≤ (k : Int) := by omega
              have k1 : (k : Int) < 2 * (m : Int) := by omega
              have w9 : IntKind.i64.wrap ((k : Int) + 1) = (k : Int) + 1 := IntWalk.i64_in _ (by have := HM.out; omega)
              have dp := DP.out.keep hB.out
              obtain ⟨lb, rfl, rr⟩ := dp.row (by omega)
              have ra := rr k hkn
              have lr := dp.lr
              obtain ⟨gx, hgx⟩ : ∃ x, g (7 + k) = x := ⟨_, rfl⟩
              rw [hgx] at ra
              have RA : Hid (∀ x, Calls Tryz.prog 23 #[.agg (el (lst gx.n)).toArray] x fun e w' => e = .returned (.agg (Tr.cb (eb gx.n)).toArray) ∧ Below x.heap.size x w') := hidden (fun x => by rw [eb_cb]; exact eEncode_any gx.n x)
              have SE : Hid (ef (7 + (k + 1)) g = ef (7 + k) g ++ eb gx.n) := hidden (by rw [show 7 + (k + 1) = 7 + k + 1 by omega, ef_succ, show g (7 + k) = gx from hgx])
              have D1 : Hid ((Tryz.prog.info? 78).map (·.size) = some (Tr.cb (eb gx.n)).toArray.size) := hidden (by rw [eb_cb]; exact b_i2 _)
              have D2 : Hid ((Tr.cb (eb gx.n)).toArray.all (·.oneCell') = true) := hidden (by rw [eb_cb]; exact b_one _)
              have D3 : Hid ((Tr.cb (eb gx.n)).length = 32) := hidden (by rw [Tr.cb_len, eb_len])
              have LB : Hid ((eb gx.n).length = 32) := hidden (eb_len _)
              have ON := hidden (cb_one (eb gx.n))
              have IE := hidden (el_i (lst gx.n))
              generalize el (lst gx.n) = le at ra RA IE
              have UE : Hid (Tryz.prog.underlying 41 = _) := hidden Tryz.underlying41
              generalize eb gx.n = l at RA D1 D2 D3 LB SE ON
              have HRA := hidden ra
              have BN := hidden (show 32 * (7 + k) + 32 ≤ 134217728 by have := HM.out; omega)
              clear ra dp hgx gx
              go_upto_region 16 with (first | (refine wpList_load_mid rfl 41 _ rfl lb (k * 26) (by rfl) le _ HRA.out UE.out rfl IE.out ?_) | (go_at_call 23; refine (RA.out _).mono ?_; rintro e wa ⟨rfl, hb⟩; have M2 := hidden ((Mw.start wa).new [.int .u8 0, .int .u8 0, .int .u8 0, .int .u8 0, .int .u8 0, .int .u8 0, .int .u8 0, .int .u8 0, .int .u8 0, .int .u8 0, .int .u8 0, .int .u8 0, .int .u8 0, .int .u8 0, .int .u8 0, .int .u8 0, .int .u8 0, .int .u8 0, .int .u8 0, .int .u8 0, .int .u8 0, .int .u8 0, .int .u8 0, .int .u8 0, .int .u8 0, .int .u8 0, .int .u8 0, .int .u8 0, .int .u8 0, .int .u8 0, .int .u8 0, .int .u8 0] 78); have TH := hidden (M2.out.ther (Tr.cb l) (c := wa.heap.size) (o := [.int .u8 0, .int .u8 0, .int .u8 0, .int .u8 0, .int .u8 0, .int .u8 0, .int .u8 0, .int .u8 0, .int .u8 0, .int .u8 0, .int .u8 0, .int .u8 0, .int .u8 0, .int .u8 0, .int .u8 0, .int .u8 0, .int .u8 0, .int .u8 0, .int .u8 0, .int .u8 0, .int .u8 0, .int .u8 0, .int .u8 0, .int .u8 0, .int .u8 0, .int .u8 0, .int .u8 0, .int .u8 0, .int .u8 0, .int .u8 0, .int .u8 0, .int .u8 0]) (by simp) (by rw [D3.out]; rfl)); have M3 := hidden (M2.out.set (M := []) (Tr.cb l) (c := wa.heap.size) (o := [.int .u8 0, .int .u8 0, .int .u8 0, .int .u8 0, .int .u8 0, .int .u8 0, .int .u8 0, .int .u8 0, .int .u8 0, .int .u8 0, .int .u8 0, .int .u8 0, .int .u8 0, .int .u8 0, .int .u8 0, .int .u8 0, .int .u8 0, .int .u8 0, .int .u8 0, .int .u8 0, .int .u8 0, .int .u8 0, .int .u8 0, .int .u8 0, .int .u8 0, .int .u8 0, .int .u8 0, .int .u8 0, .int .u8 0, .int .u8 0, .int .u8 0, .int .u8 0]) (by simp) (by rw [D3.out]; rfl) (by simp)); have B2 := hidden hb; clear hb RA M2) | refine wpList_store_mid rfl 78 _ _ rfl wa.heap.size 0 (Tr.cb l).toArray (by rfl) (by rfl) TH.out D1.out D2.out ?_)
              generalize hV : (wa.alloc (.cells ([.int .u8 0, .int .u8 0, .int .u8 0, .int .u8 0, .int .u8 0, .int .u8 0, .int .u8 0, .int .u8 0, .int .u8 0, .int .u8 0, .int .u8 0, .int .u8 0, .int .u8 0, .int .u8 0, .int .u8 0, .int .u8 0, .int .u8 0, .int .u8 0, .int .u8 0, .int .u8 0, .int .u8 0, .int .u8 0, .int .u8 0, .int .u8 0, .int .u8 0, .int .u8 0, .int .u8 0, .int .u8 0, .int .u8 0, .int .u8 0, .int .u8 0, .int .u8 0] : List Value).toArray 78)).setCells wa.heap.size 0 (Tr.cb l) = V at M3 ⊢
              clear hV TH HRA UE IE D1 D2
              have B3 := hidden (bl_trans B2.out M3.out.bel)
              have RN := (M3.out.r (wa.heap.size, Tr.cb l) (by simp)).1
              have NW : Hid (∀ j u, (Tr.cb l)[j]? = some u → V.cell? ((⟨wa.heap.size, 0, none⟩ : Addr).add j) = some u) := hidden (fun j u hu => by
                rw [Addr.add_mid]
                exact RN j u hu)
              have O3 := hidden (own_keepQ hO.out B3.out)
              have BS3 := hidden (Nat.le_trans hB.out.size B3.out.size)
              have BB := hidden (bl_trans2Q hB.out B3.out)
              generalize wa.heap.size = NN at NW ⊢
              clear M3 B2 B3 RN hO hB
              clear lr
              go_upto_region 14 with (first | (at_builtin; refine wpList_append_own_at _ rfl _ _ 29 rfl w1.heap.size 5 i0 (.int .u8 0) 1 1 HU.out HI.out HZ0.out HZ1.out HZ2.out rfl (by decide) _ (32 * (7 + k)) _ rfl O3.out ⟨NN, 0, none⟩ 32 32 (Tr.cb l) rfl D3.out NW.out ON.out (by have := BN.out; unfold maxLen; omega) (by have := BN.out; omega) BS3.out ?_; intro va we oe ge _ _; have OE := hidden oe; have GE := hidden (below_transQ BB.out (below_growQ ge BS3.out (fun j hj => (O3.out.lt j hj).1))); clear oe ge))
              go_wp2_with fail
              go_roundw
              case rel => exact ⟨k + 1, by omega, by go_num, hidden (by rw [SE.out, Tr.cb_app, show 32 * (7 + (k + 1)) = 32 * (7 + k) + 32 by omega]; exact OE.out), GE⟩
              case measure => simp [intOf]; omega
            · obtain rfl : k = 2 * m := by omega
              rw [show ((2 * m : Nat) : Int) = 2 * (m : Int) by omega]
              have OS : Hid (wr.ownsRow w1.heap.size 5 1 u3 (32 * (7 + 2 * m + 0)) (Tr.cb (ef (7 + 2 * m + 0) g))) := hidden (by rw [Nat.add_zero]; exact hO.out)
              have lr := (DP.out.keep hB.out).lr
              have lq : ¬ 2 * (m : Int) < 2 * (m : Int) := by omega
              have BS := hB
              clear hO hB
              go_wp2_with fail
              clear lr
              go_loopw [3, 10] (fun v kv w' => ∃ k : Nat, k ≤ 2 ∧ kv = .int .i64 (k : Int) ∧ Hid (w'.ownsRow w1.heap.size 5 1 v (32 * ((7 + 2 * m) + k)) (Tr.cb (ef ((7 + 2 * m) + k) g))) ∧ Hid (Below w1.heap.size w1 w')) (fun _ k _ => 2 - (intOf k).toNat)
              case atStart => exact ⟨0, by omega, rfl, OS, BS⟩
              case round =>
                clear OS BS
                obtain ⟨k, hk, rfl, hO, hB⟩ := hrel
                by_cases hkn : k < 2
                · have k0 : (0 : Int) ≤ (k : Int) := by omega
                  have k1 : (k : Int) < 2 := by omega
                  have w9 : IntKind.i64.wrap ((k : Int) + 1) = (k : Int) + 1 := IntWalk.i64_in _ (by have := HM.out; omega)
                  have dp := DP.out.keep hB.out
                  have ra := dp.two k hkn
                  skip
                  obtain ⟨gx, hgx⟩ : ∃ x, g (7 + 2 * m + k) = x := ⟨_, rfl⟩
                  rw [hgx] at ra
                  have RA : Hid (∀ x, Calls Tryz.prog 24 #[(lst gx.n).v] x fun e w' => e = .returned (.agg (Tr.cb (eb gx.n)).toArray) ∧ Below x.heap.size x w') := hidden (fun x => by rw [eb_cb]; exact rEncode_any gx.n x)
                  have SE : Hid (ef ((7 + 2 * m) + (k + 1)) g = ef ((7 + 2 * m) + k) g ++ eb gx.n) := hidden (by rw [show (7 + 2 * m) + (k + 1) = (7 + 2 * m) + k + 1 by omega, ef_succ, show g (7 + 2 * m + k) = gx from hgx])
                  have D1 : Hid ((Tryz.prog.info? 78).map (·.size) = some (Tr.cb (eb gx.n)).toArray.size) := hidden (by rw [eb_cb]; exact b_i2 _)
                  have D2 : Hid ((Tr.cb (eb gx.n)).toArray.all (·.oneCell') = true) := hidden (by rw [eb_cb]; exact b_one _)
                  have D3 : Hid ((Tr.cb (eb gx.n)).length = 32) := hidden (by rw [Tr.cb_len, eb_len])
                  have LB : Hid ((eb gx.n).length = 32) := hidden (eb_len _)
                  have ON := hidden (cb_one (eb gx.n))
                  unfold E4.v at RA
                  have IE := hidden (s_i (lst gx.n))
                  generalize hle : [Value.int .u64 (lst gx.n).x0, .int .u64 (lst gx.n).x1, .int .u64 (lst gx.n).x2, .int .u64 (lst gx.n).x3] = le at ra IE
                  rw [show (Value.agg #[.int .u64 (lst gx.n).x0, .int .u64 (lst gx.n).x1, .int .u64 (lst gx.n).x2, .int .u64 (lst gx.n).x3]) = .agg le.toArray from by rw [← hle]] at RA
                  clear hle
                  have UE : Hid (Tryz.prog.underlying 38 = _) := hidden Tryz.underlying38
                  generalize eb gx.n = l at RA D1 D2 D3 LB SE ON
                  have HRA := hidden ra
                  have BN := hidden (show 32 * ((7 + 2 * m) + k) + 32 ≤ 134217728 by have := HM.out; omega)
                  clear ra dp hgx gx
                  go_upto_region 21 with (first | (refine wpList_load_mid rfl 38 _ rfl T (117 + k * 4) (by rfl) le _ HRA.out UE.out rfl IE.out ?_) | (go_at_call 24; refine (RA.out _).mono ?_; rintro e wa ⟨rfl, hb⟩; have M2 := hidden ((Mw.start wa).new [.int .u8 0, .int .u8 0, .int .u8 0, .int .u8 0, .int .u8 0, .int .u8 0, .int .u8 0, .int .u8 0, .int .u8 0, .int .u8 0, .int .u8 0, .int .u8 0, .int .u8 0, .int .u8 0, .int .u8 0, .int .u8 0, .int .u8 0, .int .u8 0, .int .u8 0, .int .u8 0, .int .u8 0, .int .u8 0, .int .u8 0, .int .u8 0, .int .u8 0, .int .u8 0, .int .u8 0, .int .u8 0, .int .u8 0, .int .u8 0, .int .u8 0, .int .u8 0] 78); have TH := hidden (M2.out.ther (Tr.cb l) (c := wa.heap.size) (o := [.int .u8 0, .int .u8 0, .int .u8 0, .int .u8 0, .int .u8 0, .int .u8 0, .int .u8 0, .int .u8 0, .int .u8 0, .int .u8 0, .int .u8 0, .int .u8 0, .int .u8 0, .int .u8 0, .int .u8 0, .int .u8 0, .int .u8 0, .int .u8 0, .int .u8 0, .int .u8 0, .int .u8 0, .int .u8 0, .int .u8 0, .int .u8 0, .int .u8 0, .int .u8 0, .int .u8 0, .int .u8 0, .int .u8 0, .int .u8 0, .int .u8 0, .int .u8 0]) (by simp) (by rw [D3.out]; rfl)); have M3 := hidden (M2.out.set (M := []) (Tr.cb l) (c := wa.heap.size) (o := [.int .u8 0, .int .u8 0, .int .u8 0, .int .u8 0, .int .u8 0, .int .u8 0, .int .u8 0, .int .u8 0, .int .u8 0, .int .u8 0, .int .u8 0, .int .u8 0, .int .u8 0, .int .u8 0, .int .u8 0, .int .u8 0, .int .u8 0, .int .u8 0, .int .u8 0, .int .u8 0, .int .u8 0, .int .u8 0, .int .u8 0, .int .u8 0, .int .u8 0, .int .u8 0, .int .u8 0, .int .u8 0, .int .u8 0, .int .u8 0, .int .u8 0, .int .u8 0]) (by simp) (by rw [D3.out]; rfl) (by simp)); have B2 := hidden hb; clear hb RA M2) | refine wpList_store_mid rfl 78 _ _ rfl wa.heap.size 0 (Tr.cb l).toArray (by rfl) (by rfl) TH.out D1.out D2.out ?_)
                  generalize hV : (wa.alloc (.cells ([.int .u8 0, .int .u8 0, .int .u8 0, .int .u8 0, .int .u8 0, .int .u8 0, .int .u8 0, .int .u8 0, .int .u8 0, .int .u8 0, .int .u8 0, .int .u8 0, .int .u8 0, .int .u8 0, .int .u8 0, .int .u8 0, .int .u8 0, .int .u8 0, .int .u8 0, .int .u8 0, .int .u8 0, .int .u8 0, .int .u8 0, .int .u8 0, .int .u8 0, .int .u8 0, .int .u8 0, .int .u8 0, .int .u8 0, .int .u8 0, .int .u8 0, .int .u8 0] : List Value).toArray 78)).setCells wa.heap.size 0 (Tr.cb l) = V at M3 ⊢
                  clear hV TH HRA UE IE D1 D2
                  have B3 := hidden (bl_trans B2.out M3.out.bel)
                  have RN := (M3.out.r (wa.heap.size, Tr.cb l) (by simp)).1
                  have NW : Hid (∀ j u, (Tr.cb l)[j]? = some u → V.cell? ((⟨wa.heap.size, 0, none⟩ : Addr).add j) = some u) := hidden (fun j u hu => by
                    rw [Addr.add_mid]
                    exact RN j u hu)
                  have O3 := hidden (own_keepQ hO.out B3.out)
                  have BS3 := hidden (Nat.le_trans hB.out.size B3.out.size)
                  have BB := hidden (bl_trans2Q hB.out B3.out)
                  generalize wa.heap.size = NN at NW ⊢
                  clear M3 B2 B3 RN hO hB
                  skip
                  go_upto_region 19 with (first | (at_builtin; refine wpList_append_own_at _ rfl _ _ 29 rfl w1.heap.size 5 i0 (.int .u8 0) 1 1 HU.out HI.out HZ0.out HZ1.out HZ2.out rfl (by decide) _ (32 * ((7 + 2 * m) + k)) _ rfl O3.out ⟨NN, 0, none⟩ 32 32 (Tr.cb l) rfl D3.out NW.out ON.out (by have := BN.out; unfold maxLen; omega) (by have := BN.out; omega) BS3.out ?_; intro va we oe ge _ _; have OE := hidden oe; have GE := hidden (below_transQ BB.out (below_growQ ge BS3.out (fun j hj => (O3.out.lt j hj).1))); clear oe ge))
                  go_wp2_with fail
                  go_roundw
                  case rel => exact ⟨k + 1, by omega, by go_num, hidden (by rw [SE.out, Tr.cb_app, show 32 * ((7 + 2 * m) + (k + 1)) = 32 * ((7 + 2 * m) + k) + 32 by omega]; exact OE.out), GE⟩
                  case measure => simp [intOf]; omega
                · obtain rfl : k = 2 := by omega
                  rw [show ((2 : Nat) : Int) = 2 from rfl]
                  obtain ⟨gg, cc, rfl⟩ : ∃ gg cc : Nat, u3 = .slice (some ⟨gg, 0, none⟩) (32 * (7 + 2 * m + 2)) cc := by
                    rcases hO.out.2 with ⟨_, h0⟩ | ⟨gg, cap2, cur, h1, _⟩
                    · omega
                    · exact ⟨gg, cap2, h1⟩
                  have FO : Hid (wr.ownsRow w1.heap.size 5 1 (.slice (some ⟨gg, 0, none⟩) (32 * (9 + 2 * m)) cc) (32 * (9 + 2 * m)) (Tr.cb (ef (9 + 2 * m) g))) := hidden (by rw [show 9 + 2 * m = 7 + 2 * m + 2 by omega]; exact hO.out)
                  have FW := hidden (own_lessQ FO.out BW.out.size)
                  have FB := hidden (bl_trans BW.out hB.out)
                  clear hO hB FO
                  go_wp2_with fail
                  refine bodyPost_ret (v := .slice (some ⟨gg, 0, none⟩) (32 * (9 + 2 * m)) cc) (by simp [results, Tryz.results5, go_sem]; omega) rfl ?_
                  first | exact ⟨gg, cc, rfl, FW.out, FB.out⟩ | exact ⟨gg, ⟨cc, rfl⟩, FW.out, FB.out⟩
end Go.Proofs.YtkfkmndhbfeagaaGreatDoor
namespace Go.Proofs.YtkfkmndhbfeagaaGreatDoor
open Go.RowKit
set_option linter.unusedVariables false
/-- a list with others from a place on -/
def pt (D : List Value) (o : Nat) (vs : List Value) : List Value := D.take o ++ (vs ++ D.drop (o + vs.length))
theorem pt_len {D vs : List Value} {o : Nat} (h : o + vs.length ≤ D.length) : (pt D o vs).length = D.length := by unfold pt; simp; omega
/-- these lie in D from a place on -/
def sg (D : List Value) (o : Nat) (cs : List Value) : Prop := ∀ j u, cs[j]? = some u → D[o + j]? = some u
theorem sg_pt {D vs : List Value} {o : Nat} (h : o + vs.length ≤ D.length) : sg (pt D o vs) o vs := fun j u hu => by
  have hj := (List.getElem?_eq_some_iff.1 hu).1
  unfold pt
  rw [List.getElem?_append_right (by simp; omega), List.length_take, show o + j - min o D.length = j by omega, List.getElem?_append_left hj]
  exact hu
theorem sg_far {D vs cs : List Value} {o p : Nat} (h : o + vs.length ≤ D.length) (hs : sg D p cs) (hf : p + cs.length ≤ o ∨ o + vs.length ≤ p) : sg (pt D o vs) p cs := fun j u hu => by
  have hj := (List.getElem?_eq_some_iff.1 hu).1
  have := hs j u hu
  unfold pt
  rcases hf with hf | hf
  · rw [List.getElem?_append_left (by simp; omega), List.getElem?_take]
    rw [if_pos (by omega)]
    exact this
  · rw [List.getElem?_append_right (by simp; omega), List.length_take, List.getElem?_append_right (by omega), List.getElem?_drop, show o + vs.length + (p + j - min o D.length - vs.length) = p + j by omega]
    exact this
theorem sg_range {w : World} {T p : Nat} {D cs : List Value} (h : w.rangeAt T 0 D) (hs : sg D p cs) : w.rangeAt T p cs := fun j u hu => by
  have := h (p + j) u (hs j u hu)
  rwa [Nat.zero_add] at this
theorem Mw.pt {w0 w : World} {T3 T1 : Nat} {D P1 : List Value} (h : Mw w0 [(T3, D), (T1, P1)] w) (o : Nat) (vs : List Value) (hD : o + vs.length ≤ D.length) (hne : T1 ≠ T3) : Mw w0 [(T3, pt D o vs), (T1, P1)] (w.setCells T3 o vs) ∧ w.there T3 o vs.toArray.size :=
  h.patch o vs (D.take o) (D.drop (o + vs.length)) ⟨(D.drop o).take vs.length, by simp; omega, by
    conv => lhs; rw [← List.take_append_drop o D, ← List.take_append_drop vs.length (D.drop o), List.drop_drop]⟩ (by simp; omega) (fun p hp => by
      simp only [List.mem_cons, List.not_mem_nil, or_false] at hp
      rw [hp]
      exact hne)
/-- the document's proof half made: so many of the four, the three, the two are there -/
structure Dd (D : List Value) (s : Nat → E4) (a b c : Nat) (v : Value) : Prop where
  len : D.length = 125
  four : ∀ i, i < a → sg D (i * 26) (el (lst (s i).n))
  three : ∀ i, i < b → sg D (104 + i * 4) [.int .u64 (lst (s (4 + i)).n).x0, .int .u64 (lst (s (4 + i)).n).x1, .int .u64 (lst (s (4 + i)).n).x2, .int .u64 (lst (s (4 + i)).n).x3]
  lr : sg D 116 [v]
  two : ∀ i, i < c → sg D (117 + i * 4) [.int .u64 (lst (s (7 + i)).n).x0, .int .u64 (lst (s (7 + i)).n).x1, .int .u64 (lst (s (7 + i)).n).x2, .int .u64 (lst (s (7 + i)).n).x3]
theorem Dd.four1 {D : List Value} {s : Nat → E4} {a b c : Nat} {v : Value} (h : Dd D s a b c v) (ha : a < 4) : Dd (pt D (a * 26) (el (lst (s a).n))) s (a + 1) b c v := by
  have hl : a * 26 + (el (lst (s a).n)).length ≤ D.length := by rw [h.len, el_len]; omega
  refine ⟨(pt_len hl).trans h.len, fun i hi => ?_, fun i hi => sg_far hl (h.three i hi) ?_, sg_far hl h.lr ?_, fun i hi => sg_far hl (h.two i hi) ?_⟩
  · by_cases e : i = a
    · subst e; exact sg_pt hl
    · exact sg_far hl (h.four i (by omega)) (by rw [el_len]; omega)
  all_goals (rw [el_len]; right; omega)
theorem Dd.three1 {D : List Value} {s : Nat → E4} {b c : Nat} {v : Value} (h : Dd D s 4 b c v) (hb : b < 3) : Dd (pt D (104 + b * 4) [.int .u64 (lst (s (4 + b)).n).x0, .int .u64 (lst (s (4 + b)).n).x1, .int .u64 (lst (s (4 + b)).n).x2, .int .u64 (lst (s (4 + b)).n).x3]) s 4 (b + 1) c v := by
  have hl : 104 + b * 4 + [Value.int .u64 (lst (s (4 + b)).n).x0, .int .u64 (lst (s (4 + b)).n).x1, .int .u64 (lst (s (4 + b)).n).x2, .int .u64 (lst (s (4 + b)).n).x3].length ≤ D.length := by rw [h.len]; simp; omega
  refine ⟨(pt_len hl).trans h.len, fun i hi => sg_far hl (h.four i hi) (by rw [el_len]; left; omega), fun i hi => ?_, sg_far hl h.lr (by right; simp; omega), fun i hi => sg_far hl (h.two i hi) (by right; simp; omega)⟩
  by_cases e : i = b
  · subst e; exact sg_pt hl
  · exact sg_far hl (h.three i (by omega)) (by left; simp; omega)
theorem Dd.lr1 {D : List Value} {s : Nat → E4} {c : Nat} {v : Value} (h : Dd D s 4 3 0 v) (v' : Value) : Dd (pt D 116 [v']) s 4 3 0 v' := by
  have hl : 116 + [v'].length ≤ D.length := by rw [h.len]; simp
  exact ⟨(pt_len hl).trans h.len, fun i hi => sg_far hl (h.four i hi) (by rw [el_len]; left; omega), fun i hi => sg_far hl (h.three i hi) (by left; simp; omega), sg_pt hl, fun i hi => by omega⟩
theorem Dd.two1 {D : List Value} {s : Nat → E4} {c : Nat} {v : Value} (h : Dd D s 4 3 c v) (hc : c < 2) : Dd (pt D (117 + c * 4) [.int .u64 (lst (s (7 + c)).n).x0, .int .u64 (lst (s (7 + c)).n).x1, .int .u64 (lst (s (7 + c)).n).x2, .int .u64 (lst (s (7 + c)).n).x3]) s 4 3 (c + 1) v := by
  have hl : 117 + c * 4 + [Value.int .u64 (lst (s (7 + c)).n).x0, .int .u64 (lst (s (7 + c)).n).x1, .int .u64 (lst (s (7 + c)).n).x2, .int .u64 (lst (s (7 + c)).n).x3].length ≤ D.length := by rw [h.len]; simp; omega
  refine ⟨(pt_len hl).trans h.len, fun i hi => sg_far hl (h.four i hi) (by rw [el_len]; left; omega), fun i hi => sg_far hl (h.three i hi) (by left; simp; omega), sg_far hl h.lr (by left; simp), fun i hi => ?_⟩
  by_cases e : i = c
  · subst e; exact sg_pt hl
  · exact sg_far hl (h.two i (by omega)) (by left; simp; omega)
theorem s_i2 (a : E4) : (Tryz.prog.info? 38).map (·.size) = some [Value.int .u64 a.x0, .int .u64 a.x1, .int .u64 a.x2, .int .u64 a.x3].toArray.size := by kernel_rfl

end Go.Proofs.YtkfkmndhbfeagaaGreatDoor
namespace Go.Proofs.YtkfkmndhbfeagaaGreatDoor
open Go.RowKit
set_option linter.unusedVariables false
def by6o : Array Oper := #[{ dst := some 19, op := Op.fieldAddr 28 (Operand.tmp 1) 1, type := 0, pos := "law.go:312", after := #[], guard := none },
  { dst := some 20, op := Op.load 24 (Operand.tmp 19), type := 24, pos := "law.go:312", after := #[{ on := 0, ground := Ground.data }], guard := none },
  { dst := some 21, op := Op.call { callee := Callee.value (Operand.func 22), args := #[Operand.tmp 20], argTypes := #[23] }, type := 38, pos := "law.go:312", after := #[{ on := 1, ground := Ground.data }], guard := none },
  { dst := some 22, op := Op.fieldAddr 28 (Operand.tmp 1) 2, type := 0, pos := "law.go:312", after := #[], guard := none },
  { dst := some 23, op := Op.load 24 (Operand.tmp 22), type := 24, pos := "law.go:312", after := #[{ on := 3, ground := Ground.data }], guard := none },
  { dst := some 24, op := Op.call { callee := Callee.value (Operand.func 22), args := #[Operand.tmp 23], argTypes := #[23] }, type := 38, pos := "law.go:312", after := #[{ on := 4, ground := Ground.data }, { on := 2, ground := Ground.chain }], guard := none },
  { dst := some 25, op := Op.fieldAddr 28 (Operand.tmp 1) 3, type := 0, pos := "law.go:312", after := #[], guard := none },
  { dst := some 26, op := Op.load 24 (Operand.tmp 25), type := 24, pos := "law.go:312", after := #[{ on := 6, ground := Ground.data }], guard := none },
  { dst := some 27, op := Op.call { callee := Callee.value (Operand.func 22), args := #[Operand.tmp 26], argTypes := #[23] }, type := 38, pos := "law.go:312", after := #[{ on := 7, ground := Ground.data }, { on := 5, ground := Ground.chain }], guard := none },
  { dst := some 28, op := Op.fieldAddr 47 (Operand.tmp 3) 1, type := 0, pos := "law.go:312", after := #[], guard := none },
  { dst := some 29, op := Op.indexAddr 43 (Operand.tmp 28) (Operand.const (Value.int IntKind.i64 0)), type := 0, pos := "law.go:312", after := #[{ on := 9, ground := Ground.data }, { on := 0, ground := Ground.phase }, { on := 1, ground := Ground.phase }, { on := 2, ground := Ground.phase }, { on := 3, ground := Ground.textOnly Departure.lateStores }, { on := 4, ground := Ground.textOnly Departure.lateStores }, { on := 5, ground := Ground.textOnly Departure.lateStoresUnsure }, { on := 6, ground := Ground.textOnly Departure.lateStores }, { on := 7, ground := Ground.textOnly Departure.lateStores }, { on := 8, ground := Ground.textOnly Departure.lateStoresUnsure }], guard := none },
  { dst := none, op := Op.store 38 (Operand.tmp 29) (Operand.tmp 21), type := 0, pos := "law.go:312", after := #[{ on := 10, ground := Ground.data }, { on := 2, ground := Ground.data }, { on := 8, ground := Ground.chain }, { on := 0, ground := Ground.phase }, { on := 1, ground := Ground.phase }, { on := 2, ground := Ground.phase }, { on := 3, ground := Ground.textOnly Departure.lateStores }, { on := 4, ground := Ground.textOnly Departure.lateStores }, { on := 5, ground := Ground.textOnly Departure.lateStoresUnsure }, { on := 6, ground := Ground.textOnly Departure.lateStores }, { on := 7, ground := Ground.textOnly Departure.lateStores }, { on := 8, ground := Ground.textOnly Departure.lateStoresUnsure }], guard := none },
  { dst := some 30, op := Op.fieldAddr 47 (Operand.tmp 3) 1, type := 0, pos := "law.go:312", after := #[], guard := none },
  { dst := some 31, op := Op.indexAddr 43 (Operand.tmp 30) (Operand.const (Value.int IntKind.i64 1)), type := 0, pos := "law.go:312", after := #[{ on := 12, ground := Ground.data }, { on := 0, ground := Ground.phase }, { on := 1, ground := Ground.phase }, { on := 2, ground := Ground.phase }, { on := 3, ground := Ground.phase }, { on := 4, ground := Ground.phase }, { on := 5, ground := Ground.phase }, { on := 6, ground := Ground.textOnly Departure.lateStores }, { on := 7, ground := Ground.textOnly Departure.lateStores }, { on := 8, ground := Ground.textOnly Departure.lateStoresUnsure }, { on := 9, ground := Ground.phase }, { on := 10, ground := Ground.phase }, { on := 11, ground := Ground.phase }], guard := none },
  { dst := none, op := Op.store 38 (Operand.tmp 31) (Operand.tmp 24), type := 0, pos := "law.go:312", after := #[{ on := 13, ground := Ground.data }, { on := 5, ground := Ground.data }, { on := 11, ground := Ground.chain }, { on := 0, ground := Ground.phase }, { on := 1, ground := Ground.phase }, { on := 2, ground := Ground.phase }, { on := 3, ground := Ground.phase }, { on := 4, ground := Ground.phase }, { on := 5, ground := Ground.phase }, { on := 6, ground := Ground.textOnly Departure.lateStores }, { on := 7, ground := Ground.textOnly Departure.lateStores }, { on := 8, ground := Ground.textOnly Departure.lateStoresUnsure }, { on := 9, ground := Ground.phase }, { on := 10, ground := Ground.phase }, { on := 11, ground := Ground.phase }], guard := none },
  { dst := some 32, op := Op.fieldAddr 47 (Operand.tmp 3) 1, type := 0, pos := "law.go:312", after := #[], guard := none },
  { dst := some 33, op := Op.indexAddr 43 (Operand.tmp 32) (Operand.const (Value.int IntKind.i64 2)), type := 0, pos := "law.go:312", after := #[{ on := 15, ground := Ground.data }, { on := 0, ground := Ground.phase }, { on := 1, ground := Ground.phase }, { on := 2, ground := Ground.phase }, { on := 3, ground := Ground.phase }, { on := 4, ground := Ground.phase }, { on := 5, ground := Ground.phase }, { on := 6, ground := Ground.phase }, { on := 7, ground := Ground.phase }, { on := 8, ground := Ground.phase }, { on := 9, ground := Ground.phase }, { on := 10, ground := Ground.phase }, { on := 11, ground := Ground.phase }, { on := 12, ground := Ground.phase }, { on := 13, ground := Ground.phase }, { on := 14, ground := Ground.phase }], guard := none },
  { dst := none, op := Op.store 38 (Operand.tmp 33) (Operand.tmp 27), type := 0, pos := "law.go:312", after := #[{ on := 16, ground := Ground.data }, { on := 8, ground := Ground.data }, { on := 14, ground := Ground.chain }, { on := 0, ground := Ground.phase }, { on := 1, ground := Ground.phase }, { on := 2, ground := Ground.phase }, { on := 3, ground := Ground.phase }, { on := 4, ground := Ground.phase }, { on := 5, ground := Ground.phase }, { on := 6, ground := Ground.phase }, { on := 7, ground := Ground.phase }, { on := 8, ground := Ground.phase }, { on := 9, ground := Ground.phase }, { on := 10, ground := Ground.phase }, { on := 11, ground := Ground.phase }, { on := 12, ground := Ground.phase }, { on := 13, ground := Ground.phase }, { on := 14, ground := Ground.phase }], guard := none }]
set_option maxRecDepth 100000 in
set_option maxHeartbeats 16000000 in
theorem by6 (Q : Exit → Act → World → Prop) (T1 T3 : Nat) (D P1 : List Value) (x4 x5 x6 q4 q5 q6 : E4) (u0 u2 u4 u5 u6 u7 u8 u9 u10 u11 u12 u13 u14 u15 u16 u17 u18 u19 u20 u21 u22 u23 u24 u25 u26 u27 u28 u29 u30 u31 u32 u33 u34 u35 u36 u37 u38 u39 u40 u41 u42 u43 u44 u45 u46 u47 u48 u49 u50 u51 u52 u53 u54 u55 u56 u57 u58 u59 u60 u61 u62 u63 u64 u65 u66 u67 u68 u69 u70 u71 u72 u73 u74 u75 u76 u77 u78 : Value) (w0 W : World) (hne : T1 ≠ T3) (hD : D.length = 125) (HM : Mw w0 [(T3, D), (T1, P1)] W)
    (p16 : P1[16]? = some (.int .u64 x4.x0)) (p17 : P1[17]? = some (.int .u64 x4.x1)) (p18 : P1[18]? = some (.int .u64 x4.x2)) (p19 : P1[19]? = some (.int .u64 x4.x3))
    (p20 : P1[20]? = some (.int .u64 x5.x0)) (p21 : P1[21]? = some (.int .u64 x5.x1)) (p22 : P1[22]? = some (.int .u64 x5.x2)) (p23 : P1[23]? = some (.int .u64 x5.x3))
    (p24 : P1[24]? = some (.int .u64 x6.x0)) (p25 : P1[25]? = some (.int .u64 x6.x1)) (p26 : P1[26]? = some (.int .u64 x6.x2)) (p27 : P1[27]? = some (.int .u64 x6.x3))
    (C2 : Hid (∀ x, Calls Tryz.prog 22 #[.agg #[.int .u64 x4.x0, .int .u64 x4.x1, .int .u64 x4.x2, .int .u64 x4.x3]] x fun e w' => e = .returned (.agg #[.int .u64 q4.x0, .int .u64 q4.x1, .int .u64 q4.x2, .int .u64 q4.x3]) ∧ Below x.heap.size x w'))
    (C5 : Hid (∀ x, Calls Tryz.prog 22 #[.agg #[.int .u64 x5.x0, .int .u64 x5.x1, .int .u64 x5.x2, .int .u64 x5.x3]] x fun e w' => e = .returned (.agg #[.int .u64 q5.x0, .int .u64 q5.x1, .int .u64 q5.x2, .int .u64 q5.x3]) ∧ Below x.heap.size x w'))
    (C8 : Hid (∀ x, Calls Tryz.prog 22 #[.agg #[.int .u64 x6.x0, .int .u64 x6.x1, .int .u64 x6.x2, .int .u64 x6.x3]] x fun e w' => e = .returned (.agg #[.int .u64 q6.x0, .int .u64 q6.x1, .int .u64 q6.x2, .int .u64 q6.x3]) ∧ Below x.heap.size x w'))
    (HQ : Hid (∀ wz, Mw w0 [(T3, (pt (pt (pt D 104 [.int .u64 q4.x0, .int .u64 q4.x1, .int .u64 q4.x2, .int .u64 q4.x3]) 108 [.int .u64 q5.x0, .int .u64 q5.x1, .int .u64 q5.x2, .int .u64 q5.x3]) 112 [.int .u64 q6.x0, .int .u64 q6.x1, .int .u64 q6.x2, .int .u64 q6.x3])), (T1, P1)] wz → Tr.Kp T3 W wz → Q .normal ⟨#[u0, .pointer (some ⟨T1, 0, none⟩), u2, .pointer (some ⟨T3, 0, none⟩), u4, u5, u6, u7, u8, u9, u10, u11, u12, u13, u14, u15, u16, u17, u18, .pointer (some ⟨T1, 16, none⟩), .agg #[.int .u64 x4.x0, .int .u64 x4.x1, .int .u64 x4.x2, .int .u64 x4.x3], .agg #[.int .u64 q4.x0, .int .u64 q4.x1, .int .u64 q4.x2, .int .u64 q4.x3], .pointer (some ⟨T1, 20, none⟩), .agg #[.int .u64 x5.x0, .int .u64 x5.x1, .int .u64 x5.x2, .int .u64 x5.x3], .agg #[.int .u64 q5.x0, .int .u64 q5.x1, .int .u64 q5.x2, .int .u64 q5.x3], .pointer (some ⟨T1, 24, none⟩), .agg #[.int .u64 x6.x0, .int .u64 x6.x1, .int .u64 x6.x2, .int .u64 x6.x3], .agg #[.int .u64 q6.x0, .int .u64 q6.x1, .int .u64 q6.x2, .int .u64 q6.x3], .pointer (some ⟨T3, 104, none⟩), .pointer (some ⟨T3, 104, none⟩), .pointer (some ⟨T3, 104, none⟩), .pointer (some ⟨T3, 108, none⟩), .pointer (some ⟨T3, 104, none⟩), .pointer (some ⟨T3, 112, none⟩), u34, u35, u36, u37, u38, u39, u40, u41, u42, u43, u44, u45, u46, u47, u48, u49, u50, u51, u52, u53, u54, u55, u56, u57, u58, u59, u60, u61, u62, u63, u64, u65, u66, u67, u68, u69, u70, u71, u72, u73, u74, u75, u76, u77, u78], []⟩ wz)) : (Code.region 6 by6o true).wp Tryz.prog Q ⟨#[u0, .pointer (some ⟨T1, 0, none⟩), u2, .pointer (some ⟨T3, 0, none⟩), u4, u5, u6, u7, u8, u9, u10, u11, u12, u13, u14, u15, u16, u17, u18, u19, u20, u21, u22, u23, u24, u25, u26, u27, u28, u29, u30, u31, u32, u33, u34, u35, u36, u37, u38, u39, u40, u41, u42, u43, u44, u45, u46, u47, u48, u49, u50, u51, u52, u53, u54, u55, u56, u57, u58, u59, u60, u61, u62, u63, u64, u65, u66, u67, u68, u69, u70, u71, u72, u73, u74, u75, u76, u77, u78], []⟩ W := by
  have M0 := hidden (HM.keep (Tr.drew_blW W))
  have KP := hidden (show Tr.Kp T3 W W.drew from Tr.Kp.of (Tr.drew_blW W))
  have HNE := hidden hne
  have HD := hidden hD
  clear HM hne hD
  unfold by6o
  refine wp_region_noPanic ?_
  refine wp_region_held_drew (S := fun x => Mw w0 [(T1, P1)] x) (by kernel_rfl) (M0.out.sub (by simp)) (fun hHeld => ?_)
  refine wpAnyH_take (i := 0) (oi := { dst := some 19, op := Op.fieldAddr 28 (Operand.tmp 1) 1, type := 0, pos := "law.go:312", after := #[], guard := none }) (v := .pointer (some ⟨T1, 16, none⟩)) rfl (by kernel_rfl) (by kernel_rfl) (by kernel_rfl) (fun _ _ _ h => h) (Or.inl ⟨by rfl, fun w0 hSw => ?_⟩) hHeld ?_
  · (clear hSw; go_simp)
  simp only [Act.put, List.setIfInBounds_toArray, List.set_cons_zero, List.set_cons_succ]
  refine wpAnyH_take (i := 1) (oi := { dst := some 20, op := Op.load 24 (Operand.tmp 19), type := 24, pos := "law.go:312", after := #[{ on := 0, ground := Ground.data }], guard := none }) (v := .agg #[.int .u64 x4.x0, .int .u64 x4.x1, .int .u64 x4.x2, .int .u64 x4.x3]) rfl (by kernel_rfl) (by kernel_rfl) (by kernel_rfl) (fun _ _ _ h => h) (Or.inl ⟨by rfl, fun w0 hSw => ?_⟩) hHeld ?_
  · (have hr := (hSw.r (T1, P1) (by simp)).1; have a0 := hr 16 _ p16; have a1 := hr 17 _ p17; have a2 := hr 18 _ p18; have a3 := hr 19 _ p19; simp only [Nat.zero_add] at a0 a1 a2 a3; clear hr hSw; go_simp)
  simp only [Act.put, List.setIfInBounds_toArray, List.set_cons_zero, List.set_cons_succ]
  refine wpAnyH_take (i := 3) (oi := { dst := some 22, op := Op.fieldAddr 28 (Operand.tmp 1) 2, type := 0, pos := "law.go:312", after := #[], guard := none }) (v := .pointer (some ⟨T1, 20, none⟩)) rfl (by kernel_rfl) (by kernel_rfl) (by kernel_rfl) (fun _ _ _ h => h) (Or.inl ⟨by rfl, fun w0 hSw => ?_⟩) hHeld ?_
  · (clear hSw; go_simp)
  simp only [Act.put, List.setIfInBounds_toArray, List.set_cons_zero, List.set_cons_succ]
  refine wpAnyH_take (i := 4) (oi := { dst := some 23, op := Op.load 24 (Operand.tmp 22), type := 24, pos := "law.go:312", after := #[{ on := 3, ground := Ground.data }], guard := none }) (v := .agg #[.int .u64 x5.x0, .int .u64 x5.x1, .int .u64 x5.x2, .int .u64 x5.x3]) rfl (by kernel_rfl) (by kernel_rfl) (by kernel_rfl) (fun _ _ _ h => h) (Or.inl ⟨by rfl, fun w0 hSw => ?_⟩) hHeld ?_
  · (have hr := (hSw.r (T1, P1) (by simp)).1; have a0 := hr 20 _ p20; have a1 := hr 21 _ p21; have a2 := hr 22 _ p22; have a3 := hr 23 _ p23; simp only [Nat.zero_add] at a0 a1 a2 a3; clear hr hSw; go_simp)
  simp only [Act.put, List.setIfInBounds_toArray, List.set_cons_zero, List.set_cons_succ]
  refine wpAnyH_take (i := 6) (oi := { dst := some 25, op := Op.fieldAddr 28 (Operand.tmp 1) 3, type := 0, pos := "law.go:312", after := #[], guard := none }) (v := .pointer (some ⟨T1, 24, none⟩)) rfl (by kernel_rfl) (by kernel_rfl) (by kernel_rfl) (fun _ _ _ h => h) (Or.inl ⟨by rfl, fun w0 hSw => ?_⟩) hHeld ?_
  · (clear hSw; go_simp)
  simp only [Act.put, List.setIfInBounds_toArray, List.set_cons_zero, List.set_cons_succ]
  refine wpAnyH_take (i := 7) (oi := { dst := some 26, op := Op.load 24 (Operand.tmp 25), type := 24, pos := "law.go:312", after := #[{ on := 6, ground := Ground.data }], guard := none }) (v := .agg #[.int .u64 x6.x0, .int .u64 x6.x1, .int .u64 x6.x2, .int .u64 x6.x3]) rfl (by kernel_rfl) (by kernel_rfl) (by kernel_rfl) (fun _ _ _ h => h) (Or.inl ⟨by rfl, fun w0 hSw => ?_⟩) hHeld ?_
  · (have hr := (hSw.r (T1, P1) (by simp)).1; have a0 := hr 24 _ p24; have a1 := hr 25 _ p25; have a2 := hr 26 _ p26; have a3 := hr 27 _ p27; simp only [Nat.zero_add] at a0 a1 a2 a3; clear hr hSw; go_simp)
  simp only [Act.put, List.setIfInBounds_toArray, List.set_cons_zero, List.set_cons_succ]
  refine wpAnyH_take (i := 9) (oi := { dst := some 28, op := Op.fieldAddr 47 (Operand.tmp 3) 1, type := 0, pos := "law.go:312", after := #[], guard := none }) (v := .pointer (some ⟨T3, 104, none⟩)) rfl (by kernel_rfl) (by kernel_rfl) (by kernel_rfl) (fun _ _ _ h => h) (Or.inl ⟨by rfl, fun w0 hSw => ?_⟩) hHeld ?_
  · (clear hSw; go_simp)
  simp only [Act.put, List.setIfInBounds_toArray, List.set_cons_zero, List.set_cons_succ]
  refine wpAnyH_take (i := 12) (oi := { dst := some 30, op := Op.fieldAddr 47 (Operand.tmp 3) 1, type := 0, pos := "law.go:312", after := #[], guard := none }) (v := .pointer (some ⟨T3, 104, none⟩)) rfl (by kernel_rfl) (by kernel_rfl) (by kernel_rfl) (fun _ _ _ h => h) (Or.inl ⟨by rfl, fun w0 hSw => ?_⟩) hHeld ?_
  · (clear hSw; go_simp)
  simp only [Act.put, List.setIfInBounds_toArray, List.set_cons_zero, List.set_cons_succ]
  refine wpAnyH_take (i := 15) (oi := { dst := some 32, op := Op.fieldAddr 47 (Operand.tmp 3) 1, type := 0, pos := "law.go:312", after := #[], guard := none }) (v := .pointer (some ⟨T3, 104, none⟩)) rfl (by kernel_rfl) (by kernel_rfl) (by kernel_rfl) (fun _ _ _ h => h) (Or.inl ⟨by rfl, fun w0 hSw => ?_⟩) hHeld ?_
  · (clear hSw; go_simp)
  simp only [Act.put, List.setIfInBounds_toArray, List.set_cons_zero, List.set_cons_succ]
  refine wpAnyH_ready (rs := [2]) (by kernel_rfl) (by simp) ?_
  refine AllReadyH.cons (o := { dst := some 21, op := Op.call { callee := Callee.value (Operand.func 22), args := #[Operand.tmp 20], argTypes := #[23] }, type := 38, pos := "law.go:312", after := #[{ on := 1, ground := Ground.data }], guard := none }) rfl (fun K hK => ?_) AllReadyH.nil
  have HH := hidden hHeld
  clear hHeld
  go_simp
  refine (C2.out _).mono ?_
  rintro e wn1 ⟨rfl, hb⟩
  replace M0 := hidden (M0.out.keep hb)
  replace KP := hidden (KP.out.trans (Tr.Kp.of hb))
  have SN := hidden (HH.out.keep hb)
  clear HH hb C2
  go_wp2_with fail
  refine hK.out _ _ SN.out (fun hHeld1 => ?_)
  clear hK K SN
  refine wpAnyH_take (i := 10) (oi := { dst := some 29, op := Op.indexAddr 43 (Operand.tmp 28) (Operand.const (Value.int IntKind.i64 0)), type := 0, pos := "law.go:312", after := #[{ on := 9, ground := Ground.data }, { on := 0, ground := Ground.phase }, { on := 1, ground := Ground.phase }, { on := 2, ground := Ground.phase }, { on := 3, ground := Ground.textOnly Departure.lateStores }, { on := 4, ground := Ground.textOnly Departure.lateStores }, { on := 5, ground := Ground.textOnly Departure.lateStoresUnsure }, { on := 6, ground := Ground.textOnly Departure.lateStores }, { on := 7, ground := Ground.textOnly Departure.lateStores }, { on := 8, ground := Ground.textOnly Departure.lateStoresUnsure }], guard := none }) (v := .pointer (some ⟨T3, 104, none⟩)) rfl (by kernel_rfl) (by kernel_rfl) (by kernel_rfl) (fun _ _ _ h => h) (Or.inl ⟨by rfl, fun w0 hSw => ?_⟩) hHeld1 ?_
  · (clear hSw; go_simp)
  simp only [Act.put, List.setIfInBounds_toArray, List.set_cons_zero, List.set_cons_succ]
  refine wpAnyH_ready (rs := [5]) (by kernel_rfl) (by simp) ?_
  refine AllReadyH.cons (o := { dst := some 24, op := Op.call { callee := Callee.value (Operand.func 22), args := #[Operand.tmp 23], argTypes := #[23] }, type := 38, pos := "law.go:312", after := #[{ on := 4, ground := Ground.data }, { on := 2, ground := Ground.chain }], guard := none }) rfl (fun K hK => ?_) AllReadyH.nil
  have HH := hidden hHeld1
  clear hHeld1
  go_simp
  refine (C5.out _).mono ?_
  rintro e wn2 ⟨rfl, hb⟩
  replace M0 := hidden (M0.out.keep hb)
  replace KP := hidden (KP.out.trans (Tr.Kp.of hb))
  have SN := hidden (HH.out.keep hb)
  clear HH hb C5
  go_wp2_with fail
  refine hK.out _ _ SN.out (fun hHeld2 => ?_)
  clear hK K SN
  refine wpAnyH_ready (rs := [8]) (by kernel_rfl) (by simp) ?_
  refine AllReadyH.cons (o := { dst := some 27, op := Op.call { callee := Callee.value (Operand.func 22), args := #[Operand.tmp 26], argTypes := #[23] }, type := 38, pos := "law.go:312", after := #[{ on := 7, ground := Ground.data }, { on := 5, ground := Ground.chain }], guard := none }) rfl (fun K hK => ?_) AllReadyH.nil
  have HH := hidden hHeld2
  clear hHeld2
  go_simp
  refine (C8.out _).mono ?_
  rintro e wn3 ⟨rfl, hb⟩
  replace M0 := hidden (M0.out.keep hb)
  replace KP := hidden (KP.out.trans (Tr.Kp.of hb))
  have SN := hidden (HH.out.keep hb)
  clear HH hb C8
  go_wp2_with fail
  refine hK.out _ _ SN.out (fun hHeld3 => ?_)
  clear hK K SN
  refine wpAnyH_ready (rs := [11]) (by kernel_rfl) (by simp) ?_
  refine AllReadyH.cons (o := { dst := none, op := Op.store 38 (Operand.tmp 29) (Operand.tmp 21), type := 0, pos := "law.go:312", after := #[{ on := 10, ground := Ground.data }, { on := 2, ground := Ground.data }, { on := 8, ground := Ground.chain }, { on := 0, ground := Ground.phase }, { on := 1, ground := Ground.phase }, { on := 2, ground := Ground.phase }, { on := 3, ground := Ground.textOnly Departure.lateStores }, { on := 4, ground := Ground.textOnly Departure.lateStores }, { on := 5, ground := Ground.textOnly Departure.lateStoresUnsure }, { on := 6, ground := Ground.textOnly Departure.lateStores }, { on := 7, ground := Ground.textOnly Departure.lateStores }, { on := 8, ground := Ground.textOnly Departure.lateStoresUnsure }], guard := none }) rfl (fun K hK => ?_) AllReadyH.nil
  clear hHeld3
  have N0 := hidden (M0.out.pt 104 [.int .u64 q4.x0, .int .u64 q4.x1, .int .u64 q4.x2, .int .u64 q4.x3] (by rw [HD.out]; simp) HNE.out)
  have HL0 := hidden ((pt_len (D := D) (o := 104) (vs := [.int .u64 q4.x0, .int .u64 q4.x1, .int .u64 q4.x2, .int .u64 q4.x3]) (by rw [HD.out]; simp)).trans HD.out)
  have HL := HL0
  clear HL0
  have I0 := hidden (s_i2 q4)
  have O0 := hidden (c4_one q4)
  refine ready_store rfl 38 _ _ rfl rfl T3 104 [.int .u64 q4.x0, .int .u64 q4.x1, .int .u64 q4.x2, .int .u64 q4.x3] (by rfl) (by rfl) N0.out.2 I0.out O0.out ?_
  refine hK.out _ _ (N0.out.1.sub (by simp)) (fun hS0 => ?_)
  clear hK K
  replace KP := hidden (KP.out.trans (kp_setCells T3 [.int .u64 q4.x0, .int .u64 q4.x1, .int .u64 q4.x2, .int .u64 q4.x3] 104 wn3))
  replace M0 := hidden N0.out.1
  clear N0 I0 O0
  generalize wn3.setCells T3 104 [.int .u64 q4.x0, .int .u64 q4.x1, .int .u64 q4.x2, .int .u64 q4.x3] = ws0 at M0 KP hS0 ⊢
  generalize hpd0 : pt D 104 [.int .u64 q4.x0, .int .u64 q4.x1, .int .u64 q4.x2, .int .u64 q4.x3] = D0 at M0 HL ⊢
  refine wpAnyH_take (i := 13) (oi := { dst := some 31, op := Op.indexAddr 43 (Operand.tmp 30) (Operand.const (Value.int IntKind.i64 1)), type := 0, pos := "law.go:312", after := #[{ on := 12, ground := Ground.data }, { on := 0, ground := Ground.phase }, { on := 1, ground := Ground.phase }, { on := 2, ground := Ground.phase }, { on := 3, ground := Ground.phase }, { on := 4, ground := Ground.phase }, { on := 5, ground := Ground.phase }, { on := 6, ground := Ground.textOnly Departure.lateStores }, { on := 7, ground := Ground.textOnly Departure.lateStores }, { on := 8, ground := Ground.textOnly Departure.lateStoresUnsure }, { on := 9, ground := Ground.phase }, { on := 10, ground := Ground.phase }, { on := 11, ground := Ground.phase }], guard := none }) (v := .pointer (some ⟨T3, 108, none⟩)) rfl (by kernel_rfl) (by kernel_rfl) (by kernel_rfl) (fun _ _ _ h => h) (Or.inl ⟨by rfl, fun w0 hSw => ?_⟩) hS0 ?_
  · (clear hSw; go_simp)
  simp only [Act.put, List.setIfInBounds_toArray, List.set_cons_zero, List.set_cons_succ]
  refine wpAnyH_ready (rs := [14]) (by kernel_rfl) (by simp) ?_
  refine AllReadyH.cons (o := { dst := none, op := Op.store 38 (Operand.tmp 31) (Operand.tmp 24), type := 0, pos := "law.go:312", after := #[{ on := 13, ground := Ground.data }, { on := 5, ground := Ground.data }, { on := 11, ground := Ground.chain }, { on := 0, ground := Ground.phase }, { on := 1, ground := Ground.phase }, { on := 2, ground := Ground.phase }, { on := 3, ground := Ground.phase }, { on := 4, ground := Ground.phase }, { on := 5, ground := Ground.phase }, { on := 6, ground := Ground.textOnly Departure.lateStores }, { on := 7, ground := Ground.textOnly Departure.lateStores }, { on := 8, ground := Ground.textOnly Departure.lateStoresUnsure }, { on := 9, ground := Ground.phase }, { on := 10, ground := Ground.phase }, { on := 11, ground := Ground.phase }], guard := none }) rfl (fun K hK => ?_) AllReadyH.nil
  clear hS0
  have N1 := hidden (M0.out.pt 108 [.int .u64 q5.x0, .int .u64 q5.x1, .int .u64 q5.x2, .int .u64 q5.x3] (by simp only [HL.out]; simp) HNE.out)
  have HL1 := hidden ((pt_len (D := D0) (o := 108) (vs := [.int .u64 q5.x0, .int .u64 q5.x1, .int .u64 q5.x2, .int .u64 q5.x3]) (by simp only [HL.out]; simp)).trans HL.out)
  clear HL
  have HL := HL1
  clear HL1
  have I1 := hidden (s_i2 q5)
  have O1 := hidden (c4_one q5)
  refine ready_store rfl 38 _ _ rfl rfl T3 108 [.int .u64 q5.x0, .int .u64 q5.x1, .int .u64 q5.x2, .int .u64 q5.x3] (by rfl) (by rfl) N1.out.2 I1.out O1.out ?_
  refine hK.out _ _ (N1.out.1.sub (by simp)) (fun hS1 => ?_)
  clear hK K
  replace KP := hidden (KP.out.trans (kp_setCells T3 [.int .u64 q5.x0, .int .u64 q5.x1, .int .u64 q5.x2, .int .u64 q5.x3] 108 ws0))
  replace M0 := hidden N1.out.1
  clear N1 I1 O1
  generalize ws0.setCells T3 108 [.int .u64 q5.x0, .int .u64 q5.x1, .int .u64 q5.x2, .int .u64 q5.x3] = ws1 at M0 KP hS1 ⊢
  generalize hpd1 : pt D0 108 [.int .u64 q5.x0, .int .u64 q5.x1, .int .u64 q5.x2, .int .u64 q5.x3] = D1 at M0 HL ⊢
  refine wpAnyH_take (i := 16) (oi := { dst := some 33, op := Op.indexAddr 43 (Operand.tmp 32) (Operand.const (Value.int IntKind.i64 2)), type := 0, pos := "law.go:312", after := #[{ on := 15, ground := Ground.data }, { on := 0, ground := Ground.phase }, { on := 1, ground := Ground.phase }, { on := 2, ground := Ground.phase }, { on := 3, ground := Ground.phase }, { on := 4, ground := Ground.phase }, { on := 5, ground := Ground.phase }, { on := 6, ground := Ground.phase }, { on := 7, ground := Ground.phase }, { on := 8, ground := Ground.phase }, { on := 9, ground := Ground.phase }, { on := 10, ground := Ground.phase }, { on := 11, ground := Ground.phase }, { on := 12, ground := Ground.phase }, { on := 13, ground := Ground.phase }, { on := 14, ground := Ground.phase }], guard := none }) (v := .pointer (some ⟨T3, 112, none⟩)) rfl (by kernel_rfl) (by kernel_rfl) (by kernel_rfl) (fun _ _ _ h => h) (Or.inl ⟨by rfl, fun w0 hSw => ?_⟩) hS1 ?_
  · (clear hSw; go_simp)
  simp only [Act.put, List.setIfInBounds_toArray, List.set_cons_zero, List.set_cons_succ]
  refine wpAnyH_ready (rs := [17]) (by kernel_rfl) (by simp) ?_
  refine AllReadyH.cons (o := { dst := none, op := Op.store 38 (Operand.tmp 33) (Operand.tmp 27), type := 0, pos := "law.go:312", after := #[{ on := 16, ground := Ground.data }, { on := 8, ground := Ground.data }, { on := 14, ground := Ground.chain }, { on := 0, ground := Ground.phase }, { on := 1, ground := Ground.phase }, { on := 2, ground := Ground.phase }, { on := 3, ground := Ground.phase }, { on := 4, ground := Ground.phase }, { on := 5, ground := Ground.phase }, { on := 6, ground := Ground.phase }, { on := 7, ground := Ground.phase }, { on := 8, ground := Ground.phase }, { on := 9, ground := Ground.phase }, { on := 10, ground := Ground.phase }, { on := 11, ground := Ground.phase }, { on := 12, ground := Ground.phase }, { on := 13, ground := Ground.phase }, { on := 14, ground := Ground.phase }], guard := none }) rfl (fun K hK => ?_) AllReadyH.nil
  clear hS1
  have N2 := hidden (M0.out.pt 112 [.int .u64 q6.x0, .int .u64 q6.x1, .int .u64 q6.x2, .int .u64 q6.x3] (by simp only [HL.out]; simp) HNE.out)
  have HL2 := hidden ((pt_len (D := D1) (o := 112) (vs := [.int .u64 q6.x0, .int .u64 q6.x1, .int .u64 q6.x2, .int .u64 q6.x3]) (by simp only [HL.out]; simp)).trans HL.out)
  clear HL
  have HL := HL2
  clear HL2
  have I2 := hidden (s_i2 q6)
  have O2 := hidden (c4_one q6)
  refine ready_store rfl 38 _ _ rfl rfl T3 112 [.int .u64 q6.x0, .int .u64 q6.x1, .int .u64 q6.x2, .int .u64 q6.x3] (by rfl) (by rfl) N2.out.2 I2.out O2.out ?_
  refine hK.out _ _ (N2.out.1.sub (by simp)) (fun hS2 => ?_)
  clear hK K
  replace KP := hidden (KP.out.trans (kp_setCells T3 [.int .u64 q6.x0, .int .u64 q6.x1, .int .u64 q6.x2, .int .u64 q6.x3] 112 ws1))
  replace M0 := hidden N2.out.1
  clear N2 I2 O2
  generalize ws1.setCells T3 112 [.int .u64 q6.x0, .int .u64 q6.x1, .int .u64 q6.x2, .int .u64 q6.x3] = ws2 at M0 KP hS2 ⊢
  generalize hpd2 : pt D1 112 [.int .u64 q6.x0, .int .u64 q6.x1, .int .u64 q6.x2, .int .u64 q6.x3] = D2 at M0 HL ⊢
  refine wpAnyH_done (by kernel_rfl) ?_ _
  refine NoPanic.normal ?_
  subst hpd2 hpd1 hpd0
  exact HQ.out _ M0.out KP.out
def by11o : Array Oper := #[{ dst := some 67, op := Op.fieldAddr 28 (Operand.tmp 1) 6, type := 0, pos := "law.go:316", after := #[], guard := none },
  { dst := some 68, op := Op.load 24 (Operand.tmp 67), type := 24, pos := "law.go:316", after := #[{ on := 0, ground := Ground.data }], guard := none },
  { dst := some 69, op := Op.call { callee := Callee.value (Operand.func 22), args := #[Operand.tmp 68], argTypes := #[23] }, type := 38, pos := "law.go:316", after := #[{ on := 1, ground := Ground.data }], guard := none },
  { dst := some 70, op := Op.fieldAddr 28 (Operand.tmp 1) 7, type := 0, pos := "law.go:316", after := #[], guard := none },
  { dst := some 71, op := Op.load 24 (Operand.tmp 70), type := 24, pos := "law.go:316", after := #[{ on := 3, ground := Ground.data }], guard := none },
  { dst := some 72, op := Op.call { callee := Callee.value (Operand.func 22), args := #[Operand.tmp 71], argTypes := #[23] }, type := 38, pos := "law.go:316", after := #[{ on := 4, ground := Ground.data }, { on := 2, ground := Ground.chain }], guard := none },
  { dst := some 73, op := Op.fieldAddr 47 (Operand.tmp 3) 3, type := 0, pos := "law.go:316", after := #[], guard := none },
  { dst := some 74, op := Op.indexAddr 45 (Operand.tmp 73) (Operand.const (Value.int IntKind.i64 0)), type := 0, pos := "law.go:316", after := #[{ on := 6, ground := Ground.data }, { on := 0, ground := Ground.phase }, { on := 1, ground := Ground.phase }, { on := 2, ground := Ground.phase }, { on := 3, ground := Ground.textOnly Departure.lateStores }, { on := 4, ground := Ground.textOnly Departure.lateStores }, { on := 5, ground := Ground.textOnly Departure.lateStoresUnsure }], guard := none },
  { dst := none, op := Op.store 38 (Operand.tmp 74) (Operand.tmp 69), type := 0, pos := "law.go:316", after := #[{ on := 7, ground := Ground.data }, { on := 2, ground := Ground.data }, { on := 5, ground := Ground.chain }, { on := 0, ground := Ground.phase }, { on := 1, ground := Ground.phase }, { on := 2, ground := Ground.phase }, { on := 3, ground := Ground.textOnly Departure.lateStores }, { on := 4, ground := Ground.textOnly Departure.lateStores }, { on := 5, ground := Ground.textOnly Departure.lateStoresUnsure }], guard := none },
  { dst := some 75, op := Op.fieldAddr 47 (Operand.tmp 3) 3, type := 0, pos := "law.go:316", after := #[], guard := none },
  { dst := some 76, op := Op.indexAddr 45 (Operand.tmp 75) (Operand.const (Value.int IntKind.i64 1)), type := 0, pos := "law.go:316", after := #[{ on := 9, ground := Ground.data }, { on := 0, ground := Ground.phase }, { on := 1, ground := Ground.phase }, { on := 2, ground := Ground.phase }, { on := 3, ground := Ground.phase }, { on := 4, ground := Ground.phase }, { on := 5, ground := Ground.phase }, { on := 6, ground := Ground.phase }, { on := 7, ground := Ground.phase }, { on := 8, ground := Ground.phase }], guard := none },
  { dst := none, op := Op.store 38 (Operand.tmp 76) (Operand.tmp 72), type := 0, pos := "law.go:316", after := #[{ on := 10, ground := Ground.data }, { on := 5, ground := Ground.data }, { on := 8, ground := Ground.chain }, { on := 0, ground := Ground.phase }, { on := 1, ground := Ground.phase }, { on := 2, ground := Ground.phase }, { on := 3, ground := Ground.phase }, { on := 4, ground := Ground.phase }, { on := 5, ground := Ground.phase }, { on := 6, ground := Ground.phase }, { on := 7, ground := Ground.phase }, { on := 8, ground := Ground.phase }], guard := none }]
set_option maxRecDepth 100000 in
set_option maxHeartbeats 16000000 in
theorem by11 (Q : Exit → Act → World → Prop) (T1 T3 : Nat) (D P1 : List Value) (x7 x8 q7 q8 : E4) (u0 u2 u4 u5 u6 u7 u8 u9 u10 u11 u12 u13 u14 u15 u16 u17 u18 u19 u20 u21 u22 u23 u24 u25 u26 u27 u28 u29 u30 u31 u32 u33 u34 u35 u36 u37 u38 u39 u40 u41 u42 u43 u44 u45 u46 u47 u48 u49 u50 u51 u52 u53 u54 u55 u56 u57 u58 u59 u60 u61 u62 u63 u64 u65 u66 u67 u68 u69 u70 u71 u72 u73 u74 u75 u76 u77 u78 : Value) (w0 W : World) (hne : T1 ≠ T3) (hD : D.length = 125) (HM : Mw w0 [(T3, D), (T1, P1)] W)
    (p30 : P1[30]? = some (.int .u64 x7.x0)) (p31 : P1[31]? = some (.int .u64 x7.x1)) (p32 : P1[32]? = some (.int .u64 x7.x2)) (p33 : P1[33]? = some (.int .u64 x7.x3))
    (p34 : P1[34]? = some (.int .u64 x8.x0)) (p35 : P1[35]? = some (.int .u64 x8.x1)) (p36 : P1[36]? = some (.int .u64 x8.x2)) (p37 : P1[37]? = some (.int .u64 x8.x3))
    (C2 : Hid (∀ x, Calls Tryz.prog 22 #[.agg #[.int .u64 x7.x0, .int .u64 x7.x1, .int .u64 x7.x2, .int .u64 x7.x3]] x fun e w' => e = .returned (.agg #[.int .u64 q7.x0, .int .u64 q7.x1, .int .u64 q7.x2, .int .u64 q7.x3]) ∧ Below x.heap.size x w'))
    (C5 : Hid (∀ x, Calls Tryz.prog 22 #[.agg #[.int .u64 x8.x0, .int .u64 x8.x1, .int .u64 x8.x2, .int .u64 x8.x3]] x fun e w' => e = .returned (.agg #[.int .u64 q8.x0, .int .u64 q8.x1, .int .u64 q8.x2, .int .u64 q8.x3]) ∧ Below x.heap.size x w'))
    (HQ : Hid (∀ wz, Mw w0 [(T3, (pt (pt D 117 [.int .u64 q7.x0, .int .u64 q7.x1, .int .u64 q7.x2, .int .u64 q7.x3]) 121 [.int .u64 q8.x0, .int .u64 q8.x1, .int .u64 q8.x2, .int .u64 q8.x3])), (T1, P1)] wz → Tr.Kp T3 W wz → Q .normal ⟨#[u0, .pointer (some ⟨T1, 0, none⟩), u2, .pointer (some ⟨T3, 0, none⟩), u4, u5, u6, u7, u8, u9, u10, u11, u12, u13, u14, u15, u16, u17, u18, u19, u20, u21, u22, u23, u24, u25, u26, u27, u28, u29, u30, u31, u32, u33, u34, u35, u36, u37, u38, u39, u40, u41, u42, u43, u44, u45, u46, u47, u48, u49, u50, u51, u52, u53, u54, u55, u56, u57, u58, u59, u60, u61, u62, u63, u64, u65, u66, .pointer (some ⟨T1, 30, none⟩), .agg #[.int .u64 x7.x0, .int .u64 x7.x1, .int .u64 x7.x2, .int .u64 x7.x3], .agg #[.int .u64 q7.x0, .int .u64 q7.x1, .int .u64 q7.x2, .int .u64 q7.x3], .pointer (some ⟨T1, 34, none⟩), .agg #[.int .u64 x8.x0, .int .u64 x8.x1, .int .u64 x8.x2, .int .u64 x8.x3], .agg #[.int .u64 q8.x0, .int .u64 q8.x1, .int .u64 q8.x2, .int .u64 q8.x3], .pointer (some ⟨T3, 117, none⟩), .pointer (some ⟨T3, 117, none⟩), .pointer (some ⟨T3, 117, none⟩), .pointer (some ⟨T3, 121, none⟩), u77, u78], []⟩ wz)) : (Code.region 11 by11o true).wp Tryz.prog Q ⟨#[u0, .pointer (some ⟨T1, 0, none⟩), u2, .pointer (some ⟨T3, 0, none⟩), u4, u5, u6, u7, u8, u9, u10, u11, u12, u13, u14, u15, u16, u17, u18, u19, u20, u21, u22, u23, u24, u25, u26, u27, u28, u29, u30, u31, u32, u33, u34, u35, u36, u37, u38, u39, u40, u41, u42, u43, u44, u45, u46, u47, u48, u49, u50, u51, u52, u53, u54, u55, u56, u57, u58, u59, u60, u61, u62, u63, u64, u65, u66, u67, u68, u69, u70, u71, u72, u73, u74, u75, u76, u77, u78], []⟩ W := by
  have M0 := hidden (HM.keep (Tr.drew_blW W))
  have KP := hidden (show Tr.Kp T3 W W.drew from Tr.Kp.of (Tr.drew_blW W))
  have HNE := hidden hne
  have HD := hidden hD
  clear HM hne hD
  unfold by11o
  refine wp_region_noPanic ?_
  refine wp_region_held_drew (S := fun x => Mw w0 [(T1, P1)] x) (by kernel_rfl) (M0.out.sub (by simp)) (fun hHeld => ?_)
  refine wpAnyH_take (i := 0) (oi := { dst := some 67, op := Op.fieldAddr 28 (Operand.tmp 1) 6, type := 0, pos := "law.go:316", after := #[], guard := none }) (v := .pointer (some ⟨T1, 30, none⟩)) rfl (by kernel_rfl) (by kernel_rfl) (by kernel_rfl) (fun _ _ _ h => h) (Or.inl ⟨by rfl, fun w0 hSw => ?_⟩) hHeld ?_
  · (clear hSw; go_simp)
  simp only [Act.put, List.setIfInBounds_toArray, List.set_cons_zero, List.set_cons_succ]
  refine wpAnyH_take (i := 1) (oi := { dst := some 68, op := Op.load 24 (Operand.tmp 67), type := 24, pos := "law.go:316", after := #[{ on := 0, ground := Ground.data }], guard := none }) (v := .agg #[.int .u64 x7.x0, .int .u64 x7.x1, .int .u64 x7.x2, .int .u64 x7.x3]) rfl (by kernel_rfl) (by kernel_rfl) (by kernel_rfl) (fun _ _ _ h => h) (Or.inl ⟨by rfl, fun w0 hSw => ?_⟩) hHeld ?_
  · (have hr := (hSw.r (T1, P1) (by simp)).1; have a0 := hr 30 _ p30; have a1 := hr 31 _ p31; have a2 := hr 32 _ p32; have a3 := hr 33 _ p33; simp only [Nat.zero_add] at a0 a1 a2 a3; clear hr hSw; go_simp)
  simp only [Act.put, List.setIfInBounds_toArray, List.set_cons_zero, List.set_cons_succ]
  refine wpAnyH_take (i := 3) (oi := { dst := some 70, op := Op.fieldAddr 28 (Operand.tmp 1) 7, type := 0, pos := "law.go:316", after := #[], guard := none }) (v := .pointer (some ⟨T1, 34, none⟩)) rfl (by kernel_rfl) (by kernel_rfl) (by kernel_rfl) (fun _ _ _ h => h) (Or.inl ⟨by rfl, fun w0 hSw => ?_⟩) hHeld ?_
  · (clear hSw; go_simp)
  simp only [Act.put, List.setIfInBounds_toArray, List.set_cons_zero, List.set_cons_succ]
  refine wpAnyH_take (i := 4) (oi := { dst := some 71, op := Op.load 24 (Operand.tmp 70), type := 24, pos := "law.go:316", after := #[{ on := 3, ground := Ground.data }], guard := none }) (v := .agg #[.int .u64 x8.x0, .int .u64 x8.x1, .int .u64 x8.x2, .int .u64 x8.x3]) rfl (by kernel_rfl) (by kernel_rfl) (by kernel_rfl) (fun _ _ _ h => h) (Or.inl ⟨by rfl, fun w0 hSw => ?_⟩) hHeld ?_
  · (have hr := (hSw.r (T1, P1) (by simp)).1; have a0 := hr 34 _ p34; have a1 := hr 35 _ p35; have a2 := hr 36 _ p36; have a3 := hr 37 _ p37; simp only [Nat.zero_add] at a0 a1 a2 a3; clear hr hSw; go_simp)
  simp only [Act.put, List.setIfInBounds_toArray, List.set_cons_zero, List.set_cons_succ]
  refine wpAnyH_take (i := 6) (oi := { dst := some 73, op := Op.fieldAddr 47 (Operand.tmp 3) 3, type := 0, pos := "law.go:316", after := #[], guard := none }) (v := .pointer (some ⟨T3, 117, none⟩)) rfl (by kernel_rfl) (by kernel_rfl) (by kernel_rfl) (fun _ _ _ h => h) (Or.inl ⟨by rfl, fun w0 hSw => ?_⟩) hHeld ?_
  · (clear hSw; go_simp)
  simp only [Act.put, List.setIfInBounds_toArray, List.set_cons_zero, List.set_cons_succ]
  refine wpAnyH_take (i := 9) (oi := { dst := some 75, op := Op.fieldAddr 47 (Operand.tmp 3) 3, type := 0, pos := "law.go:316", after := #[], guard := none }) (v := .pointer (some ⟨T3, 117, none⟩)) rfl (by kernel_rfl) (by kernel_rfl) (by kernel_rfl) (fun _ _ _ h => h) (Or.inl ⟨by rfl, fun w0 hSw => ?_⟩) hHeld ?_
  · (clear hSw; go_simp)
  simp only [Act.put, List.setIfInBounds_toArray, List.set_cons_zero, List.set_cons_succ]
  refine wpAnyH_ready (rs := [2]) (by kernel_rfl) (by simp) ?_
  refine AllReadyH.cons (o := { dst := some 69, op := Op.call { callee := Callee.value (Operand.func 22), args := #[Operand.tmp 68], argTypes := #[23] }, type := 38, pos := "law.go:316", after := #[{ on := 1, ground := Ground.data }], guard := none }) rfl (fun K hK => ?_) AllReadyH.nil
  have HH := hidden hHeld
  clear hHeld
  go_simp
  refine (C2.out _).mono ?_
  rintro e wn1 ⟨rfl, hb⟩
  replace M0 := hidden (M0.out.keep hb)
  replace KP := hidden (KP.out.trans (Tr.Kp.of hb))
  have SN := hidden (HH.out.keep hb)
  clear HH hb C2
  go_wp2_with fail
  refine hK.out _ _ SN.out (fun hHeld1 => ?_)
  clear hK K SN
  refine wpAnyH_take (i := 7) (oi := { dst := some 74, op := Op.indexAddr 45 (Operand.tmp 73) (Operand.const (Value.int IntKind.i64 0)), type := 0, pos := "law.go:316", after := #[{ on := 6, ground := Ground.data }, { on := 0, ground := Ground.phase }, { on := 1, ground := Ground.phase }, { on := 2, ground := Ground.phase }, { on := 3, ground := Ground.textOnly Departure.lateStores }, { on := 4, ground := Ground.textOnly Departure.lateStores }, { on := 5, ground := Ground.textOnly Departure.lateStoresUnsure }], guard := none }) (v := .pointer (some ⟨T3, 117, none⟩)) rfl (by kernel_rfl) (by kernel_rfl) (by kernel_rfl) (fun _ _ _ h => h) (Or.inl ⟨by rfl, fun w0 hSw => ?_⟩) hHeld1 ?_
  · (clear hSw; go_simp)
  simp only [Act.put, List.setIfInBounds_toArray, List.set_cons_zero, List.set_cons_succ]
  refine wpAnyH_ready (rs := [5]) (by kernel_rfl) (by simp) ?_
  refine AllReadyH.cons (o := { dst := some 72, op := Op.call { callee := Callee.value (Operand.func 22), args := #[Operand.tmp 71], argTypes := #[23] }, type := 38, pos := "law.go:316", after := #[{ on := 4, ground := Ground.data }, { on := 2, ground := Ground.chain }], guard := none }) rfl (fun K hK => ?_) AllReadyH.nil
  have HH := hidden hHeld1
  clear hHeld1
  go_simp
  refine (C5.out _).mono ?_
  rintro e wn2 ⟨rfl, hb⟩
  replace M0 := hidden (M0.out.keep hb)
  replace KP := hidden (KP.out.trans (Tr.Kp.of hb))
  have SN := hidden (HH.out.keep hb)
  clear HH hb C5
  go_wp2_with fail
  refine hK.out _ _ SN.out (fun hHeld2 => ?_)
  clear hK K SN
  refine wpAnyH_ready (rs := [8]) (by kernel_rfl) (by simp) ?_
  refine AllReadyH.cons (o := { dst := none, op := Op.store 38 (Operand.tmp 74) (Operand.tmp 69), type := 0, pos := "law.go:316", after := #[{ on := 7, ground := Ground.data }, { on := 2, ground := Ground.data }, { on := 5, ground := Ground.chain }, { on := 0, ground := Ground.phase }, { on := 1, ground := Ground.phase }, { on := 2, ground := Ground.phase }, { on := 3, ground := Ground.textOnly Departure.lateStores }, { on := 4, ground := Ground.textOnly Departure.lateStores }, { on := 5, ground := Ground.textOnly Departure.lateStoresUnsure }], guard := none }) rfl (fun K hK => ?_) AllReadyH.nil
  clear hHeld2
  have N0 := hidden (M0.out.pt 117 [.int .u64 q7.x0, .int .u64 q7.x1, .int .u64 q7.x2, .int .u64 q7.x3] (by rw [HD.out]; simp) HNE.out)
  have HL0 := hidden ((pt_len (D := D) (o := 117) (vs := [.int .u64 q7.x0, .int .u64 q7.x1, .int .u64 q7.x2, .int .u64 q7.x3]) (by rw [HD.out]; simp)).trans HD.out)
  have HL := HL0
  clear HL0
  have I0 := hidden (s_i2 q7)
  have O0 := hidden (c4_one q7)
  refine ready_store rfl 38 _ _ rfl rfl T3 117 [.int .u64 q7.x0, .int .u64 q7.x1, .int .u64 q7.x2, .int .u64 q7.x3] (by rfl) (by rfl) N0.out.2 I0.out O0.out ?_
  refine hK.out _ _ (N0.out.1.sub (by simp)) (fun hS0 => ?_)
  clear hK K
  replace KP := hidden (KP.out.trans (kp_setCells T3 [.int .u64 q7.x0, .int .u64 q7.x1, .int .u64 q7.x2, .int .u64 q7.x3] 117 wn2))
  replace M0 := hidden N0.out.1
  clear N0 I0 O0
  generalize wn2.setCells T3 117 [.int .u64 q7.x0, .int .u64 q7.x1, .int .u64 q7.x2, .int .u64 q7.x3] = ws0 at M0 KP hS0 ⊢
  generalize hpd0 : pt D 117 [.int .u64 q7.x0, .int .u64 q7.x1, .int .u64 q7.x2, .int .u64 q7.x3] = D0 at M0 HL ⊢
  refine wpAnyH_take (i := 10) (oi := { dst := some 76, op := Op.indexAddr 45 (Operand.tmp 75) (Operand.const (Value.int IntKind.i64 1)), type := 0, pos := "law.go:316", after := #[{ on := 9, ground := Ground.data }, { on := 0, ground := Ground.phase }, { on := 1, ground := Ground.phase }, { on := 2, ground := Ground.phase }, { on := 3, ground := Ground.phase }, { on := 4, ground := Ground.phase }, { on := 5, ground := Ground.phase }, { on := 6, ground := Ground.phase }, { on := 7, ground := Ground.phase }, { on := 8, ground := Ground.phase }], guard := none }) (v := .pointer (some ⟨T3, 121, none⟩)) rfl (by kernel_rfl) (by kernel_rfl) (by kernel_rfl) (fun _ _ _ h => h) (Or.inl ⟨by rfl, fun w0 hSw => ?_⟩) hS0 ?_
  · (clear hSw; go_simp)
  simp only [Act.put, List.setIfInBounds_toArray, List.set_cons_zero, List.set_cons_succ]
  refine wpAnyH_ready (rs := [11]) (by kernel_rfl) (by simp) ?_
  refine AllReadyH.cons (o := { dst := none, op := Op.store 38 (Operand.tmp 76) (Operand.tmp 72), type := 0, pos := "law.go:316", after := #[{ on := 10, ground := Ground.data }, { on := 5, ground := Ground.data }, { on := 8, ground := Ground.chain }, { on := 0, ground := Ground.phase }, { on := 1, ground := Ground.phase }, { on := 2, ground := Ground.phase }, { on := 3, ground := Ground.phase }, { on := 4, ground := Ground.phase }, { on := 5, ground := Ground.phase }, { on := 6, ground := Ground.phase }, { on := 7, ground := Ground.phase }, { on := 8, ground := Ground.phase }], guard := none }) rfl (fun K hK => ?_) AllReadyH.nil
  clear hS0
  have N1 := hidden (M0.out.pt 121 [.int .u64 q8.x0, .int .u64 q8.x1, .int .u64 q8.x2, .int .u64 q8.x3] (by simp only [HL.out]; simp) HNE.out)
  have HL1 := hidden ((pt_len (D := D0) (o := 121) (vs := [.int .u64 q8.x0, .int .u64 q8.x1, .int .u64 q8.x2, .int .u64 q8.x3]) (by simp only [HL.out]; simp)).trans HL.out)
  clear HL
  have HL := HL1
  clear HL1
  have I1 := hidden (s_i2 q8)
  have O1 := hidden (c4_one q8)
  refine ready_store rfl 38 _ _ rfl rfl T3 121 [.int .u64 q8.x0, .int .u64 q8.x1, .int .u64 q8.x2, .int .u64 q8.x3] (by rfl) (by rfl) N1.out.2 I1.out O1.out ?_
  refine hK.out _ _ (N1.out.1.sub (by simp)) (fun hS1 => ?_)
  clear hK K
  replace KP := hidden (KP.out.trans (kp_setCells T3 [.int .u64 q8.x0, .int .u64 q8.x1, .int .u64 q8.x2, .int .u64 q8.x3] 121 ws0))
  replace M0 := hidden N1.out.1
  clear N1 I1 O1
  generalize ws0.setCells T3 121 [.int .u64 q8.x0, .int .u64 q8.x1, .int .u64 q8.x2, .int .u64 q8.x3] = ws1 at M0 KP hS1 ⊢
  generalize hpd1 : pt D0 121 [.int .u64 q8.x0, .int .u64 q8.x1, .int .u64 q8.x2, .int .u64 q8.x3] = D1 at M0 HL ⊢
  refine wpAnyH_done (by kernel_rfl) ?_ _
  refine NoPanic.normal ?_
  subst hpd1 hpd0
  exact HQ.out _ M0.out KP.out
end Go.Proofs.YtkfkmndhbfeagaaGreatDoor
namespace Go.Proofs.YtkfkmndhbfeagaaGreatDoor
open Go.RowKit
set_option linter.unusedVariables false
theorem wp_appendQ {P : Program} {w : World} {o : Oper} {a : Act} {K : Act → World → Prop} {Q : Exit → Act → World → Prop} (s x : Operand) (t : TypeId)
    (ho : o.op = .call { callee := .builtin .append, args := #[s, x], argTypes := #[t, t] })
    (base : Nat) (e : TypeId) (i : TypeInfo) (z : Value) (size bytes : Nat) (ht : P.underlying t = some (.slice e)) (hi : P.info? e = some i) (hz : i.zero = some z)
    (hsize : i.size = size) (hby : i.bytes = bytes) (hzs : z.cells.size = size) (hsz : 0 < size)
    (v : Value) (n : Nat) (xs : List Value) (hs : a.eval s = v) (hown : w.ownsRow base e size v n xs)
    (ad : Addr) (m c : Nat) (news : List Value) (hx : a.eval x = .slice (some ad) m c) (hl : news.length = m * size) (hnews : ∀ j u, news[j]? = some u → w.cell? (ad.add j) = some u) (h1 : ∀ u ∈ news, u.oneCell' = true)
    (h63 : n + m ≤ maxLen) (hbytes : (n + m) * bytes ≤ 140737488355328) (hbase : base ≤ w.heap.size)
    (h : ∀ v' w', w'.ownsRow base e size v' (n + m) (xs ++ news) → w.grownBy w' v.ownBlock → (v'.ownBlock = v.ownBlock ∨ v'.ownBlock = some w.heap.size) → K (a.put o.dst v') w') : o.wp P a w K Q := by
  obtain ⟨v', w', hr, h2, h3, h4, h5⟩ := run_append_own_at (P := P) w base t o.type e i z size bytes ht hi hz hsize hby hzs hsz v n xs hown ad m c news hl hnews h1 h63 hbytes hbase
  unfold Oper.wp execOp
  simp only [ho, resolve, invoke, builtin, Sem.run_bind, Sem.run_pure, Result.andThen_ok, List.map_toArray, List.map_cons, List.map_nil, hs, hx, hr]
  exact h v' w' h2 h3 h5
theorem wp_buildQ {P : Program} {w : World} {o : Oper} {a : Act} {K : Act → World → Prop} {Q : Exit → Act → World → Prop} (x0 x1 : Operand) (t : TypeId) (ho : o.op = .buildSlice t 2 #[(0, x0), (1, x1)]) (y0 y1 : Value) (h0 : a.eval x0 = y0) (h1 : a.eval x1 = y1) (v : Value) (w' : World)
    (hb : (Instr.buildSlice t 2 #[(0, y0), (1, y1)]).run P w = .ok v w') (h : K (a.put o.dst v) w') : o.wp P a w K Q := by
  unfold Oper.wp execOp
  simp only [ho, Sem.run_bind, Sem.run_pure, Result.andThen_ok, List.map_toArray, List.map_cons, List.map_nil, h0, h1, hb]
  exact h
theorem Mw.grow {w0 w w' : World} {L : List (Nat × List Value)} {row : Option Nat} (h : Mw w0 L w) (hg : w.grownBy w' row) (hr : ∀ k, row = some k → w0.heap.size ≤ k ∧ ∀ p ∈ L, p.1 ≠ k) : Mw w0 L w' := by
  cases row with
  | none => exact h.keep ⟨hg.os, hg.tape, hg.output, hg.size, fun k hk => hg.block k hk (by simp)⟩
  | some g => exact h.kp (Tr.Kp.grown hg) (hr g rfl).1 (hr g rfl).2
theorem own_shapeQ {w : World} {B s n : Nat} {e : TypeId} {v : Value} {xs : List Value} (h : w.ownsRow B e s v n xs) : ∃ (P : Option Addr) (c : Nat), v = .slice P n c := by
  rcases h.2 with ⟨h0, h1⟩ | ⟨g, cap, cur, h1, _⟩
  · exact ⟨none, 0, by rw [h0, h1]⟩
  · exact ⟨_, _, h1⟩
def ze : List Value := [.int .i64 0, .int .i64 0, .int .i64 0, .int .i64 0, .int .i64 0, .int .i64 0, .int .i64 0, .int .i64 0, .int .i64 0, .int .i64 0, .int .i64 0, .int .i64 0, .int .i64 0, .int .i64 0, .int .i64 0, .int .i64 0, .int .i64 0, .int .i64 0, .int .i64 0, .int .i64 0, .int .i64 0, .int .u64 0, .int .u64 0, .int .u64 0, .int .u64 0, .slice none 0 0]
theorem einfoZ : (Tryz.prog.info? 41).map (fun i => (i.zero, i.size, i.bytes)) = some (some (.agg ze.toArray), 26, 224) := by kernel_rfl
theorem einfoP : ∃ i, Tryz.prog.info? 41 = some i ∧ i.zero = some (.agg ze.toArray) ∧ i.size = 26 ∧ i.bytes = 224 := by
  have h := einfoZ
  cases hi : Tryz.prog.info? 41 with
  | none => rw [hi] at h; cases h
  | some i =>
    rw [hi] at h
    simp only [Option.map_some, Option.some.injEq, Prod.mk.injEq] at h
    exact ⟨i, rfl, h.1, h.2.1, h.2.2⟩
theorem cells_newQ (w : World) (cs : List Value) (t : TypeId) : ∀ j u, cs[j]? = some u → (w.alloc (.cells cs.toArray t)).cell? ((⟨w.heap.size, 0, none⟩ : Addr).add j) = some u := cells_newP w cs t

def by10o : Array Oper := #[{ dst := some 48, op := Op.fieldAddr 47 (Operand.tmp 3) 2, type := 0, pos := "law.go:314", after := #[], guard := none },
  { dst := some 49, op := Op.load 44 (Operand.tmp 48), type := 44, pos := "law.go:314", after := #[{ on := 0, ground := Ground.data }], guard := none },
  { dst := some 50, op := Op.fieldAddr 28 (Operand.tmp 1) 4, type := 0, pos := "law.go:314", after := #[], guard := none },
  { dst := some 51, op := Op.load 26 (Operand.tmp 50), type := 26, pos := "law.go:314", after := #[{ on := 2, ground := Ground.data }], guard := none },
  { dst := some 52, op := Op.move (Operand.tmp 5), type := 3, pos := "law.go:314", after := #[], guard := none },
  { dst := some 53, op := Op.indexAddr 26 (Operand.tmp 51) (Operand.tmp 52), type := 0, pos := "law.go:314", after := #[{ on := 3, ground := Ground.data }, { on := 4, ground := Ground.data }], guard := none },
  { dst := some 54, op := Op.load 24 (Operand.tmp 53), type := 24, pos := "law.go:314", after := #[{ on := 5, ground := Ground.data }], guard := none },
  { dst := some 55, op := Op.call { callee := Callee.value (Operand.func 22), args := #[Operand.tmp 54], argTypes := #[23] }, type := 38, pos := "law.go:314", after := #[{ on := 6, ground := Ground.data }], guard := none },
  { dst := some 56, op := Op.call { callee := Callee.value (Operand.func 21), args := #[Operand.tmp 55], argTypes := #[38] }, type := 41, pos := "law.go:314", after := #[{ on := 7, ground := Ground.data }, { on := 7, ground := Ground.chain }], guard := none },
  { dst := some 57, op := Op.fieldAddr 28 (Operand.tmp 1) 5, type := 0, pos := "law.go:314", after := #[], guard := none },
  { dst := some 58, op := Op.load 26 (Operand.tmp 57), type := 26, pos := "law.go:314", after := #[{ on := 9, ground := Ground.data }], guard := none },
  { dst := some 59, op := Op.move (Operand.tmp 5), type := 3, pos := "law.go:314", after := #[], guard := none },
  { dst := some 60, op := Op.indexAddr 26 (Operand.tmp 58) (Operand.tmp 59), type := 0, pos := "law.go:314", after := #[{ on := 10, ground := Ground.data }, { on := 11, ground := Ground.data }], guard := none },
  { dst := some 61, op := Op.load 24 (Operand.tmp 60), type := 24, pos := "law.go:314", after := #[{ on := 12, ground := Ground.data }], guard := none },
  { dst := some 62, op := Op.call { callee := Callee.value (Operand.func 22), args := #[Operand.tmp 61], argTypes := #[23] }, type := 38, pos := "law.go:314", after := #[{ on := 13, ground := Ground.data }, { on := 8, ground := Ground.chain }], guard := none },
  { dst := some 63, op := Op.call { callee := Callee.value (Operand.func 21), args := #[Operand.tmp 62], argTypes := #[38] }, type := 41, pos := "law.go:314", after := #[{ on := 14, ground := Ground.data }, { on := 14, ground := Ground.chain }], guard := none },
  { dst := some 64, op := Op.buildSlice 44 2 #[(0, Operand.tmp 56), (1, Operand.tmp 63)], type := 44, pos := "law.go:314", after := #[{ on := 8, ground := Ground.data }, { on := 15, ground := Ground.data }], guard := none },
  { dst := some 65, op := Op.call { callee := Callee.builtin Builtin.append, args := #[Operand.tmp 49, Operand.tmp 64], argTypes := #[44, 44] }, type := 44, pos := "law.go:314", after := #[{ on := 1, ground := Ground.data }, { on := 16, ground := Ground.data }, { on := 15, ground := Ground.chain }], guard := none },
  { dst := some 66, op := Op.fieldAddr 47 (Operand.tmp 3) 2, type := 0, pos := "law.go:314", after := #[{ on := 0, ground := Ground.phase }, { on := 1, ground := Ground.phase }, { on := 2, ground := Ground.phase }, { on := 3, ground := Ground.phase }, { on := 4, ground := Ground.phase }, { on := 5, ground := Ground.phase }, { on := 6, ground := Ground.phase }, { on := 7, ground := Ground.phase }, { on := 8, ground := Ground.phase }, { on := 9, ground := Ground.phase }, { on := 10, ground := Ground.phase }, { on := 11, ground := Ground.phase }, { on := 12, ground := Ground.phase }, { on := 13, ground := Ground.phase }, { on := 14, ground := Ground.phase }, { on := 15, ground := Ground.phase }, { on := 16, ground := Ground.phase }, { on := 17, ground := Ground.phase }], guard := none },
  { dst := none, op := Op.store 44 (Operand.tmp 66) (Operand.tmp 65), type := 0, pos := "law.go:314", after := #[{ on := 18, ground := Ground.data }, { on := 17, ground := Ground.data }, { on := 17, ground := Ground.chain }, { on := 0, ground := Ground.phase }, { on := 1, ground := Ground.phase }, { on := 2, ground := Ground.phase }, { on := 3, ground := Ground.phase }, { on := 4, ground := Ground.phase }, { on := 5, ground := Ground.phase }, { on := 6, ground := Ground.phase }, { on := 7, ground := Ground.phase }, { on := 8, ground := Ground.phase }, { on := 9, ground := Ground.phase }, { on := 10, ground := Ground.phase }, { on := 11, ground := Ground.phase }, { on := 12, ground := Ground.phase }, { on := 13, ground := Ground.phase }, { on := 14, ground := Ground.phase }, { on := 15, ground := Ground.phase }, { on := 16, ground := Ground.phase }, { on := 17, ground := Ground.phase }], guard := none }]
set_option maxRecDepth 100000 in
set_option maxHeartbeats 32000000 in
theorem by10 (Q : Exit → Act → World → Prop) (T1 T3 B n m mr i sb so cL rb ro cR : Nat) (D P1 xs e1 e2 : List Value) (V : Value) (al ql ar qr : E4) (u0 u2 u4 u6 u7 u8 u9 u10 u11 u12 u13 u14 u15 u16 u17 u18 u19 u20 u21 u22 u23 u24 u25 u26 u27 u28 u29 u30 u31 u32 u33 u34 u35 u36 u37 u38 u39 u40 u41 u42 u43 u44 u45 u46 u47 u48 u49 u50 u51 u52 u53 u54 u55 u56 u57 u58 u59 u60 u61 u62 u63 u64 u65 u66 u67 u68 u69 u70 u71 u72 u73 u74 u75 u76 u77 u78 : Value) (w0 W : World) (hne : T1 ≠ T3) (hD : D.length = 125) (hlr : sg D 116 [V]) (HM : Mw w0 [(T3, D), (T1, P1)] W)
    (hown : W.ownsRow B 41 26 V n xs) (hn : n ≤ 4194304) (hB : B ≤ W.heap.size) (b0 : w0.heap.size ≤ B) (b1 : T1 < B) (b3 : T3 < B) (i0 : (0 : Int) ≤ (i : Int)) (i1 : (i : Int) < (m : Int)) (i2 : (i : Int) < (mr : Int)) (l1 : e1.length = 26) (l2 : e2.length = 26) (o1 : ∀ u ∈ e1, u.oneCell' = true) (o2 : ∀ u ∈ e2, u.oneCell' = true)
    (p28 : P1[28]? = some (.slice (some ⟨sb, so, none⟩) m cL)) (p29 : P1[29]? = some (.slice (some ⟨rb, ro, none⟩) mr cR))
    (hl0 : w0.cell? ⟨sb, so + i * 4, none⟩ = some (.int .u64 al.x0)) (hl1 : w0.cell? ⟨sb, so + i * 4 + 1, none⟩ = some (.int .u64 al.x1)) (hl2 : w0.cell? ⟨sb, so + i * 4 + 2, none⟩ = some (.int .u64 al.x2)) (hl3 : w0.cell? ⟨sb, so + i * 4 + 3, none⟩ = some (.int .u64 al.x3))
    (hr0 : w0.cell? ⟨rb, ro + i * 4, none⟩ = some (.int .u64 ar.x0)) (hr1 : w0.cell? ⟨rb, ro + i * 4 + 1, none⟩ = some (.int .u64 ar.x1)) (hr2 : w0.cell? ⟨rb, ro + i * 4 + 2, none⟩ = some (.int .u64 ar.x2)) (hr3 : w0.cell? ⟨rb, ro + i * 4 + 3, none⟩ = some (.int .u64 ar.x3))
    (C7 : Hid (∀ x, Calls Tryz.prog 22 #[.agg #[.int .u64 al.x0, .int .u64 al.x1, .int .u64 al.x2, .int .u64 al.x3]] x fun e w' => e = .returned (.agg #[.int .u64 ql.x0, .int .u64 ql.x1, .int .u64 ql.x2, .int .u64 ql.x3]) ∧ Below x.heap.size x w')) (C8 : Hid (∀ x, Calls Tryz.prog 21 #[.agg #[.int .u64 ql.x0, .int .u64 ql.x1, .int .u64 ql.x2, .int .u64 ql.x3]] x fun e w' => e = .returned (.agg e1.toArray) ∧ Below x.heap.size x w'))
    (C14 : Hid (∀ x, Calls Tryz.prog 22 #[.agg #[.int .u64 ar.x0, .int .u64 ar.x1, .int .u64 ar.x2, .int .u64 ar.x3]] x fun e w' => e = .returned (.agg #[.int .u64 qr.x0, .int .u64 qr.x1, .int .u64 qr.x2, .int .u64 qr.x3]) ∧ Below x.heap.size x w')) (C15 : Hid (∀ x, Calls Tryz.prog 21 #[.agg #[.int .u64 qr.x0, .int .u64 qr.x1, .int .u64 qr.x2, .int .u64 qr.x3]] x fun e w' => e = .returned (.agg e2.toArray) ∧ Below x.heap.size x w'))
    (HB : Hid (∀ x : World, (Instr.buildSlice 44 2 #[(0, .agg e1.toArray), (1, .agg e2.toArray)]).run Tryz.prog x = .ok (.slice (some ⟨x.heap.size, 0, none⟩) 2 2) (x.alloc (.cells (e1 ++ e2).toArray 41))))
    (HQ : Hid (∀ (xb va : Value) (wz : World), wz.ownsRow B 41 26 va (n + 2) (xs ++ (e1 ++ e2)) → Mw w0 [(T3, pt D 116 [va]), (T1, P1)] wz → Q .normal ⟨#[u0, .pointer (some ⟨T1, 0, none⟩), u2, .pointer (some ⟨T3, 0, none⟩), u4, .int .i64 (i : Int), u6, u7, u8, u9, u10, u11, u12, u13, u14, u15, u16, u17, u18, u19, u20, u21, u22, u23, u24, u25, u26, u27, u28, u29, u30, u31, u32, u33, u34, u35, u36, u37, u38, u39, u40, u41, u42, u43, u44, u45, u46, u47, .pointer (some ⟨T3, 116, none⟩), V, .pointer (some ⟨T1, 28, none⟩), .slice (some ⟨sb, so, none⟩) m cL, .int .i64 (i : Int), .pointer (some ⟨sb, so + i * 4, none⟩), .agg #[.int .u64 al.x0, .int .u64 al.x1, .int .u64 al.x2, .int .u64 al.x3], .agg #[.int .u64 ql.x0, .int .u64 ql.x1, .int .u64 ql.x2, .int .u64 ql.x3], .agg e1.toArray, .pointer (some ⟨T1, 29, none⟩), .slice (some ⟨rb, ro, none⟩) mr cR, .int .i64 (i : Int), .pointer (some ⟨rb, ro + i * 4, none⟩), .agg #[.int .u64 ar.x0, .int .u64 ar.x1, .int .u64 ar.x2, .int .u64 ar.x3], .agg #[.int .u64 qr.x0, .int .u64 qr.x1, .int .u64 qr.x2, .int .u64 qr.x3], .agg e2.toArray, xb, va, .pointer (some ⟨T3, 116, none⟩), u67, u68, u69, u70, u71, u72, u73, u74, u75, u76, u77, u78], []⟩ wz)) : (Code.region 10 by10o true).wp Tryz.prog Q ⟨#[u0, .pointer (some ⟨T1, 0, none⟩), u2, .pointer (some ⟨T3, 0, none⟩), u4, .int .i64 (i : Int), u6, u7, u8, u9, u10, u11, u12, u13, u14, u15, u16, u17, u18, u19, u20, u21, u22, u23, u24, u25, u26, u27, u28, u29, u30, u31, u32, u33, u34, u35, u36, u37, u38, u39, u40, u41, u42, u43, u44, u45, u46, u47, u48, u49, u50, u51, u52, u53, u54, u55, u56, u57, u58, u59, u60, u61, u62, u63, u64, u65, u66, u67, u68, u69, u70, u71, u72, u73, u74, u75, u76, u77, u78], []⟩ W := by
  have HU : Hid (Tryz.prog.underlying 44 = some (.slice 41)) := hidden (by kernel_rfl)
  obtain ⟨ei, hi, hz0, hz1, hz2⟩ := einfoP
  have HI := hidden hi
  have HZ0 := hidden hz0
  have HZ1 := hidden hz1
  have HZ2 := hidden hz2
  have M0 := hidden (HM.keep (Tr.drew_blW W))
  have OW := hidden (own_keepQ hown (Tr.drew_blW W))
  have HS : Hid (n ≤ 4194304 ∧ B ≤ W.heap.size ∧ w0.heap.size ≤ B ∧ T1 < B ∧ T3 < B ∧ T1 ≠ T3 ∧ D.length = 125) := hidden ⟨hn, hB, b0, b1, b3, hne, hD⟩
  have SZ := hidden (show B ≤ W.drew.heap.size from hB)
  have LR := hidden hlr
  have LN : Hid ((e1 ++ e2).length = 2 * 26) := hidden (by rw [List.length_append, l1, l2])
  have ON : Hid (∀ u ∈ e1 ++ e2, u.oneCell' = true) := hidden (fun u hu => (List.mem_append.1 hu).elim (o1 u) (o2 u))
  have CELL : Hid (∀ x, Mw w0 [(T3, D), (T1, P1)] x → x.cell? ⟨T3, 116, none⟩ = some V ∧ x.frozen? ⟨T3, 116, none⟩ = false) := hidden (fun x h => by
    obtain ⟨r, t, _, _⟩ := h.r (T3, D) (by simp)
    have a := sg_range r hlr 0 V rfl
    have b := (t 116 (by simp only; omega)).2
    rw [Nat.zero_add] at b
    exact ⟨a, b⟩)
  clear HM hown hn hB b0 b1 b3 hne hD hlr hi hz0 hz1 hz2 l1 l2 o1 o2
  unfold by10o
  refine wp_region_noPanic ?_
  refine wp_region_held_drew (S := fun x => Mw w0 [(T1, P1)] x) (by kernel_rfl) (M0.out.sub (by simp)) (fun hHeld => ?_)
  refine wpAnyH_take (i := 0) (oi := { dst := some 48, op := Op.fieldAddr 47 (Operand.tmp 3) 2, type := 0, pos := "law.go:314", after := #[], guard := none }) (v := .pointer (some ⟨T3, 116, none⟩)) rfl (by kernel_rfl) (by kernel_rfl) (by kernel_rfl) (fun _ _ _ h => h) (Or.inl ⟨by rfl, fun w0 hSw => ?_⟩) hHeld ?_
  · (clear hSw; go_simp)
  simp only [Act.put, List.setIfInBounds_toArray, List.set_cons_zero, List.set_cons_succ]
  refine wpAnyH_take (i := 2) (oi := { dst := some 50, op := Op.fieldAddr 28 (Operand.tmp 1) 4, type := 0, pos := "law.go:314", after := #[], guard := none }) (v := .pointer (some ⟨T1, 28, none⟩)) rfl (by kernel_rfl) (by kernel_rfl) (by kernel_rfl) (fun _ _ _ h => h) (Or.inl ⟨by rfl, fun w0 hSw => ?_⟩) hHeld ?_
  · (clear hSw; go_simp)
  simp only [Act.put, List.setIfInBounds_toArray, List.set_cons_zero, List.set_cons_succ]
  refine wpAnyH_take (i := 3) (oi := { dst := some 51, op := Op.load 26 (Operand.tmp 50), type := 26, pos := "law.go:314", after := #[{ on := 2, ground := Ground.data }], guard := none }) (v := .slice (some ⟨sb, so, none⟩) m cL) rfl (by kernel_rfl) (by kernel_rfl) (by kernel_rfl) (fun _ _ _ h => h) (Or.inl ⟨by rfl, fun w0 hSw => ?_⟩) hHeld ?_
  · (have hr := (hSw.r (T1, P1) (by simp)).1; have a0 := hr 28 _ p28; simp only [Nat.zero_add] at a0; clear hr hSw; go_simp)
  simp only [Act.put, List.setIfInBounds_toArray, List.set_cons_zero, List.set_cons_succ]
  refine wpAnyH_take (i := 4) (oi := { dst := some 52, op := Op.move (Operand.tmp 5), type := 3, pos := "law.go:314", after := #[], guard := none }) (v := .int .i64 (i : Int)) rfl (by kernel_rfl) (by kernel_rfl) (by kernel_rfl) (fun _ _ _ h => h) (Or.inl ⟨by rfl, fun w0 hSw => ?_⟩) hHeld ?_
  · (clear hSw; go_simp)
  simp only [Act.put, List.setIfInBounds_toArray, List.set_cons_zero, List.set_cons_succ]
  refine wpAnyH_take (i := 5) (oi := { dst := some 53, op := Op.indexAddr 26 (Operand.tmp 51) (Operand.tmp 52), type := 0, pos := "law.go:314", after := #[{ on := 3, ground := Ground.data }, { on := 4, ground := Ground.data }], guard := none }) (v := .pointer (some ⟨sb, so + i * 4, none⟩)) rfl (by kernel_rfl) (by kernel_rfl) (by kernel_rfl) (fun _ _ _ h => h) (Or.inl ⟨by rfl, fun w0 hSw => ?_⟩) hHeld ?_
  · (clear hSw; go_simp)
  simp only [Act.put, List.setIfInBounds_toArray, List.set_cons_zero, List.set_cons_succ]
  refine wpAnyH_take (i := 6) (oi := { dst := some 54, op := Op.load 24 (Operand.tmp 53), type := 24, pos := "law.go:314", after := #[{ on := 5, ground := Ground.data }], guard := none }) (v := .agg #[.int .u64 al.x0, .int .u64 al.x1, .int .u64 al.x2, .int .u64 al.x3]) rfl (by kernel_rfl) (by kernel_rfl) (by kernel_rfl) (fun _ _ _ h => h) (Or.inl ⟨by rfl, fun w0 hSw => ?_⟩) hHeld ?_
  · (have a0 := cell_keep hl0 hSw.bel; have a1 := cell_keep hl1 hSw.bel; have a2 := cell_keep hl2 hSw.bel; have a3 := cell_keep hl3 hSw.bel; clear hSw; go_simp)
  simp only [Act.put, List.setIfInBounds_toArray, List.set_cons_zero, List.set_cons_succ]
  refine wpAnyH_take (i := 9) (oi := { dst := some 57, op := Op.fieldAddr 28 (Operand.tmp 1) 5, type := 0, pos := "law.go:314", after := #[], guard := none }) (v := .pointer (some ⟨T1, 29, none⟩)) rfl (by kernel_rfl) (by kernel_rfl) (by kernel_rfl) (fun _ _ _ h => h) (Or.inl ⟨by rfl, fun w0 hSw => ?_⟩) hHeld ?_
  · (clear hSw; go_simp)
  simp only [Act.put, List.setIfInBounds_toArray, List.set_cons_zero, List.set_cons_succ]
  refine wpAnyH_take (i := 10) (oi := { dst := some 58, op := Op.load 26 (Operand.tmp 57), type := 26, pos := "law.go:314", after := #[{ on := 9, ground := Ground.data }], guard := none }) (v := .slice (some ⟨rb, ro, none⟩) mr cR) rfl (by kernel_rfl) (by kernel_rfl) (by kernel_rfl) (fun _ _ _ h => h) (Or.inl ⟨by rfl, fun w0 hSw => ?_⟩) hHeld ?_
  · (have hr := (hSw.r (T1, P1) (by simp)).1; have a0 := hr 29 _ p29; simp only [Nat.zero_add] at a0; clear hr hSw; go_simp)
  simp only [Act.put, List.setIfInBounds_toArray, List.set_cons_zero, List.set_cons_succ]
  refine wpAnyH_take (i := 11) (oi := { dst := some 59, op := Op.move (Operand.tmp 5), type := 3, pos := "law.go:314", after := #[], guard := none }) (v := .int .i64 (i : Int)) rfl (by kernel_rfl) (by kernel_rfl) (by kernel_rfl) (fun _ _ _ h => h) (Or.inl ⟨by rfl, fun w0 hSw => ?_⟩) hHeld ?_
  · (clear hSw; go_simp)
  simp only [Act.put, List.setIfInBounds_toArray, List.set_cons_zero, List.set_cons_succ]
  refine wpAnyH_take (i := 12) (oi := { dst := some 60, op := Op.indexAddr 26 (Operand.tmp 58) (Operand.tmp 59), type := 0, pos := "law.go:314", after := #[{ on := 10, ground := Ground.data }, { on := 11, ground := Ground.data }], guard := none }) (v := .pointer (some ⟨rb, ro + i * 4, none⟩)) rfl (by kernel_rfl) (by kernel_rfl) (by kernel_rfl) (fun _ _ _ h => h) (Or.inl ⟨by rfl, fun w0 hSw => ?_⟩) hHeld ?_
  · (clear hSw; go_simp)
  simp only [Act.put, List.setIfInBounds_toArray, List.set_cons_zero, List.set_cons_succ]
  refine wpAnyH_take (i := 13) (oi := { dst := some 61, op := Op.load 24 (Operand.tmp 60), type := 24, pos := "law.go:314", after := #[{ on := 12, ground := Ground.data }], guard := none }) (v := .agg #[.int .u64 ar.x0, .int .u64 ar.x1, .int .u64 ar.x2, .int .u64 ar.x3]) rfl (by kernel_rfl) (by kernel_rfl) (by kernel_rfl) (fun _ _ _ h => h) (Or.inl ⟨by rfl, fun w0 hSw => ?_⟩) hHeld ?_
  · (have a0 := cell_keep hr0 hSw.bel; have a1 := cell_keep hr1 hSw.bel; have a2 := cell_keep hr2 hSw.bel; have a3 := cell_keep hr3 hSw.bel; clear hSw; go_simp)
  simp only [Act.put, List.setIfInBounds_toArray, List.set_cons_zero, List.set_cons_succ]
  refine wpAnyH_ready (rs := [1, 7]) (by kernel_rfl) (by simp) ?_
  refine AllReadyH.cons (o := { dst := some 49, op := Op.load 44 (Operand.tmp 48), type := 44, pos := "law.go:314", after := #[{ on := 0, ground := Ground.data }], guard := none }) rfl (fun K hK => ?_) ?_
  ·
    have y0 := (CELL.out _ M0.out).1
    clear hHeld
    go_simp
    refine hK.out _ _ (M0.out.sub (by simp)) (fun hH1 => ?_)
    clear hK K y0
    refine wpAnyH_ready (rs := [7]) (by kernel_rfl) (by simp) ?_
    refine AllReadyH.cons (o := { dst := some 55, op := Op.call { callee := Callee.value (Operand.func 22), args := #[Operand.tmp 54], argTypes := #[23] }, type := 38, pos := "law.go:314", after := #[{ on := 6, ground := Ground.data }], guard := none }) rfl (fun K hK => ?_) AllReadyH.nil
    clear hH1
    go_simp
    refine (C7.out _).mono ?_
    rintro e wn2 ⟨rfl, hb⟩
    replace M0 := hidden (M0.out.keep hb)
    replace OW := hidden (own_keepQ OW.out hb)
    replace SZ := hidden (Nat.le_trans SZ.out hb.size)
    clear hb
    go_wp2_with fail
    refine hK.out _ _ (M0.out.sub (by simp)) (fun hH3 => ?_)
    clear hK K
    refine wpAnyH_ready (rs := [8]) (by kernel_rfl) (by simp) ?_
    refine AllReadyH.cons (o := { dst := some 56, op := Op.call { callee := Callee.value (Operand.func 21), args := #[Operand.tmp 55], argTypes := #[38] }, type := 41, pos := "law.go:314", after := #[{ on := 7, ground := Ground.data }, { on := 7, ground := Ground.chain }], guard := none }) rfl (fun K hK => ?_) AllReadyH.nil
    clear hH3
    go_simp
    refine (C8.out _).mono ?_
    rintro e wn4 ⟨rfl, hb⟩
    replace M0 := hidden (M0.out.keep hb)
    replace OW := hidden (own_keepQ OW.out hb)
    replace SZ := hidden (Nat.le_trans SZ.out hb.size)
    clear hb
    go_wp2_with fail
    refine hK.out _ _ (M0.out.sub (by simp)) (fun hH5 => ?_)
    clear hK K
    refine wpAnyH_ready (rs := [14]) (by kernel_rfl) (by simp) ?_
    refine AllReadyH.cons (o := { dst := some 62, op := Op.call { callee := Callee.value (Operand.func 22), args := #[Operand.tmp 61], argTypes := #[23] }, type := 38, pos := "law.go:314", after := #[{ on := 13, ground := Ground.data }, { on := 8, ground := Ground.chain }], guard := none }) rfl (fun K hK => ?_) AllReadyH.nil
    clear hH5
    go_simp
    refine (C14.out _).mono ?_
    rintro e wn6 ⟨rfl, hb⟩
    replace M0 := hidden (M0.out.keep hb)
    replace OW := hidden (own_keepQ OW.out hb)
    replace SZ := hidden (Nat.le_trans SZ.out hb.size)
    clear hb
    go_wp2_with fail
    refine hK.out _ _ (M0.out.sub (by simp)) (fun hH7 => ?_)
    clear hK K
    refine wpAnyH_ready (rs := [15]) (by kernel_rfl) (by simp) ?_
    refine AllReadyH.cons (o := { dst := some 63, op := Op.call { callee := Callee.value (Operand.func 21), args := #[Operand.tmp 62], argTypes := #[38] }, type := 41, pos := "law.go:314", after := #[{ on := 14, ground := Ground.data }, { on := 14, ground := Ground.chain }], guard := none }) rfl (fun K hK => ?_) AllReadyH.nil
    clear hH7
    go_simp
    refine (C15.out _).mono ?_
    rintro e wn8 ⟨rfl, hb⟩
    replace M0 := hidden (M0.out.keep hb)
    replace OW := hidden (own_keepQ OW.out hb)
    replace SZ := hidden (Nat.le_trans SZ.out hb.size)
    clear hb
    go_wp2_with fail
    refine hK.out _ _ (M0.out.sub (by simp)) (fun hH9 => ?_)
    clear hK K
    refine wpAnyH_ready (rs := [16]) (by kernel_rfl) (by simp) ?_
    refine AllReadyH.cons (o := { dst := some 64, op := Op.buildSlice 44 2 #[(0, Operand.tmp 56), (1, Operand.tmp 63)], type := 44, pos := "law.go:314", after := #[{ on := 8, ground := Ground.data }, { on := 15, ground := Ground.data }], guard := none }) rfl (fun K hK => ?_) AllReadyH.nil
    clear hH9
    refine wp_buildQ (.tmp 56) (.tmp 63) 44 rfl (.agg e1.toArray) (.agg e2.toArray) rfl rfl _ _ (HB.out _) ?_
    have hb := bl_alloc wn8 (.cells (e1 ++ e2).toArray 41)
    have CN := hidden (cells_newQ wn8 (e1 ++ e2) 41)
    replace M0 := hidden (M0.out.keep hb)
    replace OW := hidden (own_keepQ OW.out hb)
    replace SZ := hidden (Nat.le_trans SZ.out hb.size)
    clear hb
    refine hK.out _ _ (M0.out.sub (by simp)) (fun hH10 => ?_)
    clear hK K
    simp only [Act.put, List.setIfInBounds_toArray, List.set_cons_zero, List.set_cons_succ]
    refine wpAnyH_ready (rs := [17]) (by kernel_rfl) (by simp) ?_
    refine AllReadyH.cons (o := { dst := some 65, op := Op.call { callee := Callee.builtin Builtin.append, args := #[Operand.tmp 49, Operand.tmp 64], argTypes := #[44, 44] }, type := 44, pos := "law.go:314", after := #[{ on := 1, ground := Ground.data }, { on := 16, ground := Ground.data }, { on := 15, ground := Ground.chain }], guard := none }) rfl (fun K hK => ?_) AllReadyH.nil
    clear hH10
    refine wp_appendQ (.tmp 49) (.tmp 64) 44 rfl B 41 ei (.agg ze.toArray) 26 224 HU.out HI.out HZ0.out HZ1.out HZ2.out rfl (by decide) V n xs rfl OW.out ⟨wn8.heap.size, 0, none⟩ 2 2 (e1 ++ e2) rfl LN.out CN.out ON.out (by have := HS.out.1; unfold maxLen; omega) (by have := HS.out.1; omega) SZ.out ?_
    intro va wa hoa hga _
    have MA := hidden (M0.out.grow hga (fun k hk => by have h1 := (OW.out.lt k hk).1; have h2 := HS.out; exact ⟨by omega, fun p hp => by simp only [List.mem_cons, List.not_mem_nil, or_false] at hp; rcases hp with rfl | rfl <;> (simp only; omega)⟩))
    obtain ⟨pv, cv, hva⟩ := own_shapeQ hoa
    subst hva
    have OA := hidden hoa
    clear hoa hga OW M0 CN SZ
    refine hK.out _ _ (MA.out.sub (by simp)) (fun hH11 => ?_)
    clear hK K
    simp only [Act.put, List.setIfInBounds_toArray, List.set_cons_zero, List.set_cons_succ]
    refine wpAnyH_take (i := 18) (oi := { dst := some 66, op := Op.fieldAddr 47 (Operand.tmp 3) 2, type := 0, pos := "law.go:314", after := #[{ on := 0, ground := Ground.phase }, { on := 1, ground := Ground.phase }, { on := 2, ground := Ground.phase }, { on := 3, ground := Ground.phase }, { on := 4, ground := Ground.phase }, { on := 5, ground := Ground.phase }, { on := 6, ground := Ground.phase }, { on := 7, ground := Ground.phase }, { on := 8, ground := Ground.phase }, { on := 9, ground := Ground.phase }, { on := 10, ground := Ground.phase }, { on := 11, ground := Ground.phase }, { on := 12, ground := Ground.phase }, { on := 13, ground := Ground.phase }, { on := 14, ground := Ground.phase }, { on := 15, ground := Ground.phase }, { on := 16, ground := Ground.phase }, { on := 17, ground := Ground.phase }], guard := none }) (v := .pointer (some ⟨T3, 116, none⟩)) rfl (by kernel_rfl) (by kernel_rfl) (by kernel_rfl) (fun _ _ _ h => h) (Or.inl ⟨by rfl, fun w0 hSw => ?_⟩) hH11 ?_
    · (clear hSw; go_simp)
    simp only [Act.put, List.setIfInBounds_toArray, List.set_cons_zero, List.set_cons_succ]
    refine wpAnyH_ready (rs := [19]) (by kernel_rfl) (by simp) ?_
    refine AllReadyH.cons (o := { dst := none, op := Op.store 44 (Operand.tmp 66) (Operand.tmp 65), type := 0, pos := "law.go:314", after := #[{ on := 18, ground := Ground.data }, { on := 17, ground := Ground.data }, { on := 17, ground := Ground.chain }, { on := 0, ground := Ground.phase }, { on := 1, ground := Ground.phase }, { on := 2, ground := Ground.phase }, { on := 3, ground := Ground.phase }, { on := 4, ground := Ground.phase }, { on := 5, ground := Ground.phase }, { on := 6, ground := Ground.phase }, { on := 7, ground := Ground.phase }, { on := 8, ground := Ground.phase }, { on := 9, ground := Ground.phase }, { on := 10, ground := Ground.phase }, { on := 11, ground := Ground.phase }, { on := 12, ground := Ground.phase }, { on := 13, ground := Ground.phase }, { on := 14, ground := Ground.phase }, { on := 15, ground := Ground.phase }, { on := 16, ground := Ground.phase }, { on := 17, ground := Ground.phase }], guard := none }) rfl (fun K hK => ?_) AllReadyH.nil
    clear hH11
    have y0 := (CELL.out _ MA.out).1
    have f0 := (CELL.out _ MA.out).2
    have MB := hidden (MA.out.pt 116 [.slice pv (n + 2) cv] (by rw [HS.out.2.2.2.2.2.2]; simp) HS.out.2.2.2.2.2.1).1
    have OB := hidden ((kp_setCells T3 [.slice pv (n + 2) cv] 116 wa).own OA.out (fun e => by have h1 := (OA.out.lt T3 e).1; have h2 := HS.out; omega))
    simp only [World.setCells] at MB OB
    go_simp
    refine hK.out _ _ (MB.out.sub (by simp)) (fun hH12 => ?_)
    clear hK K
    refine wpAnyH_done (by kernel_rfl) ?_ _
    refine NoPanic.normal ?_
    exact HQ.out _ _ _ OB.out MB.out
  refine AllReadyH.cons (o := { dst := some 55, op := Op.call { callee := Callee.value (Operand.func 22), args := #[Operand.tmp 54], argTypes := #[23] }, type := 38, pos := "law.go:314", after := #[{ on := 6, ground := Ground.data }], guard := none }) rfl (fun K hK => ?_) AllReadyH.nil
  clear hHeld
  go_simp
  refine (C7.out _).mono ?_
  rintro e wn13 ⟨rfl, hb⟩
  replace M0 := hidden (M0.out.keep hb)
  replace OW := hidden (own_keepQ OW.out hb)
  replace SZ := hidden (Nat.le_trans SZ.out hb.size)
  clear hb
  go_wp2_with fail
  refine hK.out _ _ (M0.out.sub (by simp)) (fun hH14 => ?_)
  clear hK K
  refine wpAnyH_ready (rs := [1, 8]) (by kernel_rfl) (by simp) ?_
  refine AllReadyH.cons (o := { dst := some 49, op := Op.load 44 (Operand.tmp 48), type := 44, pos := "law.go:314", after := #[{ on := 0, ground := Ground.data }], guard := none }) rfl (fun K hK => ?_) ?_
  ·
    have y0 := (CELL.out _ M0.out).1
    clear hH14
    go_simp
    refine hK.out _ _ (M0.out.sub (by simp)) (fun hH15 => ?_)
    clear hK K y0
    refine wpAnyH_ready (rs := [8]) (by kernel_rfl) (by simp) ?_
    refine AllReadyH.cons (o := { dst := some 56, op := Op.call { callee := Callee.value (Operand.func 21), args := #[Operand.tmp 55], argTypes := #[38] }, type := 41, pos := "law.go:314", after := #[{ on := 7, ground := Ground.data }, { on := 7, ground := Ground.chain }], guard := none }) rfl (fun K hK => ?_) AllReadyH.nil
    clear hH15
    go_simp
    refine (C8.out _).mono ?_
    rintro e wn16 ⟨rfl, hb⟩
    replace M0 := hidden (M0.out.keep hb)
    replace OW := hidden (own_keepQ OW.out hb)
    replace SZ := hidden (Nat.le_trans SZ.out hb.size)
    clear hb
    go_wp2_with fail
    refine hK.out _ _ (M0.out.sub (by simp)) (fun hH17 => ?_)
    clear hK K
    refine wpAnyH_ready (rs := [14]) (by kernel_rfl) (by simp) ?_
    refine AllReadyH.cons (o := { dst := some 62, op := Op.call { callee := Callee.value (Operand.func 22), args := #[Operand.tmp 61], argTypes := #[23] }, type := 38, pos := "law.go:314", after := #[{ on := 13, ground := Ground.data }, { on := 8, ground := Ground.chain }], guard := none }) rfl (fun K hK => ?_) AllReadyH.nil
    clear hH17
    go_simp
    refine (C14.out _).mono ?_
    rintro e wn18 ⟨rfl, hb⟩
    replace M0 := hidden (M0.out.keep hb)
    replace OW := hidden (own_keepQ OW.out hb)
    replace SZ := hidden (Nat.le_trans SZ.out hb.size)
    clear hb
    go_wp2_with fail
    refine hK.out _ _ (M0.out.sub (by simp)) (fun hH19 => ?_)
    clear hK K
    refine wpAnyH_ready (rs := [15]) (by kernel_rfl) (by simp) ?_
    refine AllReadyH.cons (o := { dst := some 63, op := Op.call { callee := Callee.value (Operand.func 21), args := #[Operand.tmp 62], argTypes := #[38] }, type := 41, pos := "law.go:314", after := #[{ on := 14, ground := Ground.data }, { on := 14, ground := Ground.chain }], guard := none }) rfl (fun K hK => ?_) AllReadyH.nil
    clear hH19
    go_simp
    refine (C15.out _).mono ?_
    rintro e wn20 ⟨rfl, hb⟩
    replace M0 := hidden (M0.out.keep hb)
    replace OW := hidden (own_keepQ OW.out hb)
    replace SZ := hidden (Nat.le_trans SZ.out hb.size)
    clear hb
    go_wp2_with fail
    refine hK.out _ _ (M0.out.sub (by simp)) (fun hH21 => ?_)
    clear hK K
    refine wpAnyH_ready (rs := [16]) (by kernel_rfl) (by simp) ?_
    refine AllReadyH.cons (o := { dst := some 64, op := Op.buildSlice 44 2 #[(0, Operand.tmp 56), (1, Operand.tmp 63)], type := 44, pos := "law.go:314", after := #[{ on := 8, ground := Ground.data }, { on := 15, ground := Ground.data }], guard := none }) rfl (fun K hK => ?_) AllReadyH.nil
    clear hH21
    refine wp_buildQ (.tmp 56) (.tmp 63) 44 rfl (.agg e1.toArray) (.agg e2.toArray) rfl rfl _ _ (HB.out _) ?_
    have hb := bl_alloc wn20 (.cells (e1 ++ e2).toArray 41)
    have CN := hidden (cells_newQ wn20 (e1 ++ e2) 41)
    replace M0 := hidden (M0.out.keep hb)
    replace OW := hidden (own_keepQ OW.out hb)
    replace SZ := hidden (Nat.le_trans SZ.out hb.size)
    clear hb
    refine hK.out _ _ (M0.out.sub (by simp)) (fun hH22 => ?_)
    clear hK K
    simp only [Act.put, List.setIfInBounds_toArray, List.set_cons_zero, List.set_cons_succ]
    refine wpAnyH_ready (rs := [17]) (by kernel_rfl) (by simp) ?_
    refine AllReadyH.cons (o := { dst := some 65, op := Op.call { callee := Callee.builtin Builtin.append, args := #[Operand.tmp 49, Operand.tmp 64], argTypes := #[44, 44] }, type := 44, pos := "law.go:314", after := #[{ on := 1, ground := Ground.data }, { on := 16, ground := Ground.data }, { on := 15, ground := Ground.chain }], guard := none }) rfl (fun K hK => ?_) AllReadyH.nil
    clear hH22
    refine wp_appendQ (.tmp 49) (.tmp 64) 44 rfl B 41 ei (.agg ze.toArray) 26 224 HU.out HI.out HZ0.out HZ1.out HZ2.out rfl (by decide) V n xs rfl OW.out ⟨wn20.heap.size, 0, none⟩ 2 2 (e1 ++ e2) rfl LN.out CN.out ON.out (by have := HS.out.1; unfold maxLen; omega) (by have := HS.out.1; omega) SZ.out ?_
    intro va wa hoa hga _
    have MA := hidden (M0.out.grow hga (fun k hk => by have h1 := (OW.out.lt k hk).1; have h2 := HS.out; exact ⟨by omega, fun p hp => by simp only [List.mem_cons, List.not_mem_nil, or_false] at hp; rcases hp with rfl | rfl <;> (simp only; omega)⟩))
    obtain ⟨pv, cv, hva⟩ := own_shapeQ hoa
    subst hva
    have OA := hidden hoa
    clear hoa hga OW M0 CN SZ
    refine hK.out _ _ (MA.out.sub (by simp)) (fun hH23 => ?_)
    clear hK K
    simp only [Act.put, List.setIfInBounds_toArray, List.set_cons_zero, List.set_cons_succ]
    refine wpAnyH_take (i := 18) (oi := { dst := some 66, op := Op.fieldAddr 47 (Operand.tmp 3) 2, type := 0, pos := "law.go:314", after := #[{ on := 0, ground := Ground.phase }, { on := 1, ground := Ground.phase }, { on := 2, ground := Ground.phase }, { on := 3, ground := Ground.phase }, { on := 4, ground := Ground.phase }, { on := 5, ground := Ground.phase }, { on := 6, ground := Ground.phase }, { on := 7, ground := Ground.phase }, { on := 8, ground := Ground.phase }, { on := 9, ground := Ground.phase }, { on := 10, ground := Ground.phase }, { on := 11, ground := Ground.phase }, { on := 12, ground := Ground.phase }, { on := 13, ground := Ground.phase }, { on := 14, ground := Ground.phase }, { on := 15, ground := Ground.phase }, { on := 16, ground := Ground.phase }, { on := 17, ground := Ground.phase }], guard := none }) (v := .pointer (some ⟨T3, 116, none⟩)) rfl (by kernel_rfl) (by kernel_rfl) (by kernel_rfl) (fun _ _ _ h => h) (Or.inl ⟨by rfl, fun w0 hSw => ?_⟩) hH23 ?_
    · (clear hSw; go_simp)
    simp only [Act.put, List.setIfInBounds_toArray, List.set_cons_zero, List.set_cons_succ]
    refine wpAnyH_ready (rs := [19]) (by kernel_rfl) (by simp) ?_
    refine AllReadyH.cons (o := { dst := none, op := Op.store 44 (Operand.tmp 66) (Operand.tmp 65), type := 0, pos := "law.go:314", after := #[{ on := 18, ground := Ground.data }, { on := 17, ground := Ground.data }, { on := 17, ground := Ground.chain }, { on := 0, ground := Ground.phase }, { on := 1, ground := Ground.phase }, { on := 2, ground := Ground.phase }, { on := 3, ground := Ground.phase }, { on := 4, ground := Ground.phase }, { on := 5, ground := Ground.phase }, { on := 6, ground := Ground.phase }, { on := 7, ground := Ground.phase }, { on := 8, ground := Ground.phase }, { on := 9, ground := Ground.phase }, { on := 10, ground := Ground.phase }, { on := 11, ground := Ground.phase }, { on := 12, ground := Ground.phase }, { on := 13, ground := Ground.phase }, { on := 14, ground := Ground.phase }, { on := 15, ground := Ground.phase }, { on := 16, ground := Ground.phase }, { on := 17, ground := Ground.phase }], guard := none }) rfl (fun K hK => ?_) AllReadyH.nil
    clear hH23
    have y0 := (CELL.out _ MA.out).1
    have f0 := (CELL.out _ MA.out).2
    have MB := hidden (MA.out.pt 116 [.slice pv (n + 2) cv] (by rw [HS.out.2.2.2.2.2.2]; simp) HS.out.2.2.2.2.2.1).1
    have OB := hidden ((kp_setCells T3 [.slice pv (n + 2) cv] 116 wa).own OA.out (fun e => by have h1 := (OA.out.lt T3 e).1; have h2 := HS.out; omega))
    simp only [World.setCells] at MB OB
    go_simp
    refine hK.out _ _ (MB.out.sub (by simp)) (fun hH24 => ?_)
    clear hK K
    refine wpAnyH_done (by kernel_rfl) ?_ _
    refine NoPanic.normal ?_
    exact HQ.out _ _ _ OB.out MB.out
  refine AllReadyH.cons (o := { dst := some 56, op := Op.call { callee := Callee.value (Operand.func 21), args := #[Operand.tmp 55], argTypes := #[38] }, type := 41, pos := "law.go:314", after := #[{ on := 7, ground := Ground.data }, { on := 7, ground := Ground.chain }], guard := none }) rfl (fun K hK => ?_) AllReadyH.nil
  clear hH14
  go_simp
  refine (C8.out _).mono ?_
  rintro e wn25 ⟨rfl, hb⟩
  replace M0 := hidden (M0.out.keep hb)
  replace OW := hidden (own_keepQ OW.out hb)
  replace SZ := hidden (Nat.le_trans SZ.out hb.size)
  clear hb
  go_wp2_with fail
  refine hK.out _ _ (M0.out.sub (by simp)) (fun hH26 => ?_)
  clear hK K
  refine wpAnyH_ready (rs := [1, 14]) (by kernel_rfl) (by simp) ?_
  refine AllReadyH.cons (o := { dst := some 49, op := Op.load 44 (Operand.tmp 48), type := 44, pos := "law.go:314", after := #[{ on := 0, ground := Ground.data }], guard := none }) rfl (fun K hK => ?_) ?_
  ·
    have y0 := (CELL.out _ M0.out).1
    clear hH26
    go_simp
    refine hK.out _ _ (M0.out.sub (by simp)) (fun hH27 => ?_)
    clear hK K y0
    refine wpAnyH_ready (rs := [14]) (by kernel_rfl) (by simp) ?_
    refine AllReadyH.cons (o := { dst := some 62, op := Op.call { callee := Callee.value (Operand.func 22), args := #[Operand.tmp 61], argTypes := #[23] }, type := 38, pos := "law.go:314", after := #[{ on := 13, ground := Ground.data }, { on := 8, ground := Ground.chain }], guard := none }) rfl (fun K hK => ?_) AllReadyH.nil
    clear hH27
    go_simp
    refine (C14.out _).mono ?_
    rintro e wn28 ⟨rfl, hb⟩
    replace M0 := hidden (M0.out.keep hb)
    replace OW := hidden (own_keepQ OW.out hb)
    replace SZ := hidden (Nat.le_trans SZ.out hb.size)
    clear hb
    go_wp2_with fail
    refine hK.out _ _ (M0.out.sub (by simp)) (fun hH29 => ?_)
    clear hK K
    refine wpAnyH_ready (rs := [15]) (by kernel_rfl) (by simp) ?_
    refine AllReadyH.cons (o := { dst := some 63, op := Op.call { callee := Callee.value (Operand.func 21), args := #[Operand.tmp 62], argTypes := #[38] }, type := 41, pos := "law.go:314", after := #[{ on := 14, ground := Ground.data }, { on := 14, ground := Ground.chain }], guard := none }) rfl (fun K hK => ?_) AllReadyH.nil
    clear hH29
    go_simp
    refine (C15.out _).mono ?_
    rintro e wn30 ⟨rfl, hb⟩
    replace M0 := hidden (M0.out.keep hb)
    replace OW := hidden (own_keepQ OW.out hb)
    replace SZ := hidden (Nat.le_trans SZ.out hb.size)
    clear hb
    go_wp2_with fail
    refine hK.out _ _ (M0.out.sub (by simp)) (fun hH31 => ?_)
    clear hK K
    refine wpAnyH_ready (rs := [16]) (by kernel_rfl) (by simp) ?_
    refine AllReadyH.cons (o := { dst := some 64, op := Op.buildSlice 44 2 #[(0, Operand.tmp 56), (1, Operand.tmp 63)], type := 44, pos := "law.go:314", after := #[{ on := 8, ground := Ground.data }, { on := 15, ground := Ground.data }], guard := none }) rfl (fun K hK => ?_) AllReadyH.nil
    clear hH31
    refine wp_buildQ (.tmp 56) (.tmp 63) 44 rfl (.agg e1.toArray) (.agg e2.toArray) rfl rfl _ _ (HB.out _) ?_
    have hb := bl_alloc wn30 (.cells (e1 ++ e2).toArray 41)
    have CN := hidden (cells_newQ wn30 (e1 ++ e2) 41)
    replace M0 := hidden (M0.out.keep hb)
    replace OW := hidden (own_keepQ OW.out hb)
    replace SZ := hidden (Nat.le_trans SZ.out hb.size)
    clear hb
    refine hK.out _ _ (M0.out.sub (by simp)) (fun hH32 => ?_)
    clear hK K
    simp only [Act.put, List.setIfInBounds_toArray, List.set_cons_zero, List.set_cons_succ]
    refine wpAnyH_ready (rs := [17]) (by kernel_rfl) (by simp) ?_
    refine AllReadyH.cons (o := { dst := some 65, op := Op.call { callee := Callee.builtin Builtin.append, args := #[Operand.tmp 49, Operand.tmp 64], argTypes := #[44, 44] }, type := 44, pos := "law.go:314", after := #[{ on := 1, ground := Ground.data }, { on := 16, ground := Ground.data }, { on := 15, ground := Ground.chain }], guard := none }) rfl (fun K hK => ?_) AllReadyH.nil
    clear hH32
    refine wp_appendQ (.tmp 49) (.tmp 64) 44 rfl B 41 ei (.agg ze.toArray) 26 224 HU.out HI.out HZ0.out HZ1.out HZ2.out rfl (by decide) V n xs rfl OW.out ⟨wn30.heap.size, 0, none⟩ 2 2 (e1 ++ e2) rfl LN.out CN.out ON.out (by have := HS.out.1; unfold maxLen; omega) (by have := HS.out.1; omega) SZ.out ?_
    intro va wa hoa hga _
    have MA := hidden (M0.out.grow hga (fun k hk => by have h1 := (OW.out.lt k hk).1; have h2 := HS.out; exact ⟨by omega, fun p hp => by simp only [List.mem_cons, List.not_mem_nil, or_false] at hp; rcases hp with rfl | rfl <;> (simp only; omega)⟩))
    obtain ⟨pv, cv, hva⟩ := own_shapeQ hoa
    subst hva
    have OA := hidden hoa
    clear hoa hga OW M0 CN SZ
    refine hK.out _ _ (MA.out.sub (by simp)) (fun hH33 => ?_)
    clear hK K
    simp only [Act.put, List.setIfInBounds_toArray, List.set_cons_zero, List.set_cons_succ]
    refine wpAnyH_take (i := 18) (oi := { dst := some 66, op := Op.fieldAddr 47 (Operand.tmp 3) 2, type := 0, pos := "law.go:314", after := #[{ on := 0, ground := Ground.phase }, { on := 1, ground := Ground.phase }, { on := 2, ground := Ground.phase }, { on := 3, ground := Ground.phase }, { on := 4, ground := Ground.phase }, { on := 5, ground := Ground.phase }, { on := 6, ground := Ground.phase }, { on := 7, ground := Ground.phase }, { on := 8, ground := Ground.phase }, { on := 9, ground := Ground.phase }, { on := 10, ground := Ground.phase }, { on := 11, ground := Ground.phase }, { on := 12, ground := Ground.phase }, { on := 13, ground := Ground.phase }, { on := 14, ground := Ground.phase }, { on := 15, ground := Ground.phase }, { on := 16, ground := Ground.phase }, { on := 17, ground := Ground.phase }], guard := none }) (v := .pointer (some ⟨T3, 116, none⟩)) rfl (by kernel_rfl) (by kernel_rfl) (by kernel_rfl) (fun _ _ _ h => h) (Or.inl ⟨by rfl, fun w0 hSw => ?_⟩) hH33 ?_
    · (clear hSw; go_simp)
    simp only [Act.put, List.setIfInBounds_toArray, List.set_cons_zero, List.set_cons_succ]
    refine wpAnyH_ready (rs := [19]) (by kernel_rfl) (by simp) ?_
    refine AllReadyH.cons (o := { dst := none, op := Op.store 44 (Operand.tmp 66) (Operand.tmp 65), type := 0, pos := "law.go:314", after := #[{ on := 18, ground := Ground.data }, { on := 17, ground := Ground.data }, { on := 17, ground := Ground.chain }, { on := 0, ground := Ground.phase }, { on := 1, ground := Ground.phase }, { on := 2, ground := Ground.phase }, { on := 3, ground := Ground.phase }, { on := 4, ground := Ground.phase }, { on := 5, ground := Ground.phase }, { on := 6, ground := Ground.phase }, { on := 7, ground := Ground.phase }, { on := 8, ground := Ground.phase }, { on := 9, ground := Ground.phase }, { on := 10, ground := Ground.phase }, { on := 11, ground := Ground.phase }, { on := 12, ground := Ground.phase }, { on := 13, ground := Ground.phase }, { on := 14, ground := Ground.phase }, { on := 15, ground := Ground.phase }, { on := 16, ground := Ground.phase }, { on := 17, ground := Ground.phase }], guard := none }) rfl (fun K hK => ?_) AllReadyH.nil
    clear hH33
    have y0 := (CELL.out _ MA.out).1
    have f0 := (CELL.out _ MA.out).2
    have MB := hidden (MA.out.pt 116 [.slice pv (n + 2) cv] (by rw [HS.out.2.2.2.2.2.2]; simp) HS.out.2.2.2.2.2.1).1
    have OB := hidden ((kp_setCells T3 [.slice pv (n + 2) cv] 116 wa).own OA.out (fun e => by have h1 := (OA.out.lt T3 e).1; have h2 := HS.out; omega))
    simp only [World.setCells] at MB OB
    go_simp
    refine hK.out _ _ (MB.out.sub (by simp)) (fun hH34 => ?_)
    clear hK K
    refine wpAnyH_done (by kernel_rfl) ?_ _
    refine NoPanic.normal ?_
    exact HQ.out _ _ _ OB.out MB.out
  refine AllReadyH.cons (o := { dst := some 62, op := Op.call { callee := Callee.value (Operand.func 22), args := #[Operand.tmp 61], argTypes := #[23] }, type := 38, pos := "law.go:314", after := #[{ on := 13, ground := Ground.data }, { on := 8, ground := Ground.chain }], guard := none }) rfl (fun K hK => ?_) AllReadyH.nil
  clear hH26
  go_simp
  refine (C14.out _).mono ?_
  rintro e wn35 ⟨rfl, hb⟩
  replace M0 := hidden (M0.out.keep hb)
  replace OW := hidden (own_keepQ OW.out hb)
  replace SZ := hidden (Nat.le_trans SZ.out hb.size)
  clear hb
  go_wp2_with fail
  refine hK.out _ _ (M0.out.sub (by simp)) (fun hH36 => ?_)
  clear hK K
  refine wpAnyH_ready (rs := [1, 15]) (by kernel_rfl) (by simp) ?_
  refine AllReadyH.cons (o := { dst := some 49, op := Op.load 44 (Operand.tmp 48), type := 44, pos := "law.go:314", after := #[{ on := 0, ground := Ground.data }], guard := none }) rfl (fun K hK => ?_) ?_
  ·
    have y0 := (CELL.out _ M0.out).1
    clear hH36
    go_simp
    refine hK.out _ _ (M0.out.sub (by simp)) (fun hH37 => ?_)
    clear hK K y0
    refine wpAnyH_ready (rs := [15]) (by kernel_rfl) (by simp) ?_
    refine AllReadyH.cons (o := { dst := some 63, op := Op.call { callee := Callee.value (Operand.func 21), args := #[Operand.tmp 62], argTypes := #[38] }, type := 41, pos := "law.go:314", after := #[{ on := 14, ground := Ground.data }, { on := 14, ground := Ground.chain }], guard := none }) rfl (fun K hK => ?_) AllReadyH.nil
    clear hH37
    go_simp
    refine (C15.out _).mono ?_
    rintro e wn38 ⟨rfl, hb⟩
    replace M0 := hidden (M0.out.keep hb)
    replace OW := hidden (own_keepQ OW.out hb)
    replace SZ := hidden (Nat.le_trans SZ.out hb.size)
    clear hb
    go_wp2_with fail
    refine hK.out _ _ (M0.out.sub (by simp)) (fun hH39 => ?_)
    clear hK K
    refine wpAnyH_ready (rs := [16]) (by kernel_rfl) (by simp) ?_
    refine AllReadyH.cons (o := { dst := some 64, op := Op.buildSlice 44 2 #[(0, Operand.tmp 56), (1, Operand.tmp 63)], type := 44, pos := "law.go:314", after := #[{ on := 8, ground := Ground.data }, { on := 15, ground := Ground.data }], guard := none }) rfl (fun K hK => ?_) AllReadyH.nil
    clear hH39
    refine wp_buildQ (.tmp 56) (.tmp 63) 44 rfl (.agg e1.toArray) (.agg e2.toArray) rfl rfl _ _ (HB.out _) ?_
    have hb := bl_alloc wn38 (.cells (e1 ++ e2).toArray 41)
    have CN := hidden (cells_newQ wn38 (e1 ++ e2) 41)
    replace M0 := hidden (M0.out.keep hb)
    replace OW := hidden (own_keepQ OW.out hb)
    replace SZ := hidden (Nat.le_trans SZ.out hb.size)
    clear hb
    refine hK.out _ _ (M0.out.sub (by simp)) (fun hH40 => ?_)
    clear hK K
    simp only [Act.put, List.setIfInBounds_toArray, List.set_cons_zero, List.set_cons_succ]
    refine wpAnyH_ready (rs := [17]) (by kernel_rfl) (by simp) ?_
    refine AllReadyH.cons (o := { dst := some 65, op := Op.call { callee := Callee.builtin Builtin.append, args := #[Operand.tmp 49, Operand.tmp 64], argTypes := #[44, 44] }, type := 44, pos := "law.go:314", after := #[{ on := 1, ground := Ground.data }, { on := 16, ground := Ground.data }, { on := 15, ground := Ground.chain }], guard := none }) rfl (fun K hK => ?_) AllReadyH.nil
    clear hH40
    refine wp_appendQ (.tmp 49) (.tmp 64) 44 rfl B 41 ei (.agg ze.toArray) 26 224 HU.out HI.out HZ0.out HZ1.out HZ2.out rfl (by decide) V n xs rfl OW.out ⟨wn38.heap.size, 0, none⟩ 2 2 (e1 ++ e2) rfl LN.out CN.out ON.out (by have := HS.out.1; unfold maxLen; omega) (by have := HS.out.1; omega) SZ.out ?_
    intro va wa hoa hga _
    have MA := hidden (M0.out.grow hga (fun k hk => by have h1 := (OW.out.lt k hk).1; have h2 := HS.out; exact ⟨by omega, fun p hp => by simp only [List.mem_cons, List.not_mem_nil, or_false] at hp; rcases hp with rfl | rfl <;> (simp only; omega)⟩))
    obtain ⟨pv, cv, hva⟩ := own_shapeQ hoa
    subst hva
    have OA := hidden hoa
    clear hoa hga OW M0 CN SZ
    refine hK.out _ _ (MA.out.sub (by simp)) (fun hH41 => ?_)
    clear hK K
    simp only [Act.put, List.setIfInBounds_toArray, List.set_cons_zero, List.set_cons_succ]
    refine wpAnyH_take (i := 18) (oi := { dst := some 66, op := Op.fieldAddr 47 (Operand.tmp 3) 2, type := 0, pos := "law.go:314", after := #[{ on := 0, ground := Ground.phase }, { on := 1, ground := Ground.phase }, { on := 2, ground := Ground.phase }, { on := 3, ground := Ground.phase }, { on := 4, ground := Ground.phase }, { on := 5, ground := Ground.phase }, { on := 6, ground := Ground.phase }, { on := 7, ground := Ground.phase }, { on := 8, ground := Ground.phase }, { on := 9, ground := Ground.phase }, { on := 10, ground := Ground.phase }, { on := 11, ground := Ground.phase }, { on := 12, ground := Ground.phase }, { on := 13, ground := Ground.phase }, { on := 14, ground := Ground.phase }, { on := 15, ground := Ground.phase }, { on := 16, ground := Ground.phase }, { on := 17, ground := Ground.phase }], guard := none }) (v := .pointer (some ⟨T3, 116, none⟩)) rfl (by kernel_rfl) (by kernel_rfl) (by kernel_rfl) (fun _ _ _ h => h) (Or.inl ⟨by rfl, fun w0 hSw => ?_⟩) hH41 ?_
    · (clear hSw; go_simp)
    simp only [Act.put, List.setIfInBounds_toArray, List.set_cons_zero, List.set_cons_succ]
    refine wpAnyH_ready (rs := [19]) (by kernel_rfl) (by simp) ?_
    refine AllReadyH.cons (o := { dst := none, op := Op.store 44 (Operand.tmp 66) (Operand.tmp 65), type := 0, pos := "law.go:314", after := #[{ on := 18, ground := Ground.data }, { on := 17, ground := Ground.data }, { on := 17, ground := Ground.chain }, { on := 0, ground := Ground.phase }, { on := 1, ground := Ground.phase }, { on := 2, ground := Ground.phase }, { on := 3, ground := Ground.phase }, { on := 4, ground := Ground.phase }, { on := 5, ground := Ground.phase }, { on := 6, ground := Ground.phase }, { on := 7, ground := Ground.phase }, { on := 8, ground := Ground.phase }, { on := 9, ground := Ground.phase }, { on := 10, ground := Ground.phase }, { on := 11, ground := Ground.phase }, { on := 12, ground := Ground.phase }, { on := 13, ground := Ground.phase }, { on := 14, ground := Ground.phase }, { on := 15, ground := Ground.phase }, { on := 16, ground := Ground.phase }, { on := 17, ground := Ground.phase }], guard := none }) rfl (fun K hK => ?_) AllReadyH.nil
    clear hH41
    have y0 := (CELL.out _ MA.out).1
    have f0 := (CELL.out _ MA.out).2
    have MB := hidden (MA.out.pt 116 [.slice pv (n + 2) cv] (by rw [HS.out.2.2.2.2.2.2]; simp) HS.out.2.2.2.2.2.1).1
    have OB := hidden ((kp_setCells T3 [.slice pv (n + 2) cv] 116 wa).own OA.out (fun e => by have h1 := (OA.out.lt T3 e).1; have h2 := HS.out; omega))
    simp only [World.setCells] at MB OB
    go_simp
    refine hK.out _ _ (MB.out.sub (by simp)) (fun hH42 => ?_)
    clear hK K
    refine wpAnyH_done (by kernel_rfl) ?_ _
    refine NoPanic.normal ?_
    exact HQ.out _ _ _ OB.out MB.out
  refine AllReadyH.cons (o := { dst := some 63, op := Op.call { callee := Callee.value (Operand.func 21), args := #[Operand.tmp 62], argTypes := #[38] }, type := 41, pos := "law.go:314", after := #[{ on := 14, ground := Ground.data }, { on := 14, ground := Ground.chain }], guard := none }) rfl (fun K hK => ?_) AllReadyH.nil
  clear hH36
  go_simp
  refine (C15.out _).mono ?_
  rintro e wn43 ⟨rfl, hb⟩
  replace M0 := hidden (M0.out.keep hb)
  replace OW := hidden (own_keepQ OW.out hb)
  replace SZ := hidden (Nat.le_trans SZ.out hb.size)
  clear hb
  go_wp2_with fail
  refine hK.out _ _ (M0.out.sub (by simp)) (fun hH44 => ?_)
  clear hK K
  refine wpAnyH_ready (rs := [1, 16]) (by kernel_rfl) (by simp) ?_
  refine AllReadyH.cons (o := { dst := some 49, op := Op.load 44 (Operand.tmp 48), type := 44, pos := "law.go:314", after := #[{ on := 0, ground := Ground.data }], guard := none }) rfl (fun K hK => ?_) ?_
  ·
    have y0 := (CELL.out _ M0.out).1
    clear hH44
    go_simp
    refine hK.out _ _ (M0.out.sub (by simp)) (fun hH45 => ?_)
    clear hK K y0
    refine wpAnyH_ready (rs := [16]) (by kernel_rfl) (by simp) ?_
    refine AllReadyH.cons (o := { dst := some 64, op := Op.buildSlice 44 2 #[(0, Operand.tmp 56), (1, Operand.tmp 63)], type := 44, pos := "law.go:314", after := #[{ on := 8, ground := Ground.data }, { on := 15, ground := Ground.data }], guard := none }) rfl (fun K hK => ?_) AllReadyH.nil
    clear hH45
    refine wp_buildQ (.tmp 56) (.tmp 63) 44 rfl (.agg e1.toArray) (.agg e2.toArray) rfl rfl _ _ (HB.out _) ?_
    have hb := bl_alloc wn43 (.cells (e1 ++ e2).toArray 41)
    have CN := hidden (cells_newQ wn43 (e1 ++ e2) 41)
    replace M0 := hidden (M0.out.keep hb)
    replace OW := hidden (own_keepQ OW.out hb)
    replace SZ := hidden (Nat.le_trans SZ.out hb.size)
    clear hb
    refine hK.out _ _ (M0.out.sub (by simp)) (fun hH46 => ?_)
    clear hK K
    simp only [Act.put, List.setIfInBounds_toArray, List.set_cons_zero, List.set_cons_succ]
    refine wpAnyH_ready (rs := [17]) (by kernel_rfl) (by simp) ?_
    refine AllReadyH.cons (o := { dst := some 65, op := Op.call { callee := Callee.builtin Builtin.append, args := #[Operand.tmp 49, Operand.tmp 64], argTypes := #[44, 44] }, type := 44, pos := "law.go:314", after := #[{ on := 1, ground := Ground.data }, { on := 16, ground := Ground.data }, { on := 15, ground := Ground.chain }], guard := none }) rfl (fun K hK => ?_) AllReadyH.nil
    clear hH46
    refine wp_appendQ (.tmp 49) (.tmp 64) 44 rfl B 41 ei (.agg ze.toArray) 26 224 HU.out HI.out HZ0.out HZ1.out HZ2.out rfl (by decide) V n xs rfl OW.out ⟨wn43.heap.size, 0, none⟩ 2 2 (e1 ++ e2) rfl LN.out CN.out ON.out (by have := HS.out.1; unfold maxLen; omega) (by have := HS.out.1; omega) SZ.out ?_
    intro va wa hoa hga _
    have MA := hidden (M0.out.grow hga (fun k hk => by have h1 := (OW.out.lt k hk).1; have h2 := HS.out; exact ⟨by omega, fun p hp => by simp only [List.mem_cons, List.not_mem_nil, or_false] at hp; rcases hp with rfl | rfl <;> (simp only; omega)⟩))
    obtain ⟨pv, cv, hva⟩ := own_shapeQ hoa
    subst hva
    have OA := hidden hoa
    clear hoa hga OW M0 CN SZ
    refine hK.out _ _ (MA.out.sub (by simp)) (fun hH47 => ?_)
    clear hK K
    simp only [Act.put, List.setIfInBounds_toArray, List.set_cons_zero, List.set_cons_succ]
    refine wpAnyH_take (i := 18) (oi := { dst := some 66, op := Op.fieldAddr 47 (Operand.tmp 3) 2, type := 0, pos := "law.go:314", after := #[{ on := 0, ground := Ground.phase }, { on := 1, ground := Ground.phase }, { on := 2, ground := Ground.phase }, { on := 3, ground := Ground.phase }, { on := 4, ground := Ground.phase }, { on := 5, ground := Ground.phase }, { on := 6, ground := Ground.phase }, { on := 7, ground := Ground.phase }, { on := 8, ground := Ground.phase }, { on := 9, ground := Ground.phase }, { on := 10, ground := Ground.phase }, { on := 11, ground := Ground.phase }, { on := 12, ground := Ground.phase }, { on := 13, ground := Ground.phase }, { on := 14, ground := Ground.phase }, { on := 15, ground := Ground.phase }, { on := 16, ground := Ground.phase }, { on := 17, ground := Ground.phase }], guard := none }) (v := .pointer (some ⟨T3, 116, none⟩)) rfl (by kernel_rfl) (by kernel_rfl) (by kernel_rfl) (fun _ _ _ h => h) (Or.inl ⟨by rfl, fun w0 hSw => ?_⟩) hH47 ?_
    · (clear hSw; go_simp)
    simp only [Act.put, List.setIfInBounds_toArray, List.set_cons_zero, List.set_cons_succ]
    refine wpAnyH_ready (rs := [19]) (by kernel_rfl) (by simp) ?_
    refine AllReadyH.cons (o := { dst := none, op := Op.store 44 (Operand.tmp 66) (Operand.tmp 65), type := 0, pos := "law.go:314", after := #[{ on := 18, ground := Ground.data }, { on := 17, ground := Ground.data }, { on := 17, ground := Ground.chain }, { on := 0, ground := Ground.phase }, { on := 1, ground := Ground.phase }, { on := 2, ground := Ground.phase }, { on := 3, ground := Ground.phase }, { on := 4, ground := Ground.phase }, { on := 5, ground := Ground.phase }, { on := 6, ground := Ground.phase }, { on := 7, ground := Ground.phase }, { on := 8, ground := Ground.phase }, { on := 9, ground := Ground.phase }, { on := 10, ground := Ground.phase }, { on := 11, ground := Ground.phase }, { on := 12, ground := Ground.phase }, { on := 13, ground := Ground.phase }, { on := 14, ground := Ground.phase }, { on := 15, ground := Ground.phase }, { on := 16, ground := Ground.phase }, { on := 17, ground := Ground.phase }], guard := none }) rfl (fun K hK => ?_) AllReadyH.nil
    clear hH47
    have y0 := (CELL.out _ MA.out).1
    have f0 := (CELL.out _ MA.out).2
    have MB := hidden (MA.out.pt 116 [.slice pv (n + 2) cv] (by rw [HS.out.2.2.2.2.2.2]; simp) HS.out.2.2.2.2.2.1).1
    have OB := hidden ((kp_setCells T3 [.slice pv (n + 2) cv] 116 wa).own OA.out (fun e => by have h1 := (OA.out.lt T3 e).1; have h2 := HS.out; omega))
    simp only [World.setCells] at MB OB
    go_simp
    refine hK.out _ _ (MB.out.sub (by simp)) (fun hH48 => ?_)
    clear hK K
    refine wpAnyH_done (by kernel_rfl) ?_ _
    refine NoPanic.normal ?_
    exact HQ.out _ _ _ OB.out MB.out
  refine AllReadyH.cons (o := { dst := some 64, op := Op.buildSlice 44 2 #[(0, Operand.tmp 56), (1, Operand.tmp 63)], type := 44, pos := "law.go:314", after := #[{ on := 8, ground := Ground.data }, { on := 15, ground := Ground.data }], guard := none }) rfl (fun K hK => ?_) AllReadyH.nil
  clear hH44
  refine wp_buildQ (.tmp 56) (.tmp 63) 44 rfl (.agg e1.toArray) (.agg e2.toArray) rfl rfl _ _ (HB.out _) ?_
  have hb := bl_alloc wn43 (.cells (e1 ++ e2).toArray 41)
  have CN := hidden (cells_newQ wn43 (e1 ++ e2) 41)
  replace M0 := hidden (M0.out.keep hb)
  replace OW := hidden (own_keepQ OW.out hb)
  replace SZ := hidden (Nat.le_trans SZ.out hb.size)
  clear hb
  refine hK.out _ _ (M0.out.sub (by simp)) (fun hH49 => ?_)
  clear hK K
  simp only [Act.put, List.setIfInBounds_toArray, List.set_cons_zero, List.set_cons_succ]
  refine wpAnyH_ready (rs := [1]) (by kernel_rfl) (by simp) ?_
  refine AllReadyH.cons (o := { dst := some 49, op := Op.load 44 (Operand.tmp 48), type := 44, pos := "law.go:314", after := #[{ on := 0, ground := Ground.data }], guard := none }) rfl (fun K hK => ?_) AllReadyH.nil
  have y0 := (CELL.out _ M0.out).1
  clear hH49
  go_simp
  refine hK.out _ _ (M0.out.sub (by simp)) (fun hH50 => ?_)
  clear hK K y0
  refine wpAnyH_ready (rs := [17]) (by kernel_rfl) (by simp) ?_
  refine AllReadyH.cons (o := { dst := some 65, op := Op.call { callee := Callee.builtin Builtin.append, args := #[Operand.tmp 49, Operand.tmp 64], argTypes := #[44, 44] }, type := 44, pos := "law.go:314", after := #[{ on := 1, ground := Ground.data }, { on := 16, ground := Ground.data }, { on := 15, ground := Ground.chain }], guard := none }) rfl (fun K hK => ?_) AllReadyH.nil
  clear hH50
  refine wp_appendQ (.tmp 49) (.tmp 64) 44 rfl B 41 ei (.agg ze.toArray) 26 224 HU.out HI.out HZ0.out HZ1.out HZ2.out rfl (by decide) V n xs rfl OW.out ⟨wn43.heap.size, 0, none⟩ 2 2 (e1 ++ e2) rfl LN.out CN.out ON.out (by have := HS.out.1; unfold maxLen; omega) (by have := HS.out.1; omega) SZ.out ?_
  intro va wa hoa hga _
  have MA := hidden (M0.out.grow hga (fun k hk => by have h1 := (OW.out.lt k hk).1; have h2 := HS.out; exact ⟨by omega, fun p hp => by simp only [List.mem_cons, List.not_mem_nil, or_false] at hp; rcases hp with rfl | rfl <;> (simp only; omega)⟩))
  obtain ⟨pv, cv, hva⟩ := own_shapeQ hoa
  subst hva
  have OA := hidden hoa
  clear hoa hga OW M0 CN SZ
  refine hK.out _ _ (MA.out.sub (by simp)) (fun hH51 => ?_)
  clear hK K
  simp only [Act.put, List.setIfInBounds_toArray, List.set_cons_zero, List.set_cons_succ]
  refine wpAnyH_take (i := 18) (oi := { dst := some 66, op := Op.fieldAddr 47 (Operand.tmp 3) 2, type := 0, pos := "law.go:314", after := #[{ on := 0, ground := Ground.phase }, { on := 1, ground := Ground.phase }, { on := 2, ground := Ground.phase }, { on := 3, ground := Ground.phase }, { on := 4, ground := Ground.phase }, { on := 5, ground := Ground.phase }, { on := 6, ground := Ground.phase }, { on := 7, ground := Ground.phase }, { on := 8, ground := Ground.phase }, { on := 9, ground := Ground.phase }, { on := 10, ground := Ground.phase }, { on := 11, ground := Ground.phase }, { on := 12, ground := Ground.phase }, { on := 13, ground := Ground.phase }, { on := 14, ground := Ground.phase }, { on := 15, ground := Ground.phase }, { on := 16, ground := Ground.phase }, { on := 17, ground := Ground.phase }], guard := none }) (v := .pointer (some ⟨T3, 116, none⟩)) rfl (by kernel_rfl) (by kernel_rfl) (by kernel_rfl) (fun _ _ _ h => h) (Or.inl ⟨by rfl, fun w0 hSw => ?_⟩) hH51 ?_
  · (clear hSw; go_simp)
  simp only [Act.put, List.setIfInBounds_toArray, List.set_cons_zero, List.set_cons_succ]
  refine wpAnyH_ready (rs := [19]) (by kernel_rfl) (by simp) ?_
  refine AllReadyH.cons (o := { dst := none, op := Op.store 44 (Operand.tmp 66) (Operand.tmp 65), type := 0, pos := "law.go:314", after := #[{ on := 18, ground := Ground.data }, { on := 17, ground := Ground.data }, { on := 17, ground := Ground.chain }, { on := 0, ground := Ground.phase }, { on := 1, ground := Ground.phase }, { on := 2, ground := Ground.phase }, { on := 3, ground := Ground.phase }, { on := 4, ground := Ground.phase }, { on := 5, ground := Ground.phase }, { on := 6, ground := Ground.phase }, { on := 7, ground := Ground.phase }, { on := 8, ground := Ground.phase }, { on := 9, ground := Ground.phase }, { on := 10, ground := Ground.phase }, { on := 11, ground := Ground.phase }, { on := 12, ground := Ground.phase }, { on := 13, ground := Ground.phase }, { on := 14, ground := Ground.phase }, { on := 15, ground := Ground.phase }, { on := 16, ground := Ground.phase }, { on := 17, ground := Ground.phase }], guard := none }) rfl (fun K hK => ?_) AllReadyH.nil
  clear hH51
  have y0 := (CELL.out _ MA.out).1
  have f0 := (CELL.out _ MA.out).2
  have MB := hidden (MA.out.pt 116 [.slice pv (n + 2) cv] (by rw [HS.out.2.2.2.2.2.2]; simp) HS.out.2.2.2.2.2.1).1
  have OB := hidden ((kp_setCells T3 [.slice pv (n + 2) cv] 116 wa).own OA.out (fun e => by have h1 := (OA.out.lt T3 e).1; have h2 := HS.out; omega))
  simp only [World.setCells] at MB OB
  go_simp
  refine hK.out _ _ (MB.out.sub (by simp)) (fun hH52 => ?_)
  clear hK K
  refine wpAnyH_done (by kernel_rfl) ?_ _
  refine NoPanic.normal ?_
  exact HQ.out _ _ _ OB.out MB.out
end Go.Proofs.YtkfkmndhbfeagaaGreatDoor
namespace Go.Proofs.YtkfkmndhbfeagaaGreatDoor
open Go.RowKit
set_option linter.unusedVariables false
/-- the cells of no proof -/
def z125 : List Value := ze ++ (ze ++ (ze ++ (ze ++ [.int .u64 0, .int .u64 0, .int .u64 0, .int .u64 0, .int .u64 0, .int .u64 0, .int .u64 0, .int .u64 0, .int .u64 0, .int .u64 0, .int .u64 0, .int .u64 0, .slice none 0 0, .int .u64 0, .int .u64 0, .int .u64 0, .int .u64 0, .int .u64 0, .int .u64 0, .int .u64 0, .int .u64 0])))
theorem zv125 (w : World) : (zeroValue 47).run Tryz.prog w = .ok (.agg z125.toArray) w := by kernel_rfl
theorem wpList_alloc125 {ops : Array Oper} {rest : List Oper} {o : Oper} {a : Act} {w : World} {Q : Exit → Act → World → Prop} (hg : o.guard = none) (ho : o.op = .alloc 47) (h : wpList Tryz.prog ops Q rest (a.put o.dst (.pointer (some ⟨w.heap.size, 0, none⟩))) (w.alloc (.cells z125.toArray 47))) : wpList Tryz.prog ops Q (o :: rest) a w := by
  refine wpList_plain hg fun K hK => ?_
  have hz := zv125 w
  have hk := hK _ _ h
  generalize z125 = z at hz hk
  unfold Oper.wp execOp
  simp [ho, Instr.alloc, hz]
  exact hk
theorem d125 (s : Nat → E4) : Dd z125 s 0 0 0 (.slice none 0 0) := ⟨rfl, fun i hi => by omega, fun i hi => by omega, fun j u hu => by
  match j, hu with
  | 0, hu => exact hu
  | j + 1, hu => simp at hu, fun i hi => by omega⟩
theorem pinfoQ : (Tryz.prog.info? 47).map (·.size) = some 125 := by kernel_rfl
def evs (n : Nat) (f : Nat → E4) : List Value := (List.range n).flatMap fun k => el (f k)
theorem evs_succ (n : Nat) (f : Nat → E4) : evs (n + 1) f = evs n f ++ el (f n) := by simp [evs, List.range_succ]
theorem evs_len (n : Nat) (f : Nat → E4) : (evs n f).length = n * 26 := by
  induction n with
  | zero => rfl
  | succ n ih => rw [evs_succ, List.length_append, ih, el_len]; omega
theorem evs_get {n : Nat} {f : Nat → E4} {k j : Nat} (hk : k < n) (hj : j < 26) : (evs n f)[k * 26 + j]? = (el (f k))[j]? := by
  induction n with
  | zero => omega
  | succ n ih =>
    rw [evs_succ]
    by_cases h : k < n
    · rw [List.getElem?_append_left (by rw [evs_len]; omega)]
      exact ih h
    · obtain rfl : k = n := by omega
      rw [List.getElem?_append_right (by rw [evs_len]; omega), evs_len, show k * 26 + j - k * 26 = j by omega]
theorem el_oneL (k : E4) : ∀ u ∈ el k, u.oneCell' = true := by simp [el, Value.oneCell']
theorem buildE2 (y0 y1 : E4) (w : World) : (Instr.buildSlice 44 2 #[(0, .agg (el y0).toArray), (1, .agg (el y1).toArray)]).run Tryz.prog w = .ok (.slice (some ⟨w.heap.size, 0, none⟩) 2 2) (w.alloc (.cells (el y0 ++ el y1).toArray 41)) := by kernel_rfl
/-- what a round's thing is, in the document's list -/
def fo (m : Nat) (s l r : Nat → E4) (j : Nat) : E4 := lst (st m s l r (7 + j)).n
theorem fo_even {m : Nat} {s l r : Nat → E4} {i : Nat} (h : i < m) : fo m s l r (2 * i) = lst (l i).n := by
  unfold fo st
  rw [if_neg (by omega), if_pos (by omega), if_pos (by omega), show (7 + 2 * i - 7) / 2 = i by omega]
theorem fo_odd {m : Nat} {s l r : Nat → E4} {i : Nat} (h : i < m) : fo m s l r (2 * i + 1) = lst (r i).n := by
  unfold fo st
  rw [if_neg (by omega), if_pos (by omega), if_neg (by omega), show (7 + (2 * i + 1) - 7) / 2 = i by omega]
theorem step_evs {w : World} {B i m : Nat} {v : Value} {s l r : Nat → E4} (h : i < m) (ho : w.ownsRow B 41 26 v (2 * i + 2) (evs (2 * i) (fo m s l r) ++ (el (lst (l i).n) ++ el (lst (r i).n)))) : w.ownsRow B 41 26 v (2 * (i + 1)) (evs (2 * (i + 1)) (fo m s l r)) := by
  rw [show 2 * (i + 1) = 2 * i + 1 + 1 by omega, evs_succ, evs_succ, fo_even h, fo_odd h, List.append_assoc]
  exact ho
theorem st_low {m : Nat} {s l r : Nat → E4} {i : Nat} (h : i < 7) : st m s l r i = s i := by unfold st; rw [if_pos h]
theorem st_high {m : Nat} {s l r : Nat → E4} {i : Nat} : st m s l r (7 + 2 * m + i) = s (7 + i) := by
  unfold st
  rw [if_neg (by omega), if_neg (by omega), show 7 + 2 * m + i - 2 * m = 7 + i by omega]
/-- the finished proof, boxed anew -/
theorem dp_of {w : World} {D : List Value} {s l r : Nat → E4} {m B cl : Nat} {Pl : Option Addr} (h : Dd D s 4 3 2 (.slice Pl (2 * m) cl)) (ho : w.ownsRow B 41 26 (.slice Pl (2 * m) cl) (2 * m) (evs (2 * m) (fo m s l r))) : Dp (w.alloc (.cells D.toArray 47)) w.heap.size m (st m s l r) Pl cl := by
  have r0 := range_newM w D 47
  refine ⟨fun i hi => ?_, fun i hi => ?_, ?_, fun i hi => ?_, fun hm => ?_⟩
  · rw [st_low (by omega)]; exact sg_range r0 (h.four i hi)
  · rw [st_low (by omega)]; exact sg_range r0 (h.three i hi)
  · exact sg_range r0 h.lr 0 _ rfl
  · rw [st_high]; exact sg_range r0 (h.two i hi)
  · rcases ho.2 with ⟨_, h0⟩ | ⟨gg, cap, cur, h1, _⟩
    · omega
    · simp only [Value.slice.injEq] at h1
      obtain ⟨rfl, -, rfl⟩ := h1
      refine ⟨gg, rfl, fun i hi => ?_⟩
      intro j u hu
      have hj : j < 26 := by have := (List.getElem?_eq_some_iff.1 hu).1; rwa [el_len] at this
      refine cell_keep ?_ (bl_alloc w _)
      rw [ho.cellAt _ (by omega), evs_get (by omega) hj]
      exact hu
set_option maxRecDepth 100000 in
set_option maxHeartbeats 16000000 in
theorem bytes_w1 (s l r : Nat → E4) (LP RP : Option Addr) (m n q cL cR : Nat) (w : World) (hm : m ≤ 1048576) (hn : m ≤ n) (hq : m ≤ q) (hx : ¬ m < n) (os : ∀ k, k < 9 → (s k).ok) (ol : ∀ k, k < m → (l k).ok) (or : ∀ k, k < m → (r k).ok) (hL : Lm w LP n l) (hR : Lm w RP q r) :
    Calls Tryz.prog 4 #[.agg (pc s (.slice LP n cL) (.slice RP q cR)).toArray] w fun e w' => ∃ G c : Nat, e = .returned (.slice (some ⟨G, 0, none⟩) (32 * (9 + 2 * m)) c) ∧ w'.ownsRow w.heap.size 5 1 (.slice (some ⟨G, 0, none⟩) (32 * (9 + 2 * m)) c) (32 * (9 + 2 * m)) (Tr.cb (pe m s l r)) ∧ Below w.heap.size w w' := by
  rw [pe_ef]
  obtain ⟨P1, hP1⟩ : ∃ P, pc s (.slice LP n cL) (.slice RP q cR) = P := ⟨_, rfl⟩
  have PK : Hid (∀ k, k < 4 → ∀ d u, [Value.int .u64 (s k).x0, .int .u64 (s k).x1, .int .u64 (s k).x2, .int .u64 (s k).x3][d]? = some u → P1[k * 4 + d]? = some u) := hidden (fun k hk d u hu => by
    have hd : d < 4 := by have := (List.getElem?_eq_some_iff.1 hu).1; simpa using this
    rw [← hP1]
    match k, hk, d, hd with
    | 0, _, 0, _ | 0, _, 1, _ | 0, _, 2, _ | 0, _, 3, _ | 1, _, 0, _ | 1, _, 1, _ | 1, _, 2, _ | 1, _, 3, _ | 2, _, 0, _ | 2, _, 1, _ | 2, _, 2, _ | 2, _, 3, _ | 3, _, 0, _ | 3, _, 1, _ | 3, _, 2, _ | 3, _, 3, _ => exact hu)

  have p16 : Hid (P1[16]? = some (.int .u64 (s 4).x0)) := hidden (by rw [← hP1]; rfl)
  have p17 : Hid (P1[17]? = some (.int .u64 (s 4).x1)) := hidden (by rw [← hP1]; rfl)
  have p18 : Hid (P1[18]? = some (.int .u64 (s 4).x2)) := hidden (by rw [← hP1]; rfl)
  have p19 : Hid (P1[19]? = some (.int .u64 (s 4).x3)) := hidden (by rw [← hP1]; rfl)
  have p20 : Hid (P1[20]? = some (.int .u64 (s 5).x0)) := hidden (by rw [← hP1]; rfl)
  have p21 : Hid (P1[21]? = some (.int .u64 (s 5).x1)) := hidden (by rw [← hP1]; rfl)
  have p22 : Hid (P1[22]? = some (.int .u64 (s 5).x2)) := hidden (by rw [← hP1]; rfl)
  have p23 : Hid (P1[23]? = some (.int .u64 (s 5).x3)) := hidden (by rw [← hP1]; rfl)
  have p24 : Hid (P1[24]? = some (.int .u64 (s 6).x0)) := hidden (by rw [← hP1]; rfl)
  have p25 : Hid (P1[25]? = some (.int .u64 (s 6).x1)) := hidden (by rw [← hP1]; rfl)
  have p26 : Hid (P1[26]? = some (.int .u64 (s 6).x2)) := hidden (by rw [← hP1]; rfl)
  have p27 : Hid (P1[27]? = some (.int .u64 (s 6).x3)) := hidden (by rw [← hP1]; rfl)
  have p30 : Hid (P1[30]? = some (.int .u64 (s 7).x0)) := hidden (by rw [← hP1]; rfl)
  have p31 : Hid (P1[31]? = some (.int .u64 (s 7).x1)) := hidden (by rw [← hP1]; rfl)
  have p32 : Hid (P1[32]? = some (.int .u64 (s 7).x2)) := hidden (by rw [← hP1]; rfl)
  have p33 : Hid (P1[33]? = some (.int .u64 (s 7).x3)) := hidden (by rw [← hP1]; rfl)
  have p34 : Hid (P1[34]? = some (.int .u64 (s 8).x0)) := hidden (by rw [← hP1]; rfl)
  have p35 : Hid (P1[35]? = some (.int .u64 (s 8).x1)) := hidden (by rw [← hP1]; rfl)
  have p36 : Hid (P1[36]? = some (.int .u64 (s 8).x2)) := hidden (by rw [← hP1]; rfl)
  have p37 : Hid (P1[37]? = some (.int .u64 (s 8).x3)) := hidden (by rw [← hP1]; rfl)
  have p28 : Hid (P1[28]? = some (.slice LP n cL)) := hidden (by rw [← hP1]; rfl)
  have p29 : Hid (P1[29]? = some (.slice RP q cR)) := hidden (by rw [← hP1]; rfl)
  rw [hP1]
  have HM := hidden hm
  have HOS := hidden os
  have HOL := hidden ol
  have HOR := hidden or
  have HLL := hidden hL
  have HRR := hidden hR
  have M0 := ((Mw.start w).new P1 28).new z125 47
  simp only [World.size_alloc] at M0
  replace M0 := hidden M0
  have D0 := hidden (d125 s)
  have mm0 : (0 : Int) ≤ (m : Int) := by omega
  have HN := hidden hn
  have HQ2 := hidden hq
  have HX2 := hidden hx
  have nn0 : (0 : Int) ≤ (n : Int) := by omega
  have qq0 : (0 : Int) ≤ (q : Int) := by omega
  clear hm hn hq hx os ol or hL hR hP1
  go_enter Tryz.func4, Tryz.ntmps4
  go_upto_region 2 with (first | refine wpList_alloc125 rfl rfl ?_)
  have hT1 : w.heap.size < (((w.alloc (.cells P1.toArray 28)).alloc (.cells z125.toArray 47))).heap.size := by simp; omega
  have hT3 : w.heap.size + 1 < (((w.alloc (.cells P1.toArray 28)).alloc (.cells z125.toArray 47))).heap.size := by simp
  simp only [World.size_alloc] at hT1 hT3 ⊢
  have SZW : w.heap.size ≤ w.heap.size + 1 + 1 := by omega
  generalize hw2 : (w.alloc (.cells P1.toArray 28)).alloc (.cells z125.toArray 47) = w2 at *
  have hsz2 : w2.heap.size = w.heap.size + 1 + 1 := by rw [← hw2]; simp
  clear hw2
  obtain ⟨T1, eT1⟩ : ∃ T, w.heap.size = T := ⟨_, rfl⟩
  obtain ⟨T3, eT3⟩ : ∃ T, w.heap.size + 1 = T := ⟨_, rfl⟩
  obtain ⟨B, eB⟩ : ∃ B, w2.heap.size = B := ⟨_, rfl⟩
  have HT : Hid (w.heap.size = T1 ∧ w.heap.size + 1 = T3 ∧ w2.heap.size = B ∧ w.heap.size ≤ B ∧ T1 < B ∧ T3 < B ∧ T1 ≠ T3 ∧ B = T3 + 1) := hidden ⟨eT1, eT3, eB, by omega, by omega, by omega, by omega, by omega⟩
  rw [eT3] at M0 ⊢
  rw [show Mw w [(T3, z125), (w.heap.size, P1)] w2 = Mw w [(T3, z125), (T1, P1)] w2 by rw [eT1]] at M0
  rw [show (Value.pointer (some ⟨w.heap.size, 0, none⟩)) = .pointer (some ⟨T1, 0, none⟩) by rw [eT1]]
  have BZ : Hid (B ≤ w2.heap.size) := hidden (by omega)
  clear eT1 eT3 eB hT1 hT3 SZW hsz2
  generalize z125 = Dz at M0 D0
  go_wp2_with fail
  go_loopw [4] (fun kv w' => ∃ (k : Nat) (D : List Value), k ≤ 4 ∧ kv = .int .i64 (k : Int) ∧ Hid (Dd D s k 0 0 (.slice none 0 0)) ∧ Hid (Mw w [(T3, D), (T1, P1)] w') ∧ Hid (B ≤ w'.heap.size)) (fun k _ => 4 - (intOf k).toNat)
  case atStart => exact ⟨0, Dz, by omega, rfl, D0, M0, BZ⟩
  case round =>
    clear D0 M0 BZ
    obtain ⟨k, D, hk, rfl, hD, hMw, hBs⟩ := hrel
    by_cases hk4 : k < 4
    · have k0 : (0 : Int) ≤ (k : Int) := by omega
      have k1 : (k : Int) < 4 := by omega
      have w9 : IntKind.i64.wrap ((k : Int) + 1) = (k : Int) + 1 := IntWalk.i64_in _ (by omega)
      have hr := (hMw.out.r (T1, P1) (by simp)).1
      have x0 := hr (k * 4 + 0) _ (PK.out k hk4 0 _ rfl)
      have x1 := hr (k * 4 + 1) _ (PK.out k hk4 1 _ rfl)
      have x2 := hr (k * 4 + 2) _ (PK.out k hk4 2 _ rfl)
      have x3 := hr (k * 4 + 3) _ (PK.out k hk4 3 _ rfl)
      simp only [Nat.zero_add, Nat.add_zero] at x0 x1 x2 x3
      have zok := HOS.out k (by omega)
      have DN := hidden (hD.out.four1 hk4)
      have PL : Hid (k * 26 + (el (lst (s k).n)).length ≤ D.length) := hidden (by rw [hD.out.len, el_len]; omega)
      generalize s k = z at x0 x1 x2 x3 zok DN PL
      obtain ⟨q, hq⟩ : ∃ q, lst z.n = q := ⟨_, rfl⟩
      have LE := hidden (fun x => fix (rleast_any z x zok) hq)
      have LO := hidden (fun x => lineOf_any q x)
      rw [hq] at DN PL
      have I2 := hidden (el_i2 q)
      have O2 := hidden (el_one q)
      simp only [E4.v] at LE LO
      generalize el q = le at LO DN PL I2 O2
      clear hr zok hq hD
      go_upto_region 4 with (first | (go_at_call 22; refine (LE.out _).mono ?_; rintro e wa ⟨rfl, hb⟩; have MA := hidden (hMw.out.keep hb); have BA := hidden (Nat.le_trans hBs.out hb.size); clear hb hMw hBs) | (go_at_call 21; refine (LO.out _).mono ?_; rintro e wb ⟨rfl, hb⟩; have MB := hidden (MA.out.keep hb); have BB := hidden (Nat.le_trans BA.out hb.size); have MP := hidden (MB.out.pt (k * 26) le PL.out HT.out.2.2.2.2.2.2.1); clear hb MA BA MB) | refine wpList_store_mid rfl 41 _ _ rfl T3 (k * 26) le.toArray (by rfl) (by rfl) MP.out.2 I2.out O2.out ?_)
      have MQ := hidden MP.out.1
      have BQ := hidden (show B ≤ (wb.setCells T3 (k * 26) le).heap.size by rw [size_setCellsM]; exact BB.out)
      clear MP BB x0 x1 x2 x3 LE LO
      go_wp2_with fail
      go_roundw
      case rel => exact ⟨k + 1, _, by omega, by go_num, DN, MQ, BQ⟩
      case measure => simp [intOf]; omega
    · obtain rfl : k = 4 := by omega
      rw [show ((4 : Nat) : Int) = 4 from rfl]
      clear hk4 hk PK
      go_upto_region 6 with fail
      have SL4 := hidden (fun x => fix (rleast_any (s 4) x (HOS.out 4 (by omega))) rfl)
      have SL5 := hidden (fun x => fix (rleast_any (s 5) x (HOS.out 5 (by omega))) rfl)
      have SL6 := hidden (fun x => fix (rleast_any (s 6) x (HOS.out 6 (by omega))) rfl)
      simp only [E4.v] at SL4 SL5 SL6
      refine by6 _ T1 T3 D P1 (s 4) (s 5) (s 6) (lst (s 4).n) (lst (s 5).n) (lst (s 6).n) _ _ _ _ _ _ _ _ _ _ _ _ _ _ _ _ _ _ _ _ _ _ _ _ _ _ _ _ _ _ _ _ _ _ _ _ _ _ _ _ _ _ _ _ _ _ _ _ _ _ _ _ _ _ _ _ _ _ _ _ _ _ _ _ _ _ _ _ _ _ _ _ _ _ _ _ _ w wr HT.out.2.2.2.2.2.2.1 hD.out.len hMw.out p16.out p17.out p18.out p19.out p20.out p21.out p22.out p23.out p24.out p25.out p26.out p27.out SL4 SL5 SL6 (hidden ?_)
      intro wz mz _
      have DZ := hidden (((hD.out.three1 (by omega)).three1 (by omega)).three1 (by omega))
      simp only [Nat.zero_add, Nat.reduceMul, Nat.reduceAdd] at DZ
      obtain ⟨D6, d6, m6⟩ : ∃ D6, Dd D6 s 4 3 0 (.slice none 0 0) ∧ Mw w [(T3, D6), (T1, P1)] wz := ⟨_, DZ.out, mz⟩
      have H6 := hidden d6
      have M6 := hidden m6
      have SB : Hid (∀ D x, Mw w [(T3, D), (T1, P1)] x → B ≤ x.heap.size) := hidden (fun D x h => by
        have h1 := (h.r (T3, D) (by simp)).2.2.2
        have h2 := HT.out
        simp only at h1
        omega)
      clear DZ mz d6 m6 SL4 SL5 SL6 hD hMw hBs p16 p17 p18 p19 p20 p21 p22 p23 p24 p25 p26 p27
      generalize wz = w6 at *
      have CC : Hid (∀ D x, Mw w [(T3, D), (T1, P1)] x → x.cell? ⟨T1, 28, none⟩ = some (.slice LP n cL) ∧ x.cell? ⟨T1, 29, none⟩ = some (.slice RP q cR)) := hidden (fun D x h => by
        have hr := (h.r (T1, P1) (by simp)).1
        have a := hr 28 _ p28.out
        have b := hr 29 _ p29.out
        simp only [Nat.zero_add] at a b
        exact ⟨a, b⟩)
      go_wp2_with fail
      go_loopw [5] (fun kv w' => ∃ (i : Nat) (D : List Value) (v : Value), i ≤ m ∧ kv = .int .i64 (i : Int) ∧ Hid (Dd D s 4 3 0 v) ∧ Hid (Mw w [(T3, D), (T1, P1)] w') ∧ Hid (w'.ownsRow B 41 26 v (2 * i) (evs (2 * i) (fo m s l r)))) (fun k _ => m - (intOf k).toNat)
      case atStart => exact ⟨0, D6, .slice none 0 0, by omega, rfl, H6, M6, hidden (World.ownsRow_nil _ _ _ _)⟩
      case round =>
        clear H6 M6
        obtain ⟨i, D, v, hi, rfl, hD, hMw, hO⟩ := hrel
        have c28 := (CC.out _ _ hMw.out).1
        have c29 := (CC.out _ _ hMw.out).2
        by_cases him : i < m
        · have i0 : (0 : Int) ≤ (i : Int) := by omega
          have i1 : (i : Int) < (n : Int) := by have := HN.out; omega
          have i2 : (i : Int) < (q : Int) := by have := HQ2.out; omega
          have w9 : IntKind.i64.wrap ((i : Int) + 1) = (i : Int) + 1 := IntWalk.i64_in _ (by have := HM.out; omega)
          go_upto_region 10 with fail
          clear c28 c29
          obtain ⟨sb, so, h1, h2⟩ := HLL.out
          obtain ⟨rb, ro, g1, g2⟩ := HRR.out
          obtain rfl := h1 (by have := HN.out; omega)
          obtain rfl := g1 (by have := HQ2.out; omega)
          have rl := h2 (by have := HN.out; omega)
          have rr := g2 (by have := HQ2.out; omega)
          have okl := HOL.out i him
          have okr := HOR.out i him
          have LL := hidden (fun x => fix (rleast_any (l i) x okl) rfl)
          have LR := hidden (fun x => fix (rleast_any (r i) x okr) rfl)
          have OL := hidden (fun x => lineOf_any (lst (l i).n) x)
          have OR := hidden (fun x => lineOf_any (lst (r i).n) x)
          simp only [E4.v] at LL LR OL OR
          refine by10 _ T1 T3 B (2 * i) n q i sb so cL rb ro cR D P1 _ (el (lst (l i).n)) (el (lst (r i).n)) v (l i) (lst (l i).n) (r i) (lst (r i).n) _ _ _ _ _ _ _ _ _ _ _ _ _ _ _ _ _ _ _ _ _ _ _ _ _ _ _ _ _ _ _ _ _ _ _ _ _ _ _ _ _ _ _ _ _ _ _ _ _ _ _ _ _ _ _ _ _ _ _ _ _ _ _ _ _ _ _ _ _ _ _ _ _ _ _ _ w wr HT.out.2.2.2.2.2.2.1 hD.out.len hD.out.lr hMw.out hO.out (by have := HM.out; omega) (SB.out _ _ hMw.out) HT.out.2.2.2.1 HT.out.2.2.2.2.1 HT.out.2.2.2.2.2.1 i0 i1 i2 (el_len _) (el_len _) (el_oneL _) (el_oneL _) p28.out p29.out (rl.c0 i (Nat.lt_of_lt_of_le him HN.out)) (rl.c1 i (Nat.lt_of_lt_of_le him HN.out)) (rl.c2 i (Nat.lt_of_lt_of_le him HN.out)) (rl.c3 i (Nat.lt_of_lt_of_le him HN.out)) (rr.c0 i (Nat.lt_of_lt_of_le him HQ2.out)) (rr.c1 i (Nat.lt_of_lt_of_le him HQ2.out)) (rr.c2 i (Nat.lt_of_lt_of_le him HQ2.out)) (rr.c3 i (Nat.lt_of_lt_of_le him HQ2.out)) LL OL LR OR (hidden (fun x => buildE2 _ _ x)) (hidden ?_)
          intro xb va wz oz mz
          have OZ := hidden (step_evs him oz)
          have MZ := hidden mz
          have DZ := hidden (hD.out.lr1 (c := 0) va)
          clear oz mz LL LR OL OR rl rr okl okr h1 h2 g1 g2 hD hMw hO
          go_wp2_with fail
          go_roundw
          case rel => exact ⟨i + 1, _, va, by omega, by go_num, DZ, MZ, OZ⟩
          case measure => simp [intOf]; omega
        · obtain rfl : i = m := by omega
          have lq : ¬ (i : Int) < (n : Int) := by have := HX2.out; omega
          go_upto_region 11 with fail
          clear c28 c29 lq him hi
          have SL7 := hidden (fun x => fix (rleast_any (s 7) x (HOS.out 7 (by omega))) rfl)
          have SL8 := hidden (fun x => fix (rleast_any (s 8) x (HOS.out 8 (by omega))) rfl)
          simp only [E4.v] at SL7 SL8
          refine by11 _ T1 T3 D P1 (s 7) (s 8) (lst (s 7).n) (lst (s 8).n) _ _ _ _ _ _ _ _ _ _ _ _ _ _ _ _ _ _ _ _ _ _ _ _ _ _ _ _ _ _ _ _ _ _ _ _ _ _ _ _ _ _ _ _ _ _ _ _ _ _ _ _ _ _ _ _ _ _ _ _ _ _ _ _ _ _ _ _ _ _ _ _ _ _ _ _ _ w wr HT.out.2.2.2.2.2.2.1 hD.out.len hMw.out p30.out p31.out p32.out p33.out p34.out p35.out p36.out p37.out SL7 SL8 (hidden ?_)
          intro wz mz kz
          have DZ := hidden ((hD.out.two1 (by omega)).two1 (by omega))
          simp only [Nat.zero_add, Nat.reduceMul, Nat.reduceAdd] at DZ
          have OZ := kz.own hO.out (fun e => by have h1 := (hO.out.lt T3 e).1; have h2 := HT.out; omega)
          obtain ⟨pv, cv, hv⟩ := own_shapeQ OZ
          subst hv
          obtain ⟨D7, d7, m7⟩ : ∃ D7, Dd D7 s 4 3 2 (.slice pv (2 * i) cv) ∧ Mw w [(T3, D7), (T1, P1)] wz := ⟨_, DZ.out, mz⟩
          have RN := hidden (m7.r (T3, D7) (by simp)).1
          have IE : Hid ((Tryz.prog.info? 47).map (·.size) = some D7.length) := hidden (by rw [d7.len]; exact pinfoQ)
          have UE : Hid (Tryz.prog.underlying 47 = _) := hidden Tryz.underlying47
          have EN := hidden (rEncodeProof_any D7 i (st i s l r) pv cv wz HM.out (dp_of d7 OZ))
          have BW := hidden m7.bel
          clear DZ OZ d7 m7 mz kz hD hMw hO SL7 SL8 CC SB
          generalize wz = w7 at *
          go_wp2_with (first | refine wpList_load_mid rfl 47 _ rfl T3 0 (by rfl) D7 _ RN.out UE.out rfl IE.out ?_ | (go_at_call 5; refine EN.out.mono ?_; rintro e w8 ⟨G, c, rfl, ho, hb⟩; have O8 := hidden (own_lessQ ho BW.out.size); have B8 := hidden (bl_trans BW.out hb); clear ho hb))
          refine bodyPost_ret (v := .slice (some ⟨G, 0, none⟩) (32 * (9 + 2 * i)) c) (by simp [results, Tryz.results4, go_sem]) rfl ?_
          first | exact ⟨G, c, rfl, O8.out, B8.out⟩ | exact ⟨G, ⟨c, rfl⟩, O8.out, B8.out⟩
set_option maxRecDepth 100000 in
set_option maxHeartbeats 16000000 in
theorem bytes_w2 (s l r : Nat → E4) (LP RP : Option Addr) (m n q cL cR : Nat) (w : World) (hm : m ≤ 1048576) (hn : m ≤ n) (hq : m ≤ q) (hx : m < n ∧ ¬ m < q) (os : ∀ k, k < 9 → (s k).ok) (ol : ∀ k, k < m → (l k).ok) (or : ∀ k, k < m → (r k).ok) (hL : Lm w LP n l) (hR : Lm w RP q r) :
    Calls Tryz.prog 4 #[.agg (pc s (.slice LP n cL) (.slice RP q cR)).toArray] w fun e w' => ∃ G c : Nat, e = .returned (.slice (some ⟨G, 0, none⟩) (32 * (9 + 2 * m)) c) ∧ w'.ownsRow w.heap.size 5 1 (.slice (some ⟨G, 0, none⟩) (32 * (9 + 2 * m)) c) (32 * (9 + 2 * m)) (Tr.cb (pe m s l r)) ∧ Below w.heap.size w w' := by
  rw [pe_ef]
  obtain ⟨P1, hP1⟩ : ∃ P, pc s (.slice LP n cL) (.slice RP q cR) = P := ⟨_, rfl⟩
  have PK : Hid (∀ k, k < 4 → ∀ d u, [Value.int .u64 (s k).x0, .int .u64 (s k).x1, .int .u64 (s k).x2, .int .u64 (s k).x3][d]? = some u → P1[k * 4 + d]? = some u) := hidden (fun k hk d u hu => by
    have hd : d < 4 := by have := (List.getElem?_eq_some_iff.1 hu).1; simpa using this
    rw [← hP1]
    match k, hk, d, hd with
    | 0, _, 0, _ | 0, _, 1, _ | 0, _, 2, _ | 0, _, 3, _ | 1, _, 0, _ | 1, _, 1, _ | 1, _, 2, _ | 1, _, 3, _ | 2, _, 0, _ | 2, _, 1, _ | 2, _, 2, _ | 2, _, 3, _ | 3, _, 0, _ | 3, _, 1, _ | 3, _, 2, _ | 3, _, 3, _ => exact hu)

  have p16 : Hid (P1[16]? = some (.int .u64 (s 4).x0)) := hidden (by rw [← hP1]; rfl)
  have p17 : Hid (P1[17]? = some (.int .u64 (s 4).x1)) := hidden (by rw [← hP1]; rfl)
  have p18 : Hid (P1[18]? = some (.int .u64 (s 4).x2)) := hidden (by rw [← hP1]; rfl)
  have p19 : Hid (P1[19]? = some (.int .u64 (s 4).x3)) := hidden (by rw [← hP1]; rfl)
  have p20 : Hid (P1[20]? = some (.int .u64 (s 5).x0)) := hidden (by rw [← hP1]; rfl)
  have p21 : Hid (P1[21]? = some (.int .u64 (s 5).x1)) := hidden (by rw [← hP1]; rfl)
  have p22 : Hid (P1[22]? = some (.int .u64 (s 5).x2)) := hidden (by rw [← hP1]; rfl)
  have p23 : Hid (P1[23]? = some (.int .u64 (s 5).x3)) := hidden (by rw [← hP1]; rfl)
  have p24 : Hid (P1[24]? = some (.int .u64 (s 6).x0)) := hidden (by rw [← hP1]; rfl)
  have p25 : Hid (P1[25]? = some (.int .u64 (s 6).x1)) := hidden (by rw [← hP1]; rfl)
  have p26 : Hid (P1[26]? = some (.int .u64 (s 6).x2)) := hidden (by rw [← hP1]; rfl)
  have p27 : Hid (P1[27]? = some (.int .u64 (s 6).x3)) := hidden (by rw [← hP1]; rfl)
  have p30 : Hid (P1[30]? = some (.int .u64 (s 7).x0)) := hidden (by rw [← hP1]; rfl)
  have p31 : Hid (P1[31]? = some (.int .u64 (s 7).x1)) := hidden (by rw [← hP1]; rfl)
  have p32 : Hid (P1[32]? = some (.int .u64 (s 7).x2)) := hidden (by rw [← hP1]; rfl)
  have p33 : Hid (P1[33]? = some (.int .u64 (s 7).x3)) := hidden (by rw [← hP1]; rfl)
  have p34 : Hid (P1[34]? = some (.int .u64 (s 8).x0)) := hidden (by rw [← hP1]; rfl)
  have p35 : Hid (P1[35]? = some (.int .u64 (s 8).x1)) := hidden (by rw [← hP1]; rfl)
  have p36 : Hid (P1[36]? = some (.int .u64 (s 8).x2)) := hidden (by rw [← hP1]; rfl)
  have p37 : Hid (P1[37]? = some (.int .u64 (s 8).x3)) := hidden (by rw [← hP1]; rfl)
  have p28 : Hid (P1[28]? = some (.slice LP n cL)) := hidden (by rw [← hP1]; rfl)
  have p29 : Hid (P1[29]? = some (.slice RP q cR)) := hidden (by rw [← hP1]; rfl)
  rw [hP1]
  have HM := hidden hm
  have HOS := hidden os
  have HOL := hidden ol
  have HOR := hidden or
  have HLL := hidden hL
  have HRR := hidden hR
  have M0 := ((Mw.start w).new P1 28).new z125 47
  simp only [World.size_alloc] at M0
  replace M0 := hidden M0
  have D0 := hidden (d125 s)
  have mm0 : (0 : Int) ≤ (m : Int) := by omega
  have HN := hidden hn
  have HQ2 := hidden hq
  have HX2 := hidden hx
  have nn0 : (0 : Int) ≤ (n : Int) := by omega
  have qq0 : (0 : Int) ≤ (q : Int) := by omega
  clear hm hn hq hx os ol or hL hR hP1
  go_enter Tryz.func4, Tryz.ntmps4
  go_upto_region 2 with (first | refine wpList_alloc125 rfl rfl ?_)
  have hT1 : w.heap.size < (((w.alloc (.cells P1.toArray 28)).alloc (.cells z125.toArray 47))).heap.size := by simp; omega
  have hT3 : w.heap.size + 1 < (((w.alloc (.cells P1.toArray 28)).alloc (.cells z125.toArray 47))).heap.size := by simp
  simp only [World.size_alloc] at hT1 hT3 ⊢
  have SZW : w.heap.size ≤ w.heap.size + 1 + 1 := by omega
  generalize hw2 : (w.alloc (.cells P1.toArray 28)).alloc (.cells z125.toArray 47) = w2 at *
  have hsz2 : w2.heap.size = w.heap.size + 1 + 1 := by rw [← hw2]; simp
  clear hw2
  obtain ⟨T1, eT1⟩ : ∃ T, w.heap.size = T := ⟨_, rfl⟩
  obtain ⟨T3, eT3⟩ : ∃ T, w.heap.size + 1 = T := ⟨_, rfl⟩
  obtain ⟨B, eB⟩ : ∃ B, w2.heap.size = B := ⟨_, rfl⟩
  have HT : Hid (w.heap.size = T1 ∧ w.heap.size + 1 = T3 ∧ w2.heap.size = B ∧ w.heap.size ≤ B ∧ T1 < B ∧ T3 < B ∧ T1 ≠ T3 ∧ B = T3 + 1) := hidden ⟨eT1, eT3, eB, by omega, by omega, by omega, by omega, by omega⟩
  rw [eT3] at M0 ⊢
  rw [show Mw w [(T3, z125), (w.heap.size, P1)] w2 = Mw w [(T3, z125), (T1, P1)] w2 by rw [eT1]] at M0
  rw [show (Value.pointer (some ⟨w.heap.size, 0, none⟩)) = .pointer (some ⟨T1, 0, none⟩) by rw [eT1]]
  have BZ : Hid (B ≤ w2.heap.size) := hidden (by omega)
  clear eT1 eT3 eB hT1 hT3 SZW hsz2
  generalize z125 = Dz at M0 D0
  go_wp2_with fail
  go_loopw [4] (fun kv w' => ∃ (k : Nat) (D : List Value), k ≤ 4 ∧ kv = .int .i64 (k : Int) ∧ Hid (Dd D s k 0 0 (.slice none 0 0)) ∧ Hid (Mw w [(T3, D), (T1, P1)] w') ∧ Hid (B ≤ w'.heap.size)) (fun k _ => 4 - (intOf k).toNat)
  case atStart => exact ⟨0, Dz, by omega, rfl, D0, M0, BZ⟩
  case round =>
    clear D0 M0 BZ
    obtain ⟨k, D, hk, rfl, hD, hMw, hBs⟩ := hrel
    by_cases hk4 : k < 4
    · have k0 : (0 : Int) ≤ (k : Int) := by omega
      have k1 : (k : Int) < 4 := by omega
      have w9 : IntKind.i64.wrap ((k : Int) + 1) = (k : Int) + 1 := IntWalk.i64_in _ (by omega)
      have hr := (hMw.out.r (T1, P1) (by simp)).1
      have x0 := hr (k * 4 + 0) _ (PK.out k hk4 0 _ rfl)
      have x1 := hr (k * 4 + 1) _ (PK.out k hk4 1 _ rfl)
      have x2 := hr (k * 4 + 2) _ (PK.out k hk4 2 _ rfl)
      have x3 := hr (k * 4 + 3) _ (PK.out k hk4 3 _ rfl)
      simp only [Nat.zero_add, Nat.add_zero] at x0 x1 x2 x3
      have zok := HOS.out k (by omega)
      have DN := hidden (hD.out.four1 hk4)
      have PL : Hid (k * 26 + (el (lst (s k).n)).length ≤ D.length) := hidden (by rw [hD.out.len, el_len]; omega)
      generalize s k = z at x0 x1 x2 x3 zok DN PL
      obtain ⟨q, hq⟩ : ∃ q, lst z.n = q := ⟨_, rfl⟩
      have LE := hidden (fun x => fix (rleast_any z x zok) hq)
      have LO := hidden (fun x => lineOf_any q x)
      rw [hq] at DN PL
      have I2 := hidden (el_i2 q)
      have O2 := hidden (el_one q)
      simp only [E4.v] at LE LO
      generalize el q = le at LO DN PL I2 O2
      clear hr zok hq hD
      go_upto_region 4 with (first | (go_at_call 22; refine (LE.out _).mono ?_; rintro e wa ⟨rfl, hb⟩; have MA := hidden (hMw.out.keep hb); have BA := hidden (Nat.le_trans hBs.out hb.size); clear hb hMw hBs) | (go_at_call 21; refine (LO.out _).mono ?_; rintro e wb ⟨rfl, hb⟩; have MB := hidden (MA.out.keep hb); have BB := hidden (Nat.le_trans BA.out hb.size); have MP := hidden (MB.out.pt (k * 26) le PL.out HT.out.2.2.2.2.2.2.1); clear hb MA BA MB) | refine wpList_store_mid rfl 41 _ _ rfl T3 (k * 26) le.toArray (by rfl) (by rfl) MP.out.2 I2.out O2.out ?_)
      have MQ := hidden MP.out.1
      have BQ := hidden (show B ≤ (wb.setCells T3 (k * 26) le).heap.size by rw [size_setCellsM]; exact BB.out)
      clear MP BB x0 x1 x2 x3 LE LO
      go_wp2_with fail
      go_roundw
      case rel => exact ⟨k + 1, _, by omega, by go_num, DN, MQ, BQ⟩
      case measure => simp [intOf]; omega
    · obtain rfl : k = 4 := by omega
      rw [show ((4 : Nat) : Int) = 4 from rfl]
      clear hk4 hk PK
      go_upto_region 6 with fail
      have SL4 := hidden (fun x => fix (rleast_any (s 4) x (HOS.out 4 (by omega))) rfl)
      have SL5 := hidden (fun x => fix (rleast_any (s 5) x (HOS.out 5 (by omega))) rfl)
      have SL6 := hidden (fun x => fix (rleast_any (s 6) x (HOS.out 6 (by omega))) rfl)
      simp only [E4.v] at SL4 SL5 SL6
      refine by6 _ T1 T3 D P1 (s 4) (s 5) (s 6) (lst (s 4).n) (lst (s 5).n) (lst (s 6).n) _ _ _ _ _ _ _ _ _ _ _ _ _ _ _ _ _ _ _ _ _ _ _ _ _ _ _ _ _ _ _ _ _ _ _ _ _ _ _ _ _ _ _ _ _ _ _ _ _ _ _ _ _ _ _ _ _ _ _ _ _ _ _ _ _ _ _ _ _ _ _ _ _ _ _ _ _ w wr HT.out.2.2.2.2.2.2.1 hD.out.len hMw.out p16.out p17.out p18.out p19.out p20.out p21.out p22.out p23.out p24.out p25.out p26.out p27.out SL4 SL5 SL6 (hidden ?_)
      intro wz mz _
      have DZ := hidden (((hD.out.three1 (by omega)).three1 (by omega)).three1 (by omega))
      simp only [Nat.zero_add, Nat.reduceMul, Nat.reduceAdd] at DZ
      obtain ⟨D6, d6, m6⟩ : ∃ D6, Dd D6 s 4 3 0 (.slice none 0 0) ∧ Mw w [(T3, D6), (T1, P1)] wz := ⟨_, DZ.out, mz⟩
      have H6 := hidden d6
      have M6 := hidden m6
      have SB : Hid (∀ D x, Mw w [(T3, D), (T1, P1)] x → B ≤ x.heap.size) := hidden (fun D x h => by
        have h1 := (h.r (T3, D) (by simp)).2.2.2
        have h2 := HT.out
        simp only at h1
        omega)
      clear DZ mz d6 m6 SL4 SL5 SL6 hD hMw hBs p16 p17 p18 p19 p20 p21 p22 p23 p24 p25 p26 p27
      generalize wz = w6 at *
      have CC : Hid (∀ D x, Mw w [(T3, D), (T1, P1)] x → x.cell? ⟨T1, 28, none⟩ = some (.slice LP n cL) ∧ x.cell? ⟨T1, 29, none⟩ = some (.slice RP q cR)) := hidden (fun D x h => by
        have hr := (h.r (T1, P1) (by simp)).1
        have a := hr 28 _ p28.out
        have b := hr 29 _ p29.out
        simp only [Nat.zero_add] at a b
        exact ⟨a, b⟩)
      go_wp2_with fail
      go_loopw [5] (fun kv w' => ∃ (i : Nat) (D : List Value) (v : Value), i ≤ m ∧ kv = .int .i64 (i : Int) ∧ Hid (Dd D s 4 3 0 v) ∧ Hid (Mw w [(T3, D), (T1, P1)] w') ∧ Hid (w'.ownsRow B 41 26 v (2 * i) (evs (2 * i) (fo m s l r)))) (fun k _ => m - (intOf k).toNat)
      case atStart => exact ⟨0, D6, .slice none 0 0, by omega, rfl, H6, M6, hidden (World.ownsRow_nil _ _ _ _)⟩
      case round =>
        clear H6 M6
        obtain ⟨i, D, v, hi, rfl, hD, hMw, hO⟩ := hrel
        have c28 := (CC.out _ _ hMw.out).1
        have c29 := (CC.out _ _ hMw.out).2
        by_cases him : i < m
        · have i0 : (0 : Int) ≤ (i : Int) := by omega
          have i1 : (i : Int) < (n : Int) := by have := HN.out; omega
          have i2 : (i : Int) < (q : Int) := by have := HQ2.out; omega
          have w9 : IntKind.i64.wrap ((i : Int) + 1) = (i : Int) + 1 := IntWalk.i64_in _ (by have := HM.out; omega)
          go_upto_region 10 with fail
          clear c28 c29
          obtain ⟨sb, so, h1, h2⟩ := HLL.out
          obtain ⟨rb, ro, g1, g2⟩ := HRR.out
          obtain rfl := h1 (by have := HN.out; omega)
          obtain rfl := g1 (by have := HQ2.out; omega)
          have rl := h2 (by have := HN.out; omega)
          have rr := g2 (by have := HQ2.out; omega)
          have okl := HOL.out i him
          have okr := HOR.out i him
          have LL := hidden (fun x => fix (rleast_any (l i) x okl) rfl)
          have LR := hidden (fun x => fix (rleast_any (r i) x okr) rfl)
          have OL := hidden (fun x => lineOf_any (lst (l i).n) x)
          have OR := hidden (fun x => lineOf_any (lst (r i).n) x)
          simp only [E4.v] at LL LR OL OR
          refine by10 _ T1 T3 B (2 * i) n q i sb so cL rb ro cR D P1 _ (el (lst (l i).n)) (el (lst (r i).n)) v (l i) (lst (l i).n) (r i) (lst (r i).n) _ _ _ _ _ _ _ _ _ _ _ _ _ _ _ _ _ _ _ _ _ _ _ _ _ _ _ _ _ _ _ _ _ _ _ _ _ _ _ _ _ _ _ _ _ _ _ _ _ _ _ _ _ _ _ _ _ _ _ _ _ _ _ _ _ _ _ _ _ _ _ _ _ _ _ _ w wr HT.out.2.2.2.2.2.2.1 hD.out.len hD.out.lr hMw.out hO.out (by have := HM.out; omega) (SB.out _ _ hMw.out) HT.out.2.2.2.1 HT.out.2.2.2.2.1 HT.out.2.2.2.2.2.1 i0 i1 i2 (el_len _) (el_len _) (el_oneL _) (el_oneL _) p28.out p29.out (rl.c0 i (Nat.lt_of_lt_of_le him HN.out)) (rl.c1 i (Nat.lt_of_lt_of_le him HN.out)) (rl.c2 i (Nat.lt_of_lt_of_le him HN.out)) (rl.c3 i (Nat.lt_of_lt_of_le him HN.out)) (rr.c0 i (Nat.lt_of_lt_of_le him HQ2.out)) (rr.c1 i (Nat.lt_of_lt_of_le him HQ2.out)) (rr.c2 i (Nat.lt_of_lt_of_le him HQ2.out)) (rr.c3 i (Nat.lt_of_lt_of_le him HQ2.out)) LL OL LR OR (hidden (fun x => buildE2 _ _ x)) (hidden ?_)
          intro xb va wz oz mz
          have OZ := hidden (step_evs him oz)
          have MZ := hidden mz
          have DZ := hidden (hD.out.lr1 (c := 0) va)
          clear oz mz LL LR OL OR rl rr okl okr h1 h2 g1 g2 hD hMw hO
          go_wp2_with fail
          go_roundw
          case rel => exact ⟨i + 1, _, va, by omega, by go_num, DZ, MZ, OZ⟩
          case measure => simp [intOf]; omega
        · obtain rfl : i = m := by omega
          have lq : (i : Int) < (n : Int) := by have := HX2.out; omega
          have lr : ¬ (i : Int) < (q : Int) := by have := HX2.out; omega
          go_upto_region 11 with fail
          clear c28 c29 lq lr him hi
          have SL7 := hidden (fun x => fix (rleast_any (s 7) x (HOS.out 7 (by omega))) rfl)
          have SL8 := hidden (fun x => fix (rleast_any (s 8) x (HOS.out 8 (by omega))) rfl)
          simp only [E4.v] at SL7 SL8
          refine by11 _ T1 T3 D P1 (s 7) (s 8) (lst (s 7).n) (lst (s 8).n) _ _ _ _ _ _ _ _ _ _ _ _ _ _ _ _ _ _ _ _ _ _ _ _ _ _ _ _ _ _ _ _ _ _ _ _ _ _ _ _ _ _ _ _ _ _ _ _ _ _ _ _ _ _ _ _ _ _ _ _ _ _ _ _ _ _ _ _ _ _ _ _ _ _ _ _ _ w wr HT.out.2.2.2.2.2.2.1 hD.out.len hMw.out p30.out p31.out p32.out p33.out p34.out p35.out p36.out p37.out SL7 SL8 (hidden ?_)
          intro wz mz kz
          have DZ := hidden ((hD.out.two1 (by omega)).two1 (by omega))
          simp only [Nat.zero_add, Nat.reduceMul, Nat.reduceAdd] at DZ
          have OZ := kz.own hO.out (fun e => by have h1 := (hO.out.lt T3 e).1; have h2 := HT.out; omega)
          obtain ⟨pv, cv, hv⟩ := own_shapeQ OZ
          subst hv
          obtain ⟨D7, d7, m7⟩ : ∃ D7, Dd D7 s 4 3 2 (.slice pv (2 * i) cv) ∧ Mw w [(T3, D7), (T1, P1)] wz := ⟨_, DZ.out, mz⟩
          have RN := hidden (m7.r (T3, D7) (by simp)).1
          have IE : Hid ((Tryz.prog.info? 47).map (·.size) = some D7.length) := hidden (by rw [d7.len]; exact pinfoQ)
          have UE : Hid (Tryz.prog.underlying 47 = _) := hidden Tryz.underlying47
          have EN := hidden (rEncodeProof_any D7 i (st i s l r) pv cv wz HM.out (dp_of d7 OZ))
          have BW := hidden m7.bel
          clear DZ OZ d7 m7 mz kz hD hMw hO SL7 SL8 CC SB
          generalize wz = w7 at *
          go_wp2_with (first | refine wpList_load_mid rfl 47 _ rfl T3 0 (by rfl) D7 _ RN.out UE.out rfl IE.out ?_ | (go_at_call 5; refine EN.out.mono ?_; rintro e w8 ⟨G, c, rfl, ho, hb⟩; have O8 := hidden (own_lessQ ho BW.out.size); have B8 := hidden (bl_trans BW.out hb); clear ho hb))
          refine bodyPost_ret (v := .slice (some ⟨G, 0, none⟩) (32 * (9 + 2 * i)) c) (by simp [results, Tryz.results4, go_sem]) rfl ?_
          first | exact ⟨G, c, rfl, O8.out, B8.out⟩ | exact ⟨G, ⟨c, rfl⟩, O8.out, B8.out⟩
theorem bytes_wide (s l r : Nat → E4) (LP RP : Option Addr) (m n q cL cR : Nat) (w : World) (hm : m ≤ 1048576) (hn : m ≤ n) (hq : m ≤ q) (hx : m = n ∨ m = q) (os : ∀ k, k < 9 → (s k).ok) (ol : ∀ k, k < m → (l k).ok) (or : ∀ k, k < m → (r k).ok) (hL : Lm w LP n l) (hR : Lm w RP q r) :
    Calls Tryz.prog 4 #[.agg (pc s (.slice LP n cL) (.slice RP q cR)).toArray] w fun e w' => ∃ G c : Nat, e = .returned (.slice (some ⟨G, 0, none⟩) (32 * (9 + 2 * m)) c) ∧ w'.ownsRow w.heap.size 5 1 (.slice (some ⟨G, 0, none⟩) (32 * (9 + 2 * m)) c) (32 * (9 + 2 * m)) (Tr.cb (pe m s l r)) ∧ Below w.heap.size w w' := by
  by_cases h : m < n
  · exact bytes_w2 s l r LP RP m n q cL cR w hm hn hq ⟨h, by omega⟩ os ol or hL hR
  · exact bytes_w1 s l r LP RP m n q cL cR w hm hn hq h os ol or hL hR
theorem bytes_any (s l r : Nat → E4) (LP RP : Option Addr) (m cL cR : Nat) (w : World) (hm : m ≤ 10) (os : ∀ k, k < 9 → (s k).ok) (ol : ∀ k, k < m → (l k).ok) (or : ∀ k, k < m → (r k).ok) (hL : Lm w LP m l) (hR : Lm w RP m r) :
    Calls Tryz.prog 4 #[.agg (pc s (.slice LP m cL) (.slice RP m cR)).toArray] w fun e w' => ∃ G c : Nat, e = .returned (.slice (some ⟨G, 0, none⟩) (32 * (9 + 2 * m)) c) ∧ w'.ownsRow w.heap.size 5 1 (.slice (some ⟨G, 0, none⟩) (32 * (9 + 2 * m)) c) (32 * (9 + 2 * m)) (Tr.cb (pe m s l r)) ∧ Below w.heap.size w w' := bytes_wide s l r LP RP m m m cL cR w (by omega) (Nat.le_refl _) (Nat.le_refl _) (.inl rfl) os ol or hL hR
end Go.Proofs.YtkfkmndhbfeagaaGreatDoor
