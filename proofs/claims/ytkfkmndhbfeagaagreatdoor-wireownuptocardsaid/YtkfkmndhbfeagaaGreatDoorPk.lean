import Derived.Test.YtkfkmndhbfeagaaGreatDoorPj
namespace Go.Proofs.YtkfkmndhbfeagaaGreatDoor
open Go.RowKit
set_option linter.unusedVariables false
/-- f with z in place i -/
def up (f : Nat → E4) (i : Nat) (z : E4) : Nat → E4 := fun j => if j = i then z else f j
/-- DecodeProof's memory: what lies where, the Reader, the table -/
structure Dm (w0 : World) (g q B7 bL bR B2 k : Nat) (P7 zp : List Value) (fl fr : Nat → E4) (bs : List UInt8) (e : Int) (w : World) : Prop where
  m : Mw w0 [(B7, P7), (bL, svs k fl), (bR, svs k fr), (B2, zp)] w
  rb : Rb w g q bs e
  tb : Tb w
  sL : Shp w bL 52 (k * 4)
  sR : Shp w bR 52 (k * 4)
/-- numbers of blocks that differ -/
structure Dn (w0 : World) (g q B7 bL bR B2 : Nat) : Prop where
  g0 : w0.heap.size ≤ g
  t0 : 5 < w0.heap.size
  h7 : w0.heap.size ≤ B7
  hL : w0.heap.size ≤ bL
  hR : w0.heap.size ≤ bR
  n1 : B7 ≠ g
  n2 : bL ≠ g
  n3 : bR ≠ g
  n4 : B2 ≠ g
  n5 : bL ≠ B7
  n6 : bR ≠ B7
  n7 : bL ≠ bR
  n8 : B2 ≠ B7
  n9 : B2 ≠ bL
  n10 : B2 ≠ bR
  q1 : q ≠ B7
  q2 : q ≠ bL
  q3 : q ≠ bR
theorem Dm.next {w0 : World} {g q B7 bL bR B2 k : Nat} {P7 zp : List Value} {fl fr : Nat → E4} {bs bs' : List UInt8} {e e' : Int} {w w' : World} (D : Dn w0 g q B7 bL bR B2) (h : Dm w0 g q B7 bL bR B2 k P7 zp fl fr bs e w) (hr : Rb w' g q bs' e') (hk : Tr.Kp g w w') : Dm w0 g q B7 bL bR B2 k P7 zp fl fr bs' e' w' :=
  ⟨h.m.kp hk D.g0 (fun p hp => by
    simp only [List.mem_cons, List.not_mem_nil, or_false] at hp
    rcases hp with rfl | rfl | rfl | rfl
    · exact D.n1
    · exact D.n2
    · exact D.n3
    · exact D.n4), hr, h.tb.kp hk (by have := D.t0; have := D.g0; omega), h.sL.kp hk D.n2, h.sR.kp hk D.n3⟩
theorem Tb.new {w0 w w' : World} {b : Nat} (h : Tb w) (k : Tr.Kp b w w') (h0 : w0.heap.size ≤ b) (ht : 5 < w0.heap.size) : Tb w' := h.kp k (by omega)
theorem Dm.p7 {w0 : World} {g q B7 bL bR B2 k : Nat} {P7 zp : List Value} {fl fr : Nat → E4} {bs : List UInt8} {e : Int} {w : World} (D : Dn w0 g q B7 bL bR B2) (h : Dm w0 g q B7 bL bR B2 k P7 zp fl fr bs e w) (o : Nat) (vs xs ys : List Value) (hcs : ∃ us, us.length = vs.length ∧ P7 = xs ++ (us ++ ys)) (ho : xs.length = o) :
    Dm w0 g q B7 bL bR B2 k (xs ++ (vs ++ ys)) zp fl fr bs e (w.setCells B7 o vs) ∧ w.there B7 o vs.toArray.size := by
  obtain ⟨h1, h2⟩ := h.m.patch o vs xs ys hcs ho (fun p hp => by
    simp only [List.mem_cons, List.not_mem_nil, or_false] at hp
    rcases hp with rfl | rfl | rfl
    · exact D.n5
    · exact D.n6
    · exact D.n8)
  exact ⟨⟨h1, h.rb.kp (kp_setCells B7 vs o w) (fun e => D.n1 e.symm) D.q1, Tb.new h.tb (kp_setCells B7 vs o w) D.h7 D.t0, Shp.sets B7 vs o h.sL, Shp.sets B7 vs o h.sR⟩, h2⟩
theorem Dm.pL {w0 : World} {g q B7 bL bR B2 k : Nat} {P7 zp : List Value} {fl fr : Nat → E4} {bs : List UInt8} {e : Int} {w : World} (D : Dn w0 g q B7 bL bR B2) (h : Dm w0 g q B7 bL bR B2 k P7 zp fl fr bs e w) (i : Nat) (hi : i < k) (z : E4) :
    Dm w0 g q B7 bL bR B2 k P7 zp (up fl i z) fr bs e (w.setCells bL (i * 4) [.int .u64 z.x0, .int .u64 z.x1, .int .u64 z.x2, .int .u64 z.x3]) ∧ w.there bL (i * 4) ([.int .u64 z.x0, .int .u64 z.x1, .int .u64 z.x2, .int .u64 z.x3] : List Value).toArray.size := by
  obtain ⟨ys, e1, e2⟩ := svs_split fl i z k hi
  obtain ⟨h1, h2⟩ := (h.m.sub (M := [(bL, svs k fl), (B7, P7), (bR, svs k fr), (B2, zp)]) (by simp)).patch (i * 4) [.int .u64 z.x0, .int .u64 z.x1, .int .u64 z.x2, .int .u64 z.x3] (svs i fl) ys ⟨_, by simp, e1⟩ (svs_len i fl) (fun p hp => by
    simp only [List.mem_cons, List.not_mem_nil, or_false] at hp
    rcases hp with rfl | rfl | rfl
    · exact fun e => D.n5 e.symm
    · exact fun e => D.n7 e.symm
    · exact D.n9)
  rw [← (show svs k (up fl i z) = _ from e2)] at h1
  exact ⟨⟨h1.sub (by simp), h.rb.kp (kp_setCells bL _ _ w) (fun e => D.n2 e.symm) D.q2, Tb.new h.tb (kp_setCells bL _ _ w) D.hL D.t0, Shp.sets bL _ _ h.sL, Shp.sets bL _ _ h.sR⟩, h2⟩
theorem Dm.pR {w0 : World} {g q B7 bL bR B2 k : Nat} {P7 zp : List Value} {fl fr : Nat → E4} {bs : List UInt8} {e : Int} {w : World} (D : Dn w0 g q B7 bL bR B2) (h : Dm w0 g q B7 bL bR B2 k P7 zp fl fr bs e w) (i : Nat) (hi : i < k) (z : E4) :
    Dm w0 g q B7 bL bR B2 k P7 zp fl (up fr i z) bs e (w.setCells bR (i * 4) [.int .u64 z.x0, .int .u64 z.x1, .int .u64 z.x2, .int .u64 z.x3]) ∧ w.there bR (i * 4) ([.int .u64 z.x0, .int .u64 z.x1, .int .u64 z.x2, .int .u64 z.x3] : List Value).toArray.size := by
  obtain ⟨ys, e1, e2⟩ := svs_split fr i z k hi
  obtain ⟨h1, h2⟩ := (h.m.sub (M := [(bR, svs k fr), (B7, P7), (bL, svs k fl), (B2, zp)]) (by simp)).patch (i * 4) [.int .u64 z.x0, .int .u64 z.x1, .int .u64 z.x2, .int .u64 z.x3] (svs i fr) ys ⟨_, by simp, e1⟩ (svs_len i fr) (fun p hp => by
    simp only [List.mem_cons, List.not_mem_nil, or_false] at hp
    rcases hp with rfl | rfl | rfl
    · exact fun e => D.n6 e.symm
    · exact D.n7
    · exact D.n10)
  rw [← (show svs k (up fr i z) = _ from e2)] at h1
  exact ⟨⟨h1.sub (by simp), h.rb.kp (kp_setCells bR _ _ w) (fun e => D.n3 e.symm) D.q3, Tb.new h.tb (kp_setCells bR _ _ w) D.hR D.t0, Shp.sets bR _ _ h.sL, Shp.sets bR _ _ h.sR⟩, h2⟩
def dp11o : Array Oper := #[{ dst := some 51, op := Op.fieldAddr 55 (Operand.tmp 7) 7, type := 0, pos := "proof.go:64", after := #[], guard := none },
  { dst := some 52, op := Op.load 53 (Operand.tmp 51), type := 53, pos := "proof.go:64", after := #[{ on := 0, ground := Ground.data }], guard := none },
  { dst := some 53, op := Op.move (Operand.tmp 8), type := 3, pos := "proof.go:64", after := #[], guard := none },
  { dst := some 54, op := Op.fieldAddr 55 (Operand.tmp 7) 8, type := 0, pos := "proof.go:64", after := #[{ on := 11, ground := Ground.gcOnly Departure.lateStores }], guard := none },
  { dst := some 55, op := Op.load 53 (Operand.tmp 54), type := 53, pos := "proof.go:64", after := #[{ on := 3, ground := Ground.data }, { on := 11, ground := Ground.gcOnly Departure.lateStores }], guard := none },
  { dst := some 56, op := Op.move (Operand.tmp 8), type := 3, pos := "proof.go:64", after := #[{ on := 11, ground := Ground.gcOnly Departure.lateStores }], guard := none },
  { dst := some 57, op := Op.move (Operand.tmp 6), type := 63, pos := "proof.go:64", after := #[], guard := none },
  { dst := some 58, op := Op.call { callee := Callee.value (Operand.func 30), args := #[Operand.tmp 57], argTypes := #[63] }, type := 52, pos := "proof.go:64", after := #[{ on := 6, ground := Ground.data }], guard := none },
  { dst := some 59, op := Op.move (Operand.tmp 6), type := 63, pos := "proof.go:64", after := #[], guard := none },
  { dst := some 60, op := Op.call { callee := Callee.value (Operand.func 30), args := #[Operand.tmp 59], argTypes := #[63] }, type := 52, pos := "proof.go:64", after := #[{ on := 8, ground := Ground.data }, { on := 7, ground := Ground.chain }], guard := none },
  { dst := some 61, op := Op.indexAddr 53 (Operand.tmp 52) (Operand.tmp 53), type := 0, pos := "proof.go:64", after := #[{ on := 1, ground := Ground.data }, { on := 2, ground := Ground.data }, { on := 0, ground := Ground.phase }, { on := 1, ground := Ground.phase }, { on := 2, ground := Ground.phase }, { on := 3, ground := Ground.textOnly Departure.lateStores }, { on := 4, ground := Ground.textOnly Departure.lateStores }, { on := 5, ground := Ground.textOnly Departure.lateStores }, { on := 6, ground := Ground.phase }, { on := 7, ground := Ground.phase }, { on := 8, ground := Ground.textOnly Departure.lateStores }, { on := 9, ground := Ground.phase }], guard := none },
  { dst := none, op := Op.store 52 (Operand.tmp 61) (Operand.tmp 58), type := 0, pos := "proof.go:64", after := #[{ on := 10, ground := Ground.data }, { on := 7, ground := Ground.data }, { on := 9, ground := Ground.chain }, { on := 0, ground := Ground.phase }, { on := 1, ground := Ground.phase }, { on := 2, ground := Ground.phase }, { on := 3, ground := Ground.textOnly Departure.lateStores }, { on := 4, ground := Ground.textOnly Departure.lateStores }, { on := 5, ground := Ground.textOnly Departure.lateStores }, { on := 6, ground := Ground.phase }, { on := 7, ground := Ground.phase }, { on := 8, ground := Ground.textOnly Departure.lateStores }, { on := 9, ground := Ground.phase }], guard := none },
  { dst := some 62, op := Op.indexAddr 53 (Operand.tmp 55) (Operand.tmp 56), type := 0, pos := "proof.go:64", after := #[{ on := 4, ground := Ground.data }, { on := 5, ground := Ground.data }, { on := 0, ground := Ground.phase }, { on := 1, ground := Ground.phase }, { on := 2, ground := Ground.phase }, { on := 3, ground := Ground.phase }, { on := 4, ground := Ground.phase }, { on := 5, ground := Ground.phase }, { on := 6, ground := Ground.phase }, { on := 7, ground := Ground.phase }, { on := 8, ground := Ground.phase }, { on := 9, ground := Ground.phase }, { on := 10, ground := Ground.phase }, { on := 11, ground := Ground.phase }], guard := none },
  { dst := none, op := Op.store 52 (Operand.tmp 62) (Operand.tmp 60), type := 0, pos := "proof.go:64", after := #[{ on := 12, ground := Ground.data }, { on := 9, ground := Ground.data }, { on := 11, ground := Ground.chain }, { on := 0, ground := Ground.phase }, { on := 1, ground := Ground.phase }, { on := 2, ground := Ground.phase }, { on := 3, ground := Ground.phase }, { on := 4, ground := Ground.phase }, { on := 5, ground := Ground.phase }, { on := 6, ground := Ground.phase }, { on := 7, ground := Ground.phase }, { on := 8, ground := Ground.phase }, { on := 9, ground := Ground.phase }, { on := 10, ground := Ground.phase }, { on := 11, ground := Ground.phase }], guard := none }]
set_option maxRecDepth 100000 in
set_option maxHeartbeats 16000000 in
theorem dp11 (Q : Exit → Act → World → Prop) (g q B7 bL bR B2 k i : Nat) (P7 zp : List Value) (fl fr : Nat → E4) (z1 z2 : E4) (bs0 bs1 bs2 : List UInt8) (e0 e1 e2 : Int) (u0 u1 u2 u3 u4 u5 u9 u10 u11 u12 u13 u14 u15 u16 u17 u18 u19 u20 u21 u22 u23 u24 u25 u26 u27 u28 u29 u30 u31 u32 u33 u34 u35 u36 u37 u38 u39 u40 u41 u42 u43 u44 u45 u46 u47 u48 u49 u50 u51 u52 u53 u54 u55 u56 u57 u58 u59 u60 u61 u62 u63 u64 u65 u66 u67 u68 u69 u70 u71 u72 u73 u74 u75 u76 : Value) (w0 W : World) (hi : i < k) (D : Dn w0 g q B7 bL bR B2) (hq : q < W.heap.size)
    (h28 : P7[28]? = some (.slice (some ⟨bL, 0, none⟩) k k)) (h29 : P7[29]? = some (.slice (some ⟨bR, 0, none⟩) k k)) (HM : Dm w0 g q B7 bL bR B2 k P7 zp fl fr bs0 e0 W)
    (C1 : Hid (∀ x, Rb x g q bs0 e0 → Tb x → q < x.heap.size → Calls Tryz.prog 30 #[.pointer (some ⟨g, 0, none⟩)] x fun r w' => r = .returned (.agg #[.int .u64 z1.x0, .int .u64 z1.x1, .int .u64 z1.x2, .int .u64 z1.x3]) ∧ Rb w' g q bs1 e1 ∧ Tr.Kp g x w')) (C2 : Hid (∀ x, Rb x g q bs1 e1 → Tb x → q < x.heap.size → Calls Tryz.prog 30 #[.pointer (some ⟨g, 0, none⟩)] x fun r w' => r = .returned (.agg #[.int .u64 z2.x0, .int .u64 z2.x1, .int .u64 z2.x2, .int .u64 z2.x3]) ∧ Rb w' g q bs2 e2 ∧ Tr.Kp g x w'))
    (HQ : Hid (∀ wz, W.heap.size ≤ wz.heap.size → Dm w0 g q B7 bL bR B2 k P7 zp (up fl i z1) (up fr i z2) bs2 e2 wz → Q .normal ⟨#[u0, u1, u2, u3, u4, u5, .pointer (some ⟨g, 0, none⟩), .pointer (some ⟨B7, 0, none⟩), .int .i64 (i : Int), u9, u10, u11, u12, u13, u14, u15, u16, u17, u18, u19, u20, u21, u22, u23, u24, u25, u26, u27, u28, u29, u30, u31, u32, u33, u34, u35, u36, u37, u38, u39, u40, u41, u42, u43, u44, u45, u46, u47, u48, u49, u50, .pointer (some ⟨B7, 28, none⟩), .slice (some ⟨bL, 0, none⟩) k k, .int .i64 (i : Int), .pointer (some ⟨B7, 29, none⟩), .slice (some ⟨bR, 0, none⟩) k k, .int .i64 (i : Int), .pointer (some ⟨g, 0, none⟩), .agg #[.int .u64 z1.x0, .int .u64 z1.x1, .int .u64 z1.x2, .int .u64 z1.x3], .pointer (some ⟨g, 0, none⟩), .agg #[.int .u64 z2.x0, .int .u64 z2.x1, .int .u64 z2.x2, .int .u64 z2.x3], .pointer (some ⟨bL, i * 4, none⟩), .pointer (some ⟨bR, i * 4, none⟩), u63, u64, u65, u66, u67, u68, u69, u70, u71, u72, u73, u74, u75, u76], []⟩ wz)) : (Code.region 11 dp11o true).wp Tryz.prog Q ⟨#[u0, u1, u2, u3, u4, u5, .pointer (some ⟨g, 0, none⟩), .pointer (some ⟨B7, 0, none⟩), .int .i64 (i : Int), u9, u10, u11, u12, u13, u14, u15, u16, u17, u18, u19, u20, u21, u22, u23, u24, u25, u26, u27, u28, u29, u30, u31, u32, u33, u34, u35, u36, u37, u38, u39, u40, u41, u42, u43, u44, u45, u46, u47, u48, u49, u50, u51, u52, u53, u54, u55, u56, u57, u58, u59, u60, u61, u62, u63, u64, u65, u66, u67, u68, u69, u70, u71, u72, u73, u74, u75, u76], []⟩ W := by
  have k0 : (0 : Int) ≤ (i : Int) := by omega
  have k1 : (i : Int) < (k : Int) := by omega
  have HI := hidden hi
  have HD := hidden D
  have SK : Hid (∀ fl fr bs e x, Dm w0 g q B7 bL bR B2 k P7 zp fl fr bs e x → x.cell? ⟨B7, 28, none⟩ = some (.slice (some ⟨bL, 0, none⟩) k k) ∧ x.cell? ⟨B7, 29, none⟩ = some (.slice (some ⟨bR, 0, none⟩) k k)) := hidden (fun fl fr bs e x h => by
    have r := (h.m.r (B7, P7) (by simp)).1
    have a := r 28 _ h28
    have b := r 29 _ h29
    simp only [Nat.zero_add] at a b
    exact ⟨a, b⟩)
  have M0 := hidden (HM.next D (HM.rb.keep (Tr.drew_blW W)) (Tr.Kp.of (Tr.drew_blW W)))
  have QL := hidden hq
  have I4 := hidden (i4aL z1)
  have O4 := hidden (c4_one z1)
  have J4 := hidden (i4aL z2)
  have P4 := hidden (c4_one z2)
  clear hi D HM h28 h29 hq
  refine wp_region_noPanic ?_
  refine wp_region_held_drew (S := fun x => x.cell? ⟨B7, 28, none⟩ = some (.slice (some ⟨bL, 0, none⟩) k k) ∧ x.cell? ⟨B7, 29, none⟩ = some (.slice (some ⟨bR, 0, none⟩) k k)) (by kernel_rfl) (SK.out _ _ _ _ _ M0.out) (fun hHeld => ?_)
  change wpAnyH Tryz.prog .any dp11o _ _ 14 #[false, false, false, false, false, false, false, false, false, false, false, false, false, false] _ _
  refine wpAnyH_take (i := 0) (oi := { dst := some 51, op := Op.fieldAddr 55 (Operand.tmp 7) 7, type := 0, pos := "proof.go:64", after := #[], guard := none }) (v := .pointer (some ⟨B7, 28, none⟩)) rfl (by kernel_rfl) (by kernel_rfl) (by kernel_rfl) (fun _ _ _ h => h) (Or.inl ⟨by rfl, fun w0 hSw => ?_⟩) hHeld ?_
  · (obtain ⟨s1, s2⟩ := hSw; go_simp)
  simp only [Act.put, List.setIfInBounds_toArray, List.set_cons_zero, List.set_cons_succ]
  refine wpAnyH_take (i := 1) (oi := { dst := some 52, op := Op.load 53 (Operand.tmp 51), type := 53, pos := "proof.go:64", after := #[{ on := 0, ground := Ground.data }], guard := none }) (v := .slice (some ⟨bL, 0, none⟩) k k) rfl (by kernel_rfl) (by kernel_rfl) (by kernel_rfl) (fun _ _ _ h => h) (Or.inl ⟨by rfl, fun w0 hSw => ?_⟩) hHeld ?_
  · (obtain ⟨s1, s2⟩ := hSw; go_simp)
  simp only [Act.put, List.setIfInBounds_toArray, List.set_cons_zero, List.set_cons_succ]
  refine wpAnyH_take (i := 2) (oi := { dst := some 53, op := Op.move (Operand.tmp 8), type := 3, pos := "proof.go:64", after := #[], guard := none }) (v := .int .i64 (i : Int)) rfl (by kernel_rfl) (by kernel_rfl) (by kernel_rfl) (fun _ _ _ h => h) (Or.inl ⟨by rfl, fun w0 hSw => ?_⟩) hHeld ?_
  · (obtain ⟨s1, s2⟩ := hSw; go_simp)
  simp only [Act.put, List.setIfInBounds_toArray, List.set_cons_zero, List.set_cons_succ]
  refine wpAnyH_take (i := 3) (oi := { dst := some 54, op := Op.fieldAddr 55 (Operand.tmp 7) 8, type := 0, pos := "proof.go:64", after := #[{ on := 11, ground := Ground.gcOnly Departure.lateStores }], guard := none }) (v := .pointer (some ⟨B7, 29, none⟩)) rfl (by kernel_rfl) (by kernel_rfl) (by kernel_rfl) (fun _ _ _ h => h) (Or.inl ⟨by rfl, fun w0 hSw => ?_⟩) hHeld ?_
  · (obtain ⟨s1, s2⟩ := hSw; go_simp)
  simp only [Act.put, List.setIfInBounds_toArray, List.set_cons_zero, List.set_cons_succ]
  refine wpAnyH_take (i := 4) (oi := { dst := some 55, op := Op.load 53 (Operand.tmp 54), type := 53, pos := "proof.go:64", after := #[{ on := 3, ground := Ground.data }, { on := 11, ground := Ground.gcOnly Departure.lateStores }], guard := none }) (v := .slice (some ⟨bR, 0, none⟩) k k) rfl (by kernel_rfl) (by kernel_rfl) (by kernel_rfl) (fun _ _ _ h => h) (Or.inl ⟨by rfl, fun w0 hSw => ?_⟩) hHeld ?_
  · (obtain ⟨s1, s2⟩ := hSw; go_simp)
  simp only [Act.put, List.setIfInBounds_toArray, List.set_cons_zero, List.set_cons_succ]
  refine wpAnyH_take (i := 5) (oi := { dst := some 56, op := Op.move (Operand.tmp 8), type := 3, pos := "proof.go:64", after := #[{ on := 11, ground := Ground.gcOnly Departure.lateStores }], guard := none }) (v := .int .i64 (i : Int)) rfl (by kernel_rfl) (by kernel_rfl) (by kernel_rfl) (fun _ _ _ h => h) (Or.inl ⟨by rfl, fun w0 hSw => ?_⟩) hHeld ?_
  · (obtain ⟨s1, s2⟩ := hSw; go_simp)
  simp only [Act.put, List.setIfInBounds_toArray, List.set_cons_zero, List.set_cons_succ]
  refine wpAnyH_take (i := 6) (oi := { dst := some 57, op := Op.move (Operand.tmp 6), type := 63, pos := "proof.go:64", after := #[], guard := none }) (v := .pointer (some ⟨g, 0, none⟩)) rfl (by kernel_rfl) (by kernel_rfl) (by kernel_rfl) (fun _ _ _ h => h) (Or.inl ⟨by rfl, fun w0 hSw => ?_⟩) hHeld ?_
  · (obtain ⟨s1, s2⟩ := hSw; go_simp)
  simp only [Act.put, List.setIfInBounds_toArray, List.set_cons_zero, List.set_cons_succ]
  refine wpAnyH_take (i := 8) (oi := { dst := some 59, op := Op.move (Operand.tmp 6), type := 63, pos := "proof.go:64", after := #[], guard := none }) (v := .pointer (some ⟨g, 0, none⟩)) rfl (by kernel_rfl) (by kernel_rfl) (by kernel_rfl) (fun _ _ _ h => h) (Or.inl ⟨by rfl, fun w0 hSw => ?_⟩) hHeld ?_
  · (obtain ⟨s1, s2⟩ := hSw; go_simp)
  simp only [Act.put, List.setIfInBounds_toArray, List.set_cons_zero, List.set_cons_succ]
  refine wpAnyH_ready (rs := [7]) (by kernel_rfl) (by simp) ?_
  refine AllReadyH.cons (o := { dst := some 58, op := Op.call { callee := Callee.value (Operand.func 30), args := #[Operand.tmp 57], argTypes := #[63] }, type := 52, pos := "proof.go:64", after := #[{ on := 6, ground := Ground.data }], guard := none }) rfl (fun K hK => ?_) AllReadyH.nil
  clear hHeld
  go_simp
  refine (C1.out _ M0.out.rb M0.out.tb QL.out).mono ?_
  rintro e wn0 ⟨rfl, hr, hk⟩
  have M1 := hidden (M0.out.next HD.out hr hk)
  have QM := hidden (Nat.lt_of_lt_of_le QL.out hk.size)
  have SZ0 : Hid (W.heap.size ≤ wn0.heap.size) := hidden hk.size
  clear C1 M0 hr hk
  go_wp2_with fail
  refine hK.out _ _ (SK.out _ _ _ _ _ M1.out) (fun hH0 => ?_)
  clear hK K
  refine wpAnyH_ready (rs := [9]) (by kernel_rfl) (by simp) ?_
  refine AllReadyH.cons (o := { dst := some 60, op := Op.call { callee := Callee.value (Operand.func 30), args := #[Operand.tmp 59], argTypes := #[63] }, type := 52, pos := "proof.go:64", after := #[{ on := 8, ground := Ground.data }, { on := 7, ground := Ground.chain }], guard := none }) rfl (fun K hK => ?_) AllReadyH.nil
  clear hH0
  go_simp
  refine (C2.out _ M1.out.rb M1.out.tb QM.out).mono ?_
  rintro e wn1 ⟨rfl, hr, hk⟩
  have M2 := hidden (M1.out.next HD.out hr hk)
  have SZ := hidden (Nat.le_trans SZ0.out hk.size)
  clear C2 M1 hr hk
  go_wp2_with fail
  refine hK.out _ _ (SK.out _ _ _ _ _ M2.out) (fun hH1 => ?_)
  clear hK K
  refine wpAnyH_take (i := 10) (oi := { dst := some 61, op := Op.indexAddr 53 (Operand.tmp 52) (Operand.tmp 53), type := 0, pos := "proof.go:64", after := #[{ on := 1, ground := Ground.data }, { on := 2, ground := Ground.data }, { on := 0, ground := Ground.phase }, { on := 1, ground := Ground.phase }, { on := 2, ground := Ground.phase }, { on := 3, ground := Ground.textOnly Departure.lateStores }, { on := 4, ground := Ground.textOnly Departure.lateStores }, { on := 5, ground := Ground.textOnly Departure.lateStores }, { on := 6, ground := Ground.phase }, { on := 7, ground := Ground.phase }, { on := 8, ground := Ground.textOnly Departure.lateStores }, { on := 9, ground := Ground.phase }], guard := none }) (v := .pointer (some ⟨bL, i * 4, none⟩)) rfl (by kernel_rfl) (by kernel_rfl) (by kernel_rfl) (fun _ _ _ h => h) (Or.inl ⟨by rfl, fun w0 hSw => ?_⟩) hH1 ?_
  · (clear hSw; go_simp)
  simp only [Act.put, List.setIfInBounds_toArray, List.set_cons_zero, List.set_cons_succ]
  refine wpAnyH_ready (rs := [11]) (by kernel_rfl) (by simp) ?_
  refine AllReadyH.cons (o := { dst := none, op := Op.store 52 (Operand.tmp 61) (Operand.tmp 58), type := 0, pos := "proof.go:64", after := #[{ on := 10, ground := Ground.data }, { on := 7, ground := Ground.data }, { on := 9, ground := Ground.chain }, { on := 0, ground := Ground.phase }, { on := 1, ground := Ground.phase }, { on := 2, ground := Ground.phase }, { on := 3, ground := Ground.textOnly Departure.lateStores }, { on := 4, ground := Ground.textOnly Departure.lateStores }, { on := 5, ground := Ground.textOnly Departure.lateStores }, { on := 6, ground := Ground.phase }, { on := 7, ground := Ground.phase }, { on := 8, ground := Ground.textOnly Departure.lateStores }, { on := 9, ground := Ground.phase }], guard := none }) rfl (fun K hK => ?_) AllReadyH.nil
  clear hH1
  have M3 := hidden (M2.out.pL HD.out i HI.out z1)
  refine ready_store rfl 52 _ _ rfl rfl bL (i * 4) [.int .u64 z1.x0, .int .u64 z1.x1, .int .u64 z1.x2, .int .u64 z1.x3] (by rfl) (by rfl) M3.out.2 I4.out O4.out ?_
  refine hK.out _ _ (SK.out _ _ _ _ _ M3.out.1) (fun hH3 => ?_)
  clear hK K
  refine wpAnyH_take (i := 12) (oi := { dst := some 62, op := Op.indexAddr 53 (Operand.tmp 55) (Operand.tmp 56), type := 0, pos := "proof.go:64", after := #[{ on := 4, ground := Ground.data }, { on := 5, ground := Ground.data }, { on := 0, ground := Ground.phase }, { on := 1, ground := Ground.phase }, { on := 2, ground := Ground.phase }, { on := 3, ground := Ground.phase }, { on := 4, ground := Ground.phase }, { on := 5, ground := Ground.phase }, { on := 6, ground := Ground.phase }, { on := 7, ground := Ground.phase }, { on := 8, ground := Ground.phase }, { on := 9, ground := Ground.phase }, { on := 10, ground := Ground.phase }, { on := 11, ground := Ground.phase }], guard := none }) (v := .pointer (some ⟨bR, i * 4, none⟩)) rfl (by kernel_rfl) (by kernel_rfl) (by kernel_rfl) (fun _ _ _ h => h) (Or.inl ⟨by rfl, fun w0 hSw => ?_⟩) hH3 ?_
  · (clear hSw; go_simp)
  simp only [Act.put, List.setIfInBounds_toArray, List.set_cons_zero, List.set_cons_succ]
  refine wpAnyH_ready (rs := [13]) (by kernel_rfl) (by simp) ?_
  refine AllReadyH.cons (o := { dst := none, op := Op.store 52 (Operand.tmp 62) (Operand.tmp 60), type := 0, pos := "proof.go:64", after := #[{ on := 12, ground := Ground.data }, { on := 9, ground := Ground.data }, { on := 11, ground := Ground.chain }, { on := 0, ground := Ground.phase }, { on := 1, ground := Ground.phase }, { on := 2, ground := Ground.phase }, { on := 3, ground := Ground.phase }, { on := 4, ground := Ground.phase }, { on := 5, ground := Ground.phase }, { on := 6, ground := Ground.phase }, { on := 7, ground := Ground.phase }, { on := 8, ground := Ground.phase }, { on := 9, ground := Ground.phase }, { on := 10, ground := Ground.phase }, { on := 11, ground := Ground.phase }], guard := none }) rfl (fun K hK => ?_) AllReadyH.nil
  clear hH3
  have M4 := hidden (M3.out.1.pR HD.out i HI.out z2)
  refine ready_store rfl 52 _ _ rfl rfl bR (i * 4) [.int .u64 z2.x0, .int .u64 z2.x1, .int .u64 z2.x2, .int .u64 z2.x3] (by rfl) (by rfl) M4.out.2 J4.out P4.out ?_
  refine hK.out _ _ (SK.out _ _ _ _ _ M4.out.1) (fun hH4 => ?_)
  clear hK K
  refine wpAnyH_done (by kernel_rfl) ?_ _
  refine NoPanic.normal ?_
  exact HQ.out _ (by rw [size_setCellsM, size_setCellsM]; exact SZ.out) M4.out.1
end Go.Proofs.YtkfkmndhbfeagaaGreatDoor
