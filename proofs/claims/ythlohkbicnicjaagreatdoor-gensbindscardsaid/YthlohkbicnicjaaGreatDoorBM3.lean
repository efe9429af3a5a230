import Derived.Test.YthlohkbicnicjaaGreatDoorBM2
namespace Go.Proofs.YthlohkbicnicjaaGreatDoor
open Go.RowKit
set_option linter.unusedVariables false
theorem i64_and7 (n : Int) : bits .and .i64 n 7 = n % 8 := by
  have h3 : (BitVec.ofInt 64 7).toNat = 2 ^ 3 - 1 := by decide
  have key : (BitVec.ofInt 64 n &&& BitVec.ofInt 64 7).toNat = (n % ((2 ^ 64 : Nat) : Int)).toNat % 2 ^ 3 := by
    rw [BitVec.toNat_and, BitVec.toNat_ofInt, h3, Nat.and_two_pow_sub_one_eq_mod]
  show IntKind.i64.wrap ((BitVec.ofInt 64 n &&& BitVec.ofInt 64 7).toNat : Nat) = n % 8
  rw [key, IntKind.wrap_i64]
  omega
/-- 1 in place p, 0 everywhere else -/
def un (p t : Nat) : Int := if t = p then 1 else 0
theorem un_same (p : Nat) : un p p = 1 := if_pos rfl
theorem un_else {p t : Nat} (h : t ≠ p) : un p t = 0 := if_neg h
theorem uf_n (p k : Nat) : lst (uf p k).n = lst (un p k) := by
  unfold uf un
  by_cases h : k = p
  · rw [if_pos h, if_pos h]; exact congrArg lst (n_small 1)
  · rw [if_neg h, if_neg h]; exact congrArg lst (n_small 0)
theorem Uv.fr {B : Nat} {w : World} {v : Value} {p : Nat} (h : Uv B w v p) (hp : p < 64) : Fr w v (un p) := by
  obtain ⟨b, rfl, _, hr⟩ := h
  refine ⟨_, _, _, uf p, rfl, ⟨b, 0, fun _ => rfl, fun _ => hr⟩, by omega, fun i _ => ⟨uf_ok p i, uf_n p i⟩, fun i hi => ?_⟩
  rw [un_else (by omega)]; exact zero_lst
theorem Rl.fr {w : World} {b p : Nat} (hr : Rl w b 0 (p + 1) (uf p)) (hp : p < 64) : Fr w (.agg #[.slice (some ⟨b, 0, none⟩) (p + 1) (p + 1)]) (un p) := Uv.fr (B := 0) ⟨b, rfl, Nat.zero_le _, hr⟩ hp
theorem tot_zero {f : Nat → Int} : ∀ n, (∀ i, i < n → f i = 0) → tot f n = 0
  | 0, _ => rfl
  | n + 1, h => by rw [tot, tot_zero n (fun i hi => h i (by omega)), h n (by omega)]; rfl
theorem tot_one {f : Nat → Int} {k : Nat} : ∀ n, (∀ i, i < n → i ≠ k → f i = 0) → tot f n = if k < n then f k else 0
  | 0, _ => by rw [if_neg (by omega)]; rfl
  | n + 1, h => by
    rw [tot]
    by_cases e : n = k
    · rw [if_pos (by omega), tot_zero n (fun i hi => h i (by omega) (by omega)), e, Int.zero_add]
    · rw [tot_one n (fun i hi hn => h i (by omega) hn), h n (by omega) e, Int.add_zero]
      by_cases e2 : k < n
      · rw [if_pos e2, if_pos (by omega)]
      · rw [if_neg e2, if_neg (by omega)]
/-- what CommitVectors answers over the basis of n -/
def cvx (n La Lb : Nat) (ka kb : Nat → E4) (f : E4) (t : Nat) : Int := tot (fun q => (ka q).n * un (3 + q) t) La + tot (fun q => (kb q).n * un (3 + n + q) t) Lb + f.n * un 1 t
theorem atE_n (L : Nat) (k : Nat → E4) (i : Nat) : (atE L k i).n = if i < L then (k i).n else 0 := by
  unfold atE
  by_cases h : i < L
  · rw [if_pos h, if_pos h]
  · rw [if_neg h, if_neg h]; exact z4n
theorem cvx_left (n La Lb : Nat) (ka kb : Nat → E4) (f : E4) (k : Nat) (hk : k < n) (ha : La ≤ n) (hb : Lb ≤ n) : cvx n La Lb ka kb f (3 + k) = (atE La ka k).n := by
  have e1 : tot (fun q => (ka q).n * un (3 + q) (3 + k)) La = if k < La then (ka k).n * un (3 + k) (3 + k) else 0 := tot_one La (fun i _ hn => by rw [un_else (by omega), Int.mul_zero])
  have e2 : tot (fun q => (kb q).n * un (3 + n + q) (3 + k)) Lb = 0 := tot_zero Lb (fun i _ => by rw [un_else (by omega), Int.mul_zero])
  unfold cvx
  rw [atE_n, e1, e2, un_same, un_else (show 3 + k ≠ 1 by omega), Int.mul_zero, Int.mul_one, Int.add_zero, Int.add_zero]
theorem cvx_right (n La Lb : Nat) (ka kb : Nat → E4) (f : E4) (k : Nat) (hk : k < n) (ha : La ≤ n) (hb : Lb ≤ n) : cvx n La Lb ka kb f (3 + n + k) = (atE Lb kb k).n := by
  have e1 : tot (fun q => (kb q).n * un (3 + n + q) (3 + n + k)) Lb = if k < Lb then (kb k).n * un (3 + n + k) (3 + n + k) else 0 := tot_one Lb (fun i _ hn => by rw [un_else (by omega), Int.mul_zero])
  have e2 : tot (fun q => (ka q).n * un (3 + q) (3 + n + k)) La = 0 := tot_zero La (fun i _ => by rw [un_else (by omega), Int.mul_zero])
  unfold cvx
  rw [atE_n, e1, e2, un_same, un_else (show 3 + n + k ≠ 1 by omega), Int.mul_zero, Int.mul_one, Int.add_zero, Int.zero_add]
theorem cvx_one (n La Lb : Nat) (ka kb : Nat → E4) (f : E4) : cvx n La Lb ka kb f 1 = f.n := by
  unfold cvx
  rw [tot_zero La (fun i _ => by rw [un_else (by omega), Int.mul_zero]), tot_zero Lb (fun i _ => by rw [un_else (by omega), Int.mul_zero]), un_same, Int.mul_one, Int.add_zero, Int.zero_add]
theorem cvx_else (n La Lb : Nat) (ka kb : Nat → E4) (f : E4) (t : Nat) (ha : La ≤ n) (hb : Lb ≤ n) (h1 : t ≠ 1) (h : t < 3 ∨ 3 + n + n ≤ t) : cvx n La Lb ka kb f t = 0 := by
  unfold cvx
  rw [tot_zero La (fun i _ => by rw [un_else (by omega), Int.mul_zero]), tot_zero Lb (fun i _ => by rw [un_else (by omega), Int.mul_zero]), un_else h1, Int.mul_zero]; rfl
theorem cvx_same (n La Lb Lc Ld : Nat) (ka kb kc kd : Nat → E4) (f g : E4) (ha : La ≤ n) (hb : Lb ≤ n) (hc : Lc ≤ n) (hd : Ld ≤ n) : (∀ t, lst (cvx n La Lb ka kb f t) = lst (cvx n Lc Ld kc kd g t)) ↔ (lst f.n = lst g.n ∧ ∀ k, k < n → lst (atE La ka k).n = lst (atE Lc kc k).n ∧ lst (atE Lb kb k).n = lst (atE Ld kd k).n) := by
  constructor
  · intro h
    refine ⟨by have := h 1; rwa [cvx_one, cvx_one] at this, fun k hk => ⟨?_, ?_⟩⟩
    · have := h (3 + k); rwa [cvx_left _ _ _ _ _ _ _ hk ha hb, cvx_left _ _ _ _ _ _ _ hk hc hd] at this
    · have := h (3 + n + k); rwa [cvx_right _ _ _ _ _ _ _ hk ha hb, cvx_right _ _ _ _ _ _ _ hk hc hd] at this
  · rintro ⟨h1, h2⟩ t
    by_cases e1 : t = 1
    · rw [e1, cvx_one, cvx_one]; exact h1
    · by_cases e2 : t < 3 ∨ 3 + n + n ≤ t
      · rw [cvx_else _ _ _ _ _ _ _ ha hb e1 e2, cvx_else _ _ _ _ _ _ _ hc hd e1 e2]
      · by_cases e3 : t < 3 + n
        · obtain ⟨k, rfl⟩ : ∃ k, t = 3 + k := ⟨t - 3, by omega⟩
          rw [cvx_left _ _ _ _ _ _ _ (by omega) ha hb, cvx_left _ _ _ _ _ _ _ (by omega) hc hd]; exact (h2 k (by omega)).1
        · obtain ⟨k, rfl⟩ : ∃ k, t = 3 + n + k := ⟨t - (3 + n), by omega⟩
          rw [cvx_right _ _ _ _ _ _ _ (by omega) ha hb, cvx_right _ _ _ _ _ _ _ (by omega) hc hd]; exact (h2 k (by omega)).2
theorem cm_same (v x f g : E4) : (∀ i, lst (un 0 i * v.n + un 1 i * f.n) = lst (un 0 i * x.n + un 1 i * g.n)) ↔ (lst v.n = lst x.n ∧ lst f.n = lst g.n) := by
  constructor
  · intro h
    have h0 := h 0
    have h1 := h 1
    rw [un_same, un_else (by omega), Int.one_mul, Int.one_mul, Int.zero_mul, Int.zero_mul, Int.add_zero, Int.add_zero] at h0
    rw [un_same, un_else (by omega), Int.one_mul, Int.one_mul, Int.zero_mul, Int.zero_mul, Int.zero_add, Int.zero_add] at h1
    exact ⟨h0, h1⟩
  · rintro ⟨h0, h1⟩ i
    exact lst_two (lst_twoM rfl h0) (lst_twoM rfl h1)
theorem Fl.at {w : World} {P : Option Addr} {m c : Nat} {x : Nat → Int} (h : Fl w (.agg #[.slice P m c]) x) : ∃ g : Nat → E4, Lm w P m g ∧ ∀ i, atE m g i = lst (x i) := by
  obtain ⟨P', n', c', g, h1, h2, h3, h4, h5⟩ := h
  simp only [Value.agg.injEq, Array.mk.injEq, List.cons.injEq, Value.slice.injEq, and_true] at h1
  obtain ⟨rfl, rfl, rfl⟩ := h1
  refine ⟨g, h2, fun i => ?_⟩
  unfold atE
  by_cases hi : i < m
  · rw [if_pos hi]; exact h4 i hi
  · rw [if_neg hi]; exact (h5 i (by omega)).symm
theorem atE_ok {L : Nat} {k : Nat → E4} (h : ∀ i, i < L → (k i).ok) (i : Nat) : (atE L k i).ok := by
  unfold atE
  by_cases hi : i < L
  · rw [if_pos hi]; exact h i hi
  · rw [if_neg hi]; exact z4ok
end Go.Proofs.YthlohkbicnicjaaGreatDoor
namespace Go.Proofs.YthlohkbicnicjaaGreatDoor
open Go.RowKit
set_option linter.unusedVariables false
def gb5to : Array Oper := #[{ dst := some 55, op := Op.load 30 (Operand.tmp 20), type := 30, pos := "outright.go:83", after := #[], guard := none },
  { dst := some 56, op := Op.load 24 (Operand.tmp 10), type := 24, pos := "outright.go:83", after := #[], guard := none },
  { dst := some 57, op := Op.load 24 (Operand.tmp 12), type := 24, pos := "outright.go:83", after := #[], guard := none },
  { dst := some 58, op := Op.call { callee := Callee.value (Operand.func 6), args := #[Operand.tmp 55, Operand.tmp 56, Operand.tmp 57], argTypes := #[30, 24, 24] }, type := 27, pos := "outright.go:83", after := #[{ on := 0, ground := Ground.data }, { on := 1, ground := Ground.data }, { on := 2, ground := Ground.data }], guard := none },
  { dst := some 59, op := Op.load 30 (Operand.tmp 20), type := 30, pos := "outright.go:83", after := #[], guard := none },
  { dst := some 60, op := Op.load 24 (Operand.tmp 11), type := 24, pos := "outright.go:83", after := #[], guard := none },
  { dst := some 61, op := Op.load 24 (Operand.tmp 13), type := 24, pos := "outright.go:83", after := #[], guard := none },
  { dst := some 62, op := Op.call { callee := Callee.value (Operand.func 6), args := #[Operand.tmp 59, Operand.tmp 60, Operand.tmp 61], argTypes := #[30, 24, 24] }, type := 27, pos := "outright.go:83", after := #[{ on := 4, ground := Ground.data }, { on := 5, ground := Ground.data }, { on := 6, ground := Ground.data }, { on := 3, ground := Ground.chain }], guard := none },
  { dst := some 63, op := Op.call { callee := Callee.value (Operand.func 7), args := #[Operand.tmp 58, Operand.tmp 62], argTypes := #[27, 27] }, type := 4, pos := "outright.go:83", after := #[{ on := 3, ground := Ground.data }, { on := 7, ground := Ground.data }, { on := 7, ground := Ground.chain }], guard := none },
  { dst := some 64, op := Op.load 24 (Operand.tmp 10), type := 24, pos := "outright.go:83", after := #[], guard := none },
  { dst := some 65, op := Op.load 24 (Operand.tmp 11), type := 24, pos := "outright.go:83", after := #[], guard := none },
  { dst := some 66, op := Op.call { callee := Callee.value (Operand.func 8), args := #[Operand.tmp 64, Operand.tmp 65], argTypes := #[24, 24] }, type := 4, pos := "outright.go:83", after := #[{ on := 9, ground := Ground.data }, { on := 10, ground := Ground.data }, { on := 8, ground := Ground.chain }], guard := none },
  { dst := some 67, op := Op.move (Operand.tmp 66), type := 4, pos := "outright.go:83", after := #[{ on := 11, ground := Ground.data }, { on := 11, ground := Ground.chain }], guard := none },
  { dst := some 68, op := Op.load 24 (Operand.tmp 12), type := 24, pos := "outright.go:83", after := #[{ on := 12, ground := Ground.guard }], guard := some (12, true) },
  { dst := some 69, op := Op.load 24 (Operand.tmp 13), type := 24, pos := "outright.go:83", after := #[{ on := 12, ground := Ground.guard }], guard := some (12, true) },
  { dst := some 70, op := Op.call { callee := Callee.value (Operand.func 8), args := #[Operand.tmp 68, Operand.tmp 69], argTypes := #[24, 24] }, type := 4, pos := "outright.go:83", after := #[{ on := 13, ground := Ground.data }, { on := 14, ground := Ground.data }, { on := 12, ground := Ground.chain }, { on := 12, ground := Ground.guard }], guard := some (12, true) },
  { dst := some 71, op := Op.pick (Operand.tmp 67) (Operand.tmp 70) (Operand.const (Value.bool false)), type := 4, pos := "outright.go:83", after := #[{ on := 12, ground := Ground.data }, { on := 15, ground := Ground.data }], guard := none },
  { dst := some 72, op := Op.binOp BinOp.neq 4 (Operand.tmp 63) (Operand.tmp 71) 4, type := 4, pos := "outright.go:83", after := #[{ on := 8, ground := Ground.data }, { on := 16, ground := Ground.data }], guard := none }]
set_option maxRecDepth 100000 in
set_option maxHeartbeats 16000000 in
theorem gb5t (Q : Exit → Act → World → Prop) (T10 T11 T12 T13 T20 b0 b1 b2 g1 g2 n : Nat) (v x f g : E4) (xx yy : Nat → Int) (bb : Bool) (u0 u1 u2 u3 u4 u5 u6 u7 u8 u9 u14 u15 u16 u17 u18 u19 u21 u22 u23 u24 u25 u26 u27 u28 u29 u30 u31 u32 u33 u34 u35 u36 u37 u38 u39 u40 u41 u42 u43 u44 u45 u46 u47 u48 u49 u50 u51 u52 u53 u54 u55 u56 u57 u58 u59 u60 u61 u62 u63 u64 u65 u66 u67 u68 u69 u70 u71 u72 u73 u74 u75 u76 u77 u78 u79 u80 u81 u82 u83 u84 u85 u86 u87 u88 u89 u90 u91 u92 u93 u94 u95 u96 u97 u98 u99 u100 u101 u102 u103 u104 u105 u106 u107 u108 u109 u110 u111 u112 u113 u114 u115 u116 u117 u118 u119 u120 u121 u122 u123 u124 u125 u126 u127 u128 u129 u130 u131 u132 u133 u134 u135 u136 u137 u138 u139 u140 u141 u142 u143 u144 u145 u146 u147 u148 u149 u150 u151 u152 u153 u154 u155 u156 u157 u158 u159 u160 u161 u162 u163 u164 u165 u166 u167 u168 u169 u170 u171 u172 u173 u174 u175 u176 u177 u178 u179 u180 u181 u182 u183 u184 u185 u186 u187 u188 : Value) (W : World)
    (cs0 : W.cell? ⟨T20, 0, none⟩ = some (.slice (some ⟨b0, 0, none⟩) 1 1)) (cs1 : W.cell? ⟨T20, 1, none⟩ = some (.slice (some ⟨b1, 0, none⟩) 2 2)) (cs2 : W.cell? ⟨T20, 2, none⟩ = some (.slice (some ⟨b2, 0, none⟩) 3 3)) (cs3 : W.cell? ⟨T20, 3, none⟩ = some (.slice (some ⟨g1, 0, none⟩) n n)) (cs4 : W.cell? ⟨T20, 4, none⟩ = some (.slice (some ⟨g2, 0, none⟩) n n)) (cv0 : W.cell? ⟨T10, 0, none⟩ = some (.int .u64 v.x0)) (cv1 : W.cell? ⟨T10, 1, none⟩ = some (.int .u64 v.x1)) (cv2 : W.cell? ⟨T10, 2, none⟩ = some (.int .u64 v.x2)) (cv3 : W.cell? ⟨T10, 3, none⟩ = some (.int .u64 v.x3)) (cx0 : W.cell? ⟨T11, 0, none⟩ = some (.int .u64 x.x0)) (cx1 : W.cell? ⟨T11, 1, none⟩ = some (.int .u64 x.x1)) (cx2 : W.cell? ⟨T11, 2, none⟩ = some (.int .u64 x.x2)) (cx3 : W.cell? ⟨T11, 3, none⟩ = some (.int .u64 x.x3)) (cf0 : W.cell? ⟨T12, 0, none⟩ = some (.int .u64 f.x0)) (cf1 : W.cell? ⟨T12, 1, none⟩ = some (.int .u64 f.x1)) (cf2 : W.cell? ⟨T12, 2, none⟩ = some (.int .u64 f.x2)) (cf3 : W.cell? ⟨T12, 3, none⟩ = some (.int .u64 f.x3)) (cg0 : W.cell? ⟨T13, 0, none⟩ = some (.int .u64 g.x0)) (cg1 : W.cell? ⟨T13, 1, none⟩ = some (.int .u64 g.x1)) (cg2 : W.cell? ⟨T13, 2, none⟩ = some (.int .u64 g.x2)) (cg3 : W.cell? ⟨T13, 3, none⟩ = some (.int .u64 g.x3))
    (C3 : Hid (∀ x, Below W.heap.size W x → Calls Tryz.prog 6 #[.agg #[.slice (some ⟨b0, 0, none⟩) 1 1, .slice (some ⟨b1, 0, none⟩) 2 2, .slice (some ⟨b2, 0, none⟩) 3 3, .slice (some ⟨g1, 0, none⟩) n n, .slice (some ⟨g2, 0, none⟩) n n], .agg #[.int .u64 v.x0, .int .u64 v.x1, .int .u64 v.x2, .int .u64 v.x3], .agg #[.int .u64 f.x0, .int .u64 f.x1, .int .u64 f.x2, .int .u64 f.x3]] x fun e w' => Fq x w' e xx))
    (C7 : Hid (∀ y, Below W.heap.size W y → Calls Tryz.prog 6 #[.agg #[.slice (some ⟨b0, 0, none⟩) 1 1, .slice (some ⟨b1, 0, none⟩) 2 2, .slice (some ⟨b2, 0, none⟩) 3 3, .slice (some ⟨g1, 0, none⟩) n n, .slice (some ⟨g2, 0, none⟩) n n], .agg #[.int .u64 x.x0, .int .u64 x.x1, .int .u64 x.x2, .int .u64 x.x3], .agg #[.int .u64 g.x0, .int .u64 g.x1, .int .u64 g.x2, .int .u64 g.x3]] y fun e w' => Fq y w' e yy))
    (C8 : Hid (∀ (y : World) (A m k A2 m2 k2 : Nat), Below W.heap.size W y → Fr y (.agg #[.slice (some ⟨A, 0, none⟩) m k]) xx → Fr y (.agg #[.slice (some ⟨A2, 0, none⟩) m2 k2]) yy → Calls Tryz.prog 7 #[.agg #[.slice (some ⟨A, 0, none⟩) m k], .agg #[.slice (some ⟨A2, 0, none⟩) m2 k2]] y fun e w' => e = .returned (.bool bb) ∧ Below y.heap.size y w'))
    (C11 : Hid (∀ y, Below W.heap.size W y → Calls Tryz.prog 8 #[.agg #[.int .u64 v.x0, .int .u64 v.x1, .int .u64 v.x2, .int .u64 v.x3], .agg #[.int .u64 x.x0, .int .u64 x.x1, .int .u64 x.x2, .int .u64 x.x3]] y fun e w' => e = .returned (.bool true) ∧ Below y.heap.size y w'))
    (C15 : Hid (∀ y, Below W.heap.size W y → Calls Tryz.prog 8 #[.agg #[.int .u64 f.x0, .int .u64 f.x1, .int .u64 f.x2, .int .u64 f.x3], .agg #[.int .u64 g.x0, .int .u64 g.x1, .int .u64 g.x2, .int .u64 g.x3]] y fun e w' => e = .returned (.bool bb) ∧ Below y.heap.size y w'))
    (HQ : Hid (∀ (A m k A2 m2 k2 : Nat) (wz : World), Below W.heap.size W wz → Q .normal ⟨#[u0, u1, u2, u3, u4, u5, u6, u7, u8, u9, .pointer (some ⟨T10, 0, none⟩), .pointer (some ⟨T11, 0, none⟩), .pointer (some ⟨T12, 0, none⟩), .pointer (some ⟨T13, 0, none⟩), u14, u15, u16, u17, u18, u19, .pointer (some ⟨T20, 0, none⟩), u21, u22, u23, u24, u25, u26, u27, u28, u29, u30, u31, u32, u33, u34, u35, u36, u37, u38, u39, u40, u41, u42, u43, u44, u45, u46, u47, u48, u49, u50, u51, u52, u53, u54, .agg #[.slice (some ⟨b0, 0, none⟩) 1 1, .slice (some ⟨b1, 0, none⟩) 2 2, .slice (some ⟨b2, 0, none⟩) 3 3, .slice (some ⟨g1, 0, none⟩) n n, .slice (some ⟨g2, 0, none⟩) n n], .agg #[.int .u64 v.x0, .int .u64 v.x1, .int .u64 v.x2, .int .u64 v.x3], .agg #[.int .u64 f.x0, .int .u64 f.x1, .int .u64 f.x2, .int .u64 f.x3], .agg #[.slice (some ⟨A, 0, none⟩) m k], .agg #[.slice (some ⟨b0, 0, none⟩) 1 1, .slice (some ⟨b1, 0, none⟩) 2 2, .slice (some ⟨b2, 0, none⟩) 3 3, .slice (some ⟨g1, 0, none⟩) n n, .slice (some ⟨g2, 0, none⟩) n n], .agg #[.int .u64 x.x0, .int .u64 x.x1, .int .u64 x.x2, .int .u64 x.x3], .agg #[.int .u64 g.x0, .int .u64 g.x1, .int .u64 g.x2, .int .u64 g.x3], .agg #[.slice (some ⟨A2, 0, none⟩) m2 k2], .bool bb, .agg #[.int .u64 v.x0, .int .u64 v.x1, .int .u64 v.x2, .int .u64 v.x3], .agg #[.int .u64 x.x0, .int .u64 x.x1, .int .u64 x.x2, .int .u64 x.x3], .bool true, .bool true, .agg #[.int .u64 f.x0, .int .u64 f.x1, .int .u64 f.x2, .int .u64 f.x3], .agg #[.int .u64 g.x0, .int .u64 g.x1, .int .u64 g.x2, .int .u64 g.x3], .bool bb, .bool bb, .bool false, u73, u74, u75, u76, u77, u78, u79, u80, u81, u82, u83, u84, u85, u86, u87, u88, u89, u90, u91, u92, u93, u94, u95, u96, u97, u98, u99, u100, u101, u102, u103, u104, u105, u106, u107, u108, u109, u110, u111, u112, u113, u114, u115, u116, u117, u118, u119, u120, u121, u122, u123, u124, u125, u126, u127, u128, u129, u130, u131, u132, u133, u134, u135, u136, u137, u138, u139, u140, u141, u142, u143, u144, u145, u146, u147, u148, u149, u150, u151, u152, u153, u154, u155, u156, u157, u158, u159, u160, u161, u162, u163, u164, u165, u166, u167, u168, u169, u170, u171, u172, u173, u174, u175, u176, u177, u178, u179, u180, u181, u182, u183, u184, u185, u186, u187, u188], []⟩ wz)) : (Code.region 5 gb5to true).wp Tryz.prog Q ⟨#[u0, u1, u2, u3, u4, u5, u6, u7, u8, u9, .pointer (some ⟨T10, 0, none⟩), .pointer (some ⟨T11, 0, none⟩), .pointer (some ⟨T12, 0, none⟩), .pointer (some ⟨T13, 0, none⟩), u14, u15, u16, u17, u18, u19, .pointer (some ⟨T20, 0, none⟩), u21, u22, u23, u24, u25, u26, u27, u28, u29, u30, u31, u32, u33, u34, u35, u36, u37, u38, u39, u40, u41, u42, u43, u44, u45, u46, u47, u48, u49, u50, u51, u52, u53, u54, u55, u56, u57, u58, u59, u60, u61, u62, u63, u64, u65, u66, u67, u68, u69, u70, u71, u72, u73, u74, u75, u76, u77, u78, u79, u80, u81, u82, u83, u84, u85, u86, u87, u88, u89, u90, u91, u92, u93, u94, u95, u96, u97, u98, u99, u100, u101, u102, u103, u104, u105, u106, u107, u108, u109, u110, u111, u112, u113, u114, u115, u116, u117, u118, u119, u120, u121, u122, u123, u124, u125, u126, u127, u128, u129, u130, u131, u132, u133, u134, u135, u136, u137, u138, u139, u140, u141, u142, u143, u144, u145, u146, u147, u148, u149, u150, u151, u152, u153, u154, u155, u156, u157, u158, u159, u160, u161, u162, u163, u164, u165, u166, u167, u168, u169, u170, u171, u172, u173, u174, u175, u176, u177, u178, u179, u180, u181, u182, u183, u184, u185, u186, u187, u188], []⟩ W := by
  unfold gb5to
  refine wp_region_noPanic ?_
  refine wp_region_held_drew (S := fun x => Below W.heap.size W x) (by kernel_rfl) (bl_drew W) (fun hH0 => ?_)
  refine wpAnyH_take (i := 0) (oi := { dst := some 55, op := Op.load 30 (Operand.tmp 20), type := 30, pos := "outright.go:83", after := #[], guard := none }) (v := .agg #[.slice (some ⟨b0, 0, none⟩) 1 1, .slice (some ⟨b1, 0, none⟩) 2 2, .slice (some ⟨b2, 0, none⟩) 3 3, .slice (some ⟨g1, 0, none⟩) n n, .slice (some ⟨g2, 0, none⟩) n n]) rfl (by kernel_rfl) (by kernel_rfl) (by kernel_rfl) (fun _ _ _ h => h) (Or.inl ⟨by rfl, fun w0 hSw => ?_⟩) hH0 ?_
  · (have hS : Below W.heap.size W w0 := hSw; have a0 := cell_keep cs0 hS; have a1 := cell_keep cs1 hS; have a2 := cell_keep cs2 hS; have a3 := cell_keep cs3 hS; have a4 := cell_keep cs4 hS; clear hS hSw; go_simp)
  simp only [Act.put, List.setIfInBounds_toArray, List.set_cons_zero, List.set_cons_succ]
  refine wpAnyH_take (i := 1) (oi := { dst := some 56, op := Op.load 24 (Operand.tmp 10), type := 24, pos := "outright.go:83", after := #[], guard := none }) (v := .agg #[.int .u64 v.x0, .int .u64 v.x1, .int .u64 v.x2, .int .u64 v.x3]) rfl (by kernel_rfl) (by kernel_rfl) (by kernel_rfl) (fun _ _ _ h => h) (Or.inl ⟨by rfl, fun w0 hSw => ?_⟩) hH0 ?_
  · (have hS : Below W.heap.size W w0 := hSw; have a0 := cell_keep cv0 hS; have a1 := cell_keep cv1 hS; have a2 := cell_keep cv2 hS; have a3 := cell_keep cv3 hS; clear hS hSw; go_simp)
  simp only [Act.put, List.setIfInBounds_toArray, List.set_cons_zero, List.set_cons_succ]
  refine wpAnyH_take (i := 2) (oi := { dst := some 57, op := Op.load 24 (Operand.tmp 12), type := 24, pos := "outright.go:83", after := #[], guard := none }) (v := .agg #[.int .u64 f.x0, .int .u64 f.x1, .int .u64 f.x2, .int .u64 f.x3]) rfl (by kernel_rfl) (by kernel_rfl) (by kernel_rfl) (fun _ _ _ h => h) (Or.inl ⟨by rfl, fun w0 hSw => ?_⟩) hH0 ?_
  · (have hS : Below W.heap.size W w0 := hSw; have a0 := cell_keep cf0 hS; have a1 := cell_keep cf1 hS; have a2 := cell_keep cf2 hS; have a3 := cell_keep cf3 hS; clear hS hSw; go_simp)
  simp only [Act.put, List.setIfInBounds_toArray, List.set_cons_zero, List.set_cons_succ]
  refine wpAnyH_take (i := 4) (oi := { dst := some 59, op := Op.load 30 (Operand.tmp 20), type := 30, pos := "outright.go:83", after := #[], guard := none }) (v := .agg #[.slice (some ⟨b0, 0, none⟩) 1 1, .slice (some ⟨b1, 0, none⟩) 2 2, .slice (some ⟨b2, 0, none⟩) 3 3, .slice (some ⟨g1, 0, none⟩) n n, .slice (some ⟨g2, 0, none⟩) n n]) rfl (by kernel_rfl) (by kernel_rfl) (by kernel_rfl) (fun _ _ _ h => h) (Or.inl ⟨by rfl, fun w0 hSw => ?_⟩) hH0 ?_
  · (have hS : Below W.heap.size W w0 := hSw; have a0 := cell_keep cs0 hS; have a1 := cell_keep cs1 hS; have a2 := cell_keep cs2 hS; have a3 := cell_keep cs3 hS; have a4 := cell_keep cs4 hS; clear hS hSw; go_simp)
  simp only [Act.put, List.setIfInBounds_toArray, List.set_cons_zero, List.set_cons_succ]
  refine wpAnyH_take (i := 5) (oi := { dst := some 60, op := Op.load 24 (Operand.tmp 11), type := 24, pos := "outright.go:83", after := #[], guard := none }) (v := .agg #[.int .u64 x.x0, .int .u64 x.x1, .int .u64 x.x2, .int .u64 x.x3]) rfl (by kernel_rfl) (by kernel_rfl) (by kernel_rfl) (fun _ _ _ h => h) (Or.inl ⟨by rfl, fun w0 hSw => ?_⟩) hH0 ?_
  · (have hS : Below W.heap.size W w0 := hSw; have a0 := cell_keep cx0 hS; have a1 := cell_keep cx1 hS; have a2 := cell_keep cx2 hS; have a3 := cell_keep cx3 hS; clear hS hSw; go_simp)
  simp only [Act.put, List.setIfInBounds_toArray, List.set_cons_zero, List.set_cons_succ]
  refine wpAnyH_take (i := 6) (oi := { dst := some 61, op := Op.load 24 (Operand.tmp 13), type := 24, pos := "outright.go:83", after := #[], guard := none }) (v := .agg #[.int .u64 g.x0, .int .u64 g.x1, .int .u64 g.x2, .int .u64 g.x3]) rfl (by kernel_rfl) (by kernel_rfl) (by kernel_rfl) (fun _ _ _ h => h) (Or.inl ⟨by rfl, fun w0 hSw => ?_⟩) hH0 ?_
  · (have hS : Below W.heap.size W w0 := hSw; have a0 := cell_keep cg0 hS; have a1 := cell_keep cg1 hS; have a2 := cell_keep cg2 hS; have a3 := cell_keep cg3 hS; clear hS hSw; go_simp)
  simp only [Act.put, List.setIfInBounds_toArray, List.set_cons_zero, List.set_cons_succ]
  refine wpAnyH_take (i := 9) (oi := { dst := some 64, op := Op.load 24 (Operand.tmp 10), type := 24, pos := "outright.go:83", after := #[], guard := none }) (v := .agg #[.int .u64 v.x0, .int .u64 v.x1, .int .u64 v.x2, .int .u64 v.x3]) rfl (by kernel_rfl) (by kernel_rfl) (by kernel_rfl) (fun _ _ _ h => h) (Or.inl ⟨by rfl, fun w0 hSw => ?_⟩) hH0 ?_
  · (have hS : Below W.heap.size W w0 := hSw; have a0 := cell_keep cv0 hS; have a1 := cell_keep cv1 hS; have a2 := cell_keep cv2 hS; have a3 := cell_keep cv3 hS; clear hS hSw; go_simp)
  simp only [Act.put, List.setIfInBounds_toArray, List.set_cons_zero, List.set_cons_succ]
  refine wpAnyH_take (i := 10) (oi := { dst := some 65, op := Op.load 24 (Operand.tmp 11), type := 24, pos := "outright.go:83", after := #[], guard := none }) (v := .agg #[.int .u64 x.x0, .int .u64 x.x1, .int .u64 x.x2, .int .u64 x.x3]) rfl (by kernel_rfl) (by kernel_rfl) (by kernel_rfl) (fun _ _ _ h => h) (Or.inl ⟨by rfl, fun w0 hSw => ?_⟩) hH0 ?_
  · (have hS : Below W.heap.size W w0 := hSw; have a0 := cell_keep cx0 hS; have a1 := cell_keep cx1 hS; have a2 := cell_keep cx2 hS; have a3 := cell_keep cx3 hS; clear hS hSw; go_simp)
  simp only [Act.put, List.setIfInBounds_toArray, List.set_cons_zero, List.set_cons_succ]
  refine wpAnyH_ready (rs := [3]) (by kernel_rfl) (by simp) ?_
  refine AllReadyH.cons (o := { dst := some 58, op := Op.call { callee := Callee.value (Operand.func 6), args := #[Operand.tmp 55, Operand.tmp 56, Operand.tmp 57], argTypes := #[30, 24, 24] }, type := 27, pos := "outright.go:83", after := #[{ on := 0, ground := Ground.data }, { on := 1, ground := Ground.data }, { on := 2, ground := Ground.data }], guard := none }) rfl (fun K hK => ?_) AllReadyH.nil
  have HH := hidden hH0
  clear hH0
  go_simp
  refine (C3.out _ HH.out).mono ?_
  rintro e wn1 ⟨A, m, k, rfl, hA, hF, hb⟩
  have FA := hidden (hF)
  have SN := hidden (bl_trans HH.out hb)
  clear HH C3 hA hF hb
  go_wp2_with fail
  refine hK.out _ _ SN.out (fun hH1 => ?_)
  clear hK K SN
  refine wpAnyH_ready (rs := [7]) (by kernel_rfl) (by simp) ?_
  refine AllReadyH.cons (o := { dst := some 62, op := Op.call { callee := Callee.value (Operand.func 6), args := #[Operand.tmp 59, Operand.tmp 60, Operand.tmp 61], argTypes := #[30, 24, 24] }, type := 27, pos := "outright.go:83", after := #[{ on := 4, ground := Ground.data }, { on := 5, ground := Ground.data }, { on := 6, ground := Ground.data }, { on := 3, ground := Ground.chain }], guard := none }) rfl (fun K hK => ?_) AllReadyH.nil
  have HH := hidden hH1
  clear hH1
  go_simp
  refine (C7.out _ HH.out).mono ?_
  rintro e wn2 ⟨A2, m2, k2, rfl, hA, hF, hb⟩
  replace FA := hidden (FA.out.keep hb)
  have FB := hidden (hF)
  have SN := hidden (bl_trans HH.out hb)
  clear HH C7 hA hF hb
  go_wp2_with fail
  refine hK.out _ _ SN.out (fun hH2 => ?_)
  clear hK K SN
  refine wpAnyH_ready (rs := [8]) (by kernel_rfl) (by simp) ?_
  refine AllReadyH.cons (o := { dst := some 63, op := Op.call { callee := Callee.value (Operand.func 7), args := #[Operand.tmp 58, Operand.tmp 62], argTypes := #[27, 27] }, type := 4, pos := "outright.go:83", after := #[{ on := 3, ground := Ground.data }, { on := 7, ground := Ground.data }, { on := 7, ground := Ground.chain }], guard := none }) rfl (fun K hK => ?_) AllReadyH.nil
  have HH := hidden hH2
  clear hH2
  go_simp
  refine (C8.out _ A m k A2 m2 k2 HH.out FA.out FB.out).mono ?_
  rintro e wn3 ⟨rfl, hb⟩
  have SN := hidden (bl_trans HH.out hb)
  clear HH C8 hb
  go_wp2_with fail
  refine hK.out _ _ SN.out (fun hH3 => ?_)
  clear hK K SN
  refine wpAnyH_ready (rs := [11]) (by kernel_rfl) (by simp) ?_
  refine AllReadyH.cons (o := { dst := some 66, op := Op.call { callee := Callee.value (Operand.func 8), args := #[Operand.tmp 64, Operand.tmp 65], argTypes := #[24, 24] }, type := 4, pos := "outright.go:83", after := #[{ on := 9, ground := Ground.data }, { on := 10, ground := Ground.data }, { on := 8, ground := Ground.chain }], guard := none }) rfl (fun K hK => ?_) AllReadyH.nil
  have HH := hidden hH3
  clear hH3
  go_simp
  refine (C11.out _ HH.out).mono ?_
  rintro e wn4 ⟨rfl, hb⟩
  have SN := hidden (bl_trans HH.out hb)
  clear HH C11 hb
  go_wp2_with fail
  refine hK.out _ _ SN.out (fun hH4 => ?_)
  clear hK K SN
  refine wpAnyH_take (i := 12) (oi := { dst := some 67, op := Op.move (Operand.tmp 66), type := 4, pos := "outright.go:83", after := #[{ on := 11, ground := Ground.data }, { on := 11, ground := Ground.chain }], guard := none }) (v := .bool true) rfl (by kernel_rfl) (by kernel_rfl) (by kernel_rfl) (fun _ _ _ h => h) (Or.inl ⟨by rfl, fun w0 hSw => ?_⟩) hH4 ?_
  · (clear hSw; go_simp)
  simp only [Act.put, List.setIfInBounds_toArray, List.set_cons_zero, List.set_cons_succ]
  refine wpAnyH_take (i := 13) (oi := { dst := some 68, op := Op.load 24 (Operand.tmp 12), type := 24, pos := "outright.go:83", after := #[{ on := 12, ground := Ground.guard }], guard := some (12, true) }) (v := .agg #[.int .u64 f.x0, .int .u64 f.x1, .int .u64 f.x2, .int .u64 f.x3]) rfl (by kernel_rfl) (by kernel_rfl) (by kernel_rfl) (fun _ _ _ h => h) (Or.inl ⟨by rfl, fun w0 hSw => ?_⟩) hH4 ?_
  · (have hS : Below W.heap.size W w0 := hSw; have a0 := cell_keep cf0 hS; have a1 := cell_keep cf1 hS; have a2 := cell_keep cf2 hS; have a3 := cell_keep cf3 hS; clear hS hSw; go_simp)
  simp only [Act.put, List.setIfInBounds_toArray, List.set_cons_zero, List.set_cons_succ]
  refine wpAnyH_take (i := 14) (oi := { dst := some 69, op := Op.load 24 (Operand.tmp 13), type := 24, pos := "outright.go:83", after := #[{ on := 12, ground := Ground.guard }], guard := some (12, true) }) (v := .agg #[.int .u64 g.x0, .int .u64 g.x1, .int .u64 g.x2, .int .u64 g.x3]) rfl (by kernel_rfl) (by kernel_rfl) (by kernel_rfl) (fun _ _ _ h => h) (Or.inl ⟨by rfl, fun w0 hSw => ?_⟩) hH4 ?_
  · (have hS : Below W.heap.size W w0 := hSw; have a0 := cell_keep cg0 hS; have a1 := cell_keep cg1 hS; have a2 := cell_keep cg2 hS; have a3 := cell_keep cg3 hS; clear hS hSw; go_simp)
  simp only [Act.put, List.setIfInBounds_toArray, List.set_cons_zero, List.set_cons_succ]
  refine wpAnyH_ready (rs := [15]) (by kernel_rfl) (by simp) ?_
  refine AllReadyH.cons (o := { dst := some 70, op := Op.call { callee := Callee.value (Operand.func 8), args := #[Operand.tmp 68, Operand.tmp 69], argTypes := #[24, 24] }, type := 4, pos := "outright.go:83", after := #[{ on := 13, ground := Ground.data }, { on := 14, ground := Ground.data }, { on := 12, ground := Ground.chain }, { on := 12, ground := Ground.guard }], guard := some (12, true) }) rfl (fun K hK => ?_) AllReadyH.nil
  have HH := hidden hH4
  clear hH4
  go_simp
  refine (C15.out _ HH.out).mono ?_
  rintro e wn5 ⟨rfl, hb⟩
  have SN := hidden (bl_trans HH.out hb)
  clear HH C15 hb
  go_wp2_with fail
  refine hK.out _ _ SN.out (fun hH5 => ?_)
  clear hK K SN
  refine wpAnyH_take (i := 16) (oi := { dst := some 71, op := Op.pick (Operand.tmp 67) (Operand.tmp 70) (Operand.const (Value.bool false)), type := 4, pos := "outright.go:83", after := #[{ on := 12, ground := Ground.data }, { on := 15, ground := Ground.data }], guard := none }) (v := .bool bb) rfl (by kernel_rfl) (by kernel_rfl) (by kernel_rfl) (fun _ _ _ h => h) (Or.inl ⟨by rfl, fun w0 hSw => ?_⟩) hH5 ?_
  · (clear hSw; go_simp)
  simp only [Act.put, List.setIfInBounds_toArray, List.set_cons_zero, List.set_cons_succ]
  refine wpAnyH_take (i := 17) (oi := { dst := some 72, op := Op.binOp BinOp.neq 4 (Operand.tmp 63) (Operand.tmp 71) 4, type := 4, pos := "outright.go:83", after := #[{ on := 8, ground := Ground.data }, { on := 16, ground := Ground.data }], guard := none }) (v := .bool false) rfl (by kernel_rfl) (by kernel_rfl) (by kernel_rfl) (fun _ _ _ h => h) (Or.inl ⟨by rfl, fun w0 hSw => ?_⟩) hH5 ?_
  · (clear hSw; go_simp)
  simp only [Act.put, List.setIfInBounds_toArray, List.set_cons_zero, List.set_cons_succ]
  have HH := hidden hH5
  have FQ := hidden (HQ.out A m k A2 m2 k2 _ HH.out)
  refine wpAnyH_done (by kernel_rfl) ?_ _
  refine NoPanic.normal ?_
  exact FQ.out
def gb5fo : Array Oper := #[{ dst := some 55, op := Op.load 30 (Operand.tmp 20), type := 30, pos := "outright.go:83", after := #[], guard := none },
  { dst := some 56, op := Op.load 24 (Operand.tmp 10), type := 24, pos := "outright.go:83", after := #[], guard := none },
  { dst := some 57, op := Op.load 24 (Operand.tmp 12), type := 24, pos := "outright.go:83", after := #[], guard := none },
  { dst := some 58, op := Op.call { callee := Callee.value (Operand.func 6), args := #[Operand.tmp 55, Operand.tmp 56, Operand.tmp 57], argTypes := #[30, 24, 24] }, type := 27, pos := "outright.go:83", after := #[{ on := 0, ground := Ground.data }, { on := 1, ground := Ground.data }, { on := 2, ground := Ground.data }], guard := none },
  { dst := some 59, op := Op.load 30 (Operand.tmp 20), type := 30, pos := "outright.go:83", after := #[], guard := none },
  { dst := some 60, op := Op.load 24 (Operand.tmp 11), type := 24, pos := "outright.go:83", after := #[], guard := none },
  { dst := some 61, op := Op.load 24 (Operand.tmp 13), type := 24, pos := "outright.go:83", after := #[], guard := none },
  { dst := some 62, op := Op.call { callee := Callee.value (Operand.func 6), args := #[Operand.tmp 59, Operand.tmp 60, Operand.tmp 61], argTypes := #[30, 24, 24] }, type := 27, pos := "outright.go:83", after := #[{ on := 4, ground := Ground.data }, { on := 5, ground := Ground.data }, { on := 6, ground := Ground.data }, { on := 3, ground := Ground.chain }], guard := none },
  { dst := some 63, op := Op.call { callee := Callee.value (Operand.func 7), args := #[Operand.tmp 58, Operand.tmp 62], argTypes := #[27, 27] }, type := 4, pos := "outright.go:83", after := #[{ on := 3, ground := Ground.data }, { on := 7, ground := Ground.data }, { on := 7, ground := Ground.chain }], guard := none },
  { dst := some 64, op := Op.load 24 (Operand.tmp 10), type := 24, pos := "outright.go:83", after := #[], guard := none },
  { dst := some 65, op := Op.load 24 (Operand.tmp 11), type := 24, pos := "outright.go:83", after := #[], guard := none },
  { dst := some 66, op := Op.call { callee := Callee.value (Operand.func 8), args := #[Operand.tmp 64, Operand.tmp 65], argTypes := #[24, 24] }, type := 4, pos := "outright.go:83", after := #[{ on := 9, ground := Ground.data }, { on := 10, ground := Ground.data }, { on := 8, ground := Ground.chain }], guard := none },
  { dst := some 67, op := Op.move (Operand.tmp 66), type := 4, pos := "outright.go:83", after := #[{ on := 11, ground := Ground.data }, { on := 11, ground := Ground.chain }], guard := none },
  { dst := some 68, op := Op.load 24 (Operand.tmp 12), type := 24, pos := "outright.go:83", after := #[{ on := 12, ground := Ground.guard }], guard := some (12, true) },
  { dst := some 69, op := Op.load 24 (Operand.tmp 13), type := 24, pos := "outright.go:83", after := #[{ on := 12, ground := Ground.guard }], guard := some (12, true) },
  { dst := some 70, op := Op.call { callee := Callee.value (Operand.func 8), args := #[Operand.tmp 68, Operand.tmp 69], argTypes := #[24, 24] }, type := 4, pos := "outright.go:83", after := #[{ on := 13, ground := Ground.data }, { on := 14, ground := Ground.data }, { on := 12, ground := Ground.chain }, { on := 12, ground := Ground.guard }], guard := some (12, true) },
  { dst := some 71, op := Op.pick (Operand.tmp 67) (Operand.tmp 70) (Operand.const (Value.bool false)), type := 4, pos := "outright.go:83", after := #[{ on := 12, ground := Ground.data }, { on := 15, ground := Ground.data }], guard := none },
  { dst := some 72, op := Op.binOp BinOp.neq 4 (Operand.tmp 63) (Operand.tmp 71) 4, type := 4, pos := "outright.go:83", after := #[{ on := 8, ground := Ground.data }, { on := 16, ground := Ground.data }], guard := none }]
set_option maxRecDepth 100000 in
set_option maxHeartbeats 16000000 in
theorem gb5f (Q : Exit → Act → World → Prop) (T10 T11 T12 T13 T20 b0 b1 b2 g1 g2 n : Nat) (v x f g : E4) (xx yy : Nat → Int) (u0 u1 u2 u3 u4 u5 u6 u7 u8 u9 u14 u15 u16 u17 u18 u19 u21 u22 u23 u24 u25 u26 u27 u28 u29 u30 u31 u32 u33 u34 u35 u36 u37 u38 u39 u40 u41 u42 u43 u44 u45 u46 u47 u48 u49 u50 u51 u52 u53 u54 u55 u56 u57 u58 u59 u60 u61 u62 u63 u64 u65 u66 u67 u68 u69 u70 u71 u72 u73 u74 u75 u76 u77 u78 u79 u80 u81 u82 u83 u84 u85 u86 u87 u88 u89 u90 u91 u92 u93 u94 u95 u96 u97 u98 u99 u100 u101 u102 u103 u104 u105 u106 u107 u108 u109 u110 u111 u112 u113 u114 u115 u116 u117 u118 u119 u120 u121 u122 u123 u124 u125 u126 u127 u128 u129 u130 u131 u132 u133 u134 u135 u136 u137 u138 u139 u140 u141 u142 u143 u144 u145 u146 u147 u148 u149 u150 u151 u152 u153 u154 u155 u156 u157 u158 u159 u160 u161 u162 u163 u164 u165 u166 u167 u168 u169 u170 u171 u172 u173 u174 u175 u176 u177 u178 u179 u180 u181 u182 u183 u184 u185 u186 u187 u188 : Value) (W : World)
    (cs0 : W.cell? ⟨T20, 0, none⟩ = some (.slice (some ⟨b0, 0, none⟩) 1 1)) (cs1 : W.cell? ⟨T20, 1, none⟩ = some (.slice (some ⟨b1, 0, none⟩) 2 2)) (cs2 : W.cell? ⟨T20, 2, none⟩ = some (.slice (some ⟨b2, 0, none⟩) 3 3)) (cs3 : W.cell? ⟨T20, 3, none⟩ = some (.slice (some ⟨g1, 0, none⟩) n n)) (cs4 : W.cell? ⟨T20, 4, none⟩ = some (.slice (some ⟨g2, 0, none⟩) n n)) (cv0 : W.cell? ⟨T10, 0, none⟩ = some (.int .u64 v.x0)) (cv1 : W.cell? ⟨T10, 1, none⟩ = some (.int .u64 v.x1)) (cv2 : W.cell? ⟨T10, 2, none⟩ = some (.int .u64 v.x2)) (cv3 : W.cell? ⟨T10, 3, none⟩ = some (.int .u64 v.x3)) (cx0 : W.cell? ⟨T11, 0, none⟩ = some (.int .u64 x.x0)) (cx1 : W.cell? ⟨T11, 1, none⟩ = some (.int .u64 x.x1)) (cx2 : W.cell? ⟨T11, 2, none⟩ = some (.int .u64 x.x2)) (cx3 : W.cell? ⟨T11, 3, none⟩ = some (.int .u64 x.x3)) (cf0 : W.cell? ⟨T12, 0, none⟩ = some (.int .u64 f.x0)) (cf1 : W.cell? ⟨T12, 1, none⟩ = some (.int .u64 f.x1)) (cf2 : W.cell? ⟨T12, 2, none⟩ = some (.int .u64 f.x2)) (cf3 : W.cell? ⟨T12, 3, none⟩ = some (.int .u64 f.x3)) (cg0 : W.cell? ⟨T13, 0, none⟩ = some (.int .u64 g.x0)) (cg1 : W.cell? ⟨T13, 1, none⟩ = some (.int .u64 g.x1)) (cg2 : W.cell? ⟨T13, 2, none⟩ = some (.int .u64 g.x2)) (cg3 : W.cell? ⟨T13, 3, none⟩ = some (.int .u64 g.x3))
    (C3 : Hid (∀ x, Below W.heap.size W x → Calls Tryz.prog 6 #[.agg #[.slice (some ⟨b0, 0, none⟩) 1 1, .slice (some ⟨b1, 0, none⟩) 2 2, .slice (some ⟨b2, 0, none⟩) 3 3, .slice (some ⟨g1, 0, none⟩) n n, .slice (some ⟨g2, 0, none⟩) n n], .agg #[.int .u64 v.x0, .int .u64 v.x1, .int .u64 v.x2, .int .u64 v.x3], .agg #[.int .u64 f.x0, .int .u64 f.x1, .int .u64 f.x2, .int .u64 f.x3]] x fun e w' => Fq x w' e xx))
    (C7 : Hid (∀ y, Below W.heap.size W y → Calls Tryz.prog 6 #[.agg #[.slice (some ⟨b0, 0, none⟩) 1 1, .slice (some ⟨b1, 0, none⟩) 2 2, .slice (some ⟨b2, 0, none⟩) 3 3, .slice (some ⟨g1, 0, none⟩) n n, .slice (some ⟨g2, 0, none⟩) n n], .agg #[.int .u64 x.x0, .int .u64 x.x1, .int .u64 x.x2, .int .u64 x.x3], .agg #[.int .u64 g.x0, .int .u64 g.x1, .int .u64 g.x2, .int .u64 g.x3]] y fun e w' => Fq y w' e yy))
    (C8 : Hid (∀ (y : World) (A m k A2 m2 k2 : Nat), Below W.heap.size W y → Fr y (.agg #[.slice (some ⟨A, 0, none⟩) m k]) xx → Fr y (.agg #[.slice (some ⟨A2, 0, none⟩) m2 k2]) yy → Calls Tryz.prog 7 #[.agg #[.slice (some ⟨A, 0, none⟩) m k], .agg #[.slice (some ⟨A2, 0, none⟩) m2 k2]] y fun e w' => e = .returned (.bool false) ∧ Below y.heap.size y w'))
    (C11 : Hid (∀ y, Below W.heap.size W y → Calls Tryz.prog 8 #[.agg #[.int .u64 v.x0, .int .u64 v.x1, .int .u64 v.x2, .int .u64 v.x3], .agg #[.int .u64 x.x0, .int .u64 x.x1, .int .u64 x.x2, .int .u64 x.x3]] y fun e w' => e = .returned (.bool false) ∧ Below y.heap.size y w'))
    (HQ : Hid (∀ (A m k A2 m2 k2 : Nat) (wz : World), Below W.heap.size W wz → Q .normal ⟨#[u0, u1, u2, u3, u4, u5, u6, u7, u8, u9, .pointer (some ⟨T10, 0, none⟩), .pointer (some ⟨T11, 0, none⟩), .pointer (some ⟨T12, 0, none⟩), .pointer (some ⟨T13, 0, none⟩), u14, u15, u16, u17, u18, u19, .pointer (some ⟨T20, 0, none⟩), u21, u22, u23, u24, u25, u26, u27, u28, u29, u30, u31, u32, u33, u34, u35, u36, u37, u38, u39, u40, u41, u42, u43, u44, u45, u46, u47, u48, u49, u50, u51, u52, u53, u54, .agg #[.slice (some ⟨b0, 0, none⟩) 1 1, .slice (some ⟨b1, 0, none⟩) 2 2, .slice (some ⟨b2, 0, none⟩) 3 3, .slice (some ⟨g1, 0, none⟩) n n, .slice (some ⟨g2, 0, none⟩) n n], .agg #[.int .u64 v.x0, .int .u64 v.x1, .int .u64 v.x2, .int .u64 v.x3], .agg #[.int .u64 f.x0, .int .u64 f.x1, .int .u64 f.x2, .int .u64 f.x3], .agg #[.slice (some ⟨A, 0, none⟩) m k], .agg #[.slice (some ⟨b0, 0, none⟩) 1 1, .slice (some ⟨b1, 0, none⟩) 2 2, .slice (some ⟨b2, 0, none⟩) 3 3, .slice (some ⟨g1, 0, none⟩) n n, .slice (some ⟨g2, 0, none⟩) n n], .agg #[.int .u64 x.x0, .int .u64 x.x1, .int .u64 x.x2, .int .u64 x.x3], .agg #[.int .u64 g.x0, .int .u64 g.x1, .int .u64 g.x2, .int .u64 g.x3], .agg #[.slice (some ⟨A2, 0, none⟩) m2 k2], .bool false, .agg #[.int .u64 v.x0, .int .u64 v.x1, .int .u64 v.x2, .int .u64 v.x3], .agg #[.int .u64 x.x0, .int .u64 x.x1, .int .u64 x.x2, .int .u64 x.x3], .bool false, .bool false, undef, undef, undef, .bool false, .bool false, u73, u74, u75, u76, u77, u78, u79, u80, u81, u82, u83, u84, u85, u86, u87, u88, u89, u90, u91, u92, u93, u94, u95, u96, u97, u98, u99, u100, u101, u102, u103, u104, u105, u106, u107, u108, u109, u110, u111, u112, u113, u114, u115, u116, u117, u118, u119, u120, u121, u122, u123, u124, u125, u126, u127, u128, u129, u130, u131, u132, u133, u134, u135, u136, u137, u138, u139, u140, u141, u142, u143, u144, u145, u146, u147, u148, u149, u150, u151, u152, u153, u154, u155, u156, u157, u158, u159, u160, u161, u162, u163, u164, u165, u166, u167, u168, u169, u170, u171, u172, u173, u174, u175, u176, u177, u178, u179, u180, u181, u182, u183, u184, u185, u186, u187, u188], []⟩ wz)) : (Code.region 5 gb5fo true).wp Tryz.prog Q ⟨#[u0, u1, u2, u3, u4, u5, u6, u7, u8, u9, .pointer (some ⟨T10, 0, none⟩), .pointer (some ⟨T11, 0, none⟩), .pointer (some ⟨T12, 0, none⟩), .pointer (some ⟨T13, 0, none⟩), u14, u15, u16, u17, u18, u19, .pointer (some ⟨T20, 0, none⟩), u21, u22, u23, u24, u25, u26, u27, u28, u29, u30, u31, u32, u33, u34, u35, u36, u37, u38, u39, u40, u41, u42, u43, u44, u45, u46, u47, u48, u49, u50, u51, u52, u53, u54, u55, u56, u57, u58, u59, u60, u61, u62, u63, u64, u65, u66, u67, u68, u69, u70, u71, u72, u73, u74, u75, u76, u77, u78, u79, u80, u81, u82, u83, u84, u85, u86, u87, u88, u89, u90, u91, u92, u93, u94, u95, u96, u97, u98, u99, u100, u101, u102, u103, u104, u105, u106, u107, u108, u109, u110, u111, u112, u113, u114, u115, u116, u117, u118, u119, u120, u121, u122, u123, u124, u125, u126, u127, u128, u129, u130, u131, u132, u133, u134, u135, u136, u137, u138, u139, u140, u141, u142, u143, u144, u145, u146, u147, u148, u149, u150, u151, u152, u153, u154, u155, u156, u157, u158, u159, u160, u161, u162, u163, u164, u165, u166, u167, u168, u169, u170, u171, u172, u173, u174, u175, u176, u177, u178, u179, u180, u181, u182, u183, u184, u185, u186, u187, u188], []⟩ W := by
  unfold gb5fo
  refine wp_region_noPanic ?_
  refine wp_region_held_drew (S := fun x => Below W.heap.size W x) (by kernel_rfl) (bl_drew W) (fun hH0 => ?_)
  refine wpAnyH_take (i := 0) (oi := { dst := some 55, op := Op.load 30 (Operand.tmp 20), type := 30, pos := "outright.go:83", after := #[], guard := none }) (v := .agg #[.slice (some ⟨b0, 0, none⟩) 1 1, .slice (some ⟨b1, 0, none⟩) 2 2, .slice (some ⟨b2, 0, none⟩) 3 3, .slice (some ⟨g1, 0, none⟩) n n, .slice (some ⟨g2, 0, none⟩) n n]) rfl (by kernel_rfl) (by kernel_rfl) (by kernel_rfl) (fun _ _ _ h => h) (Or.inl ⟨by rfl, fun w0 hSw => ?_⟩) hH0 ?_
  · (have hS : Below W.heap.size W w0 := hSw; have a0 := cell_keep cs0 hS; have a1 := cell_keep cs1 hS; have a2 := cell_keep cs2 hS; have a3 := cell_keep cs3 hS; have a4 := cell_keep cs4 hS; clear hS hSw; go_simp)
  simp only [Act.put, List.setIfInBounds_toArray, List.set_cons_zero, List.set_cons_succ]
  refine wpAnyH_take (i := 1) (oi := { dst := some 56, op := Op.load 24 (Operand.tmp 10), type := 24, pos := "outright.go:83", after := #[], guard := none }) (v := .agg #[.int .u64 v.x0, .int .u64 v.x1, .int .u64 v.x2, .int .u64 v.x3]) rfl (by kernel_rfl) (by kernel_rfl) (by kernel_rfl) (fun _ _ _ h => h) (Or.inl ⟨by rfl, fun w0 hSw => ?_⟩) hH0 ?_
  · (have hS : Below W.heap.size W w0 := hSw; have a0 := cell_keep cv0 hS; have a1 := cell_keep cv1 hS; have a2 := cell_keep cv2 hS; have a3 := cell_keep cv3 hS; clear hS hSw; go_simp)
  simp only [Act.put, List.setIfInBounds_toArray, List.set_cons_zero, List.set_cons_succ]
  refine wpAnyH_take (i := 2) (oi := { dst := some 57, op := Op.load 24 (Operand.tmp 12), type := 24, pos := "outright.go:83", after := #[], guard := none }) (v := .agg #[.int .u64 f.x0, .int .u64 f.x1, .int .u64 f.x2, .int .u64 f.x3]) rfl (by kernel_rfl) (by kernel_rfl) (by kernel_rfl) (fun _ _ _ h => h) (Or.inl ⟨by rfl, fun w0 hSw => ?_⟩) hH0 ?_
  · (have hS : Below W.heap.size W w0 := hSw; have a0 := cell_keep cf0 hS; have a1 := cell_keep cf1 hS; have a2 := cell_keep cf2 hS; have a3 := cell_keep cf3 hS; clear hS hSw; go_simp)
  simp only [Act.put, List.setIfInBounds_toArray, List.set_cons_zero, List.set_cons_succ]
  refine wpAnyH_take (i := 4) (oi := { dst := some 59, op := Op.load 30 (Operand.tmp 20), type := 30, pos := "outright.go:83", after := #[], guard := none }) (v := .agg #[.slice (some ⟨b0, 0, none⟩) 1 1, .slice (some ⟨b1, 0, none⟩) 2 2, .slice (some ⟨b2, 0, none⟩) 3 3, .slice (some ⟨g1, 0, none⟩) n n, .slice (some ⟨g2, 0, none⟩) n n]) rfl (by kernel_rfl) (by kernel_rfl) (by kernel_rfl) (fun _ _ _ h => h) (Or.inl ⟨by rfl, fun w0 hSw => ?_⟩) hH0 ?_
  · (have hS : Below W.heap.size W w0 := hSw; have a0 := cell_keep cs0 hS; have a1 := cell_keep cs1 hS; have a2 := cell_keep cs2 hS; have a3 := cell_keep cs3 hS; have a4 := cell_keep cs4 hS; clear hS hSw; go_simp)
  simp only [Act.put, List.setIfInBounds_toArray, List.set_cons_zero, List.set_cons_succ]
  refine wpAnyH_take (i := 5) (oi := { dst := some 60, op := Op.load 24 (Operand.tmp 11), type := 24, pos := "outright.go:83", after := #[], guard := none }) (v := .agg #[.int .u64 x.x0, .int .u64 x.x1, .int .u64 x.x2, .int .u64 x.x3]) rfl (by kernel_rfl) (by kernel_rfl) (by kernel_rfl) (fun _ _ _ h => h) (Or.inl ⟨by rfl, fun w0 hSw => ?_⟩) hH0 ?_
  · (have hS : Below W.heap.size W w0 := hSw; have a0 := cell_keep cx0 hS; have a1 := cell_keep cx1 hS; have a2 := cell_keep cx2 hS; have a3 := cell_keep cx3 hS; clear hS hSw; go_simp)
  simp only [Act.put, List.setIfInBounds_toArray, List.set_cons_zero, List.set_cons_succ]
  refine wpAnyH_take (i := 6) (oi := { dst := some 61, op := Op.load 24 (Operand.tmp 13), type := 24, pos := "outright.go:83", after := #[], guard := none }) (v := .agg #[.int .u64 g.x0, .int .u64 g.x1, .int .u64 g.x2, .int .u64 g.x3]) rfl (by kernel_rfl) (by kernel_rfl) (by kernel_rfl) (fun _ _ _ h => h) (Or.inl ⟨by rfl, fun w0 hSw => ?_⟩) hH0 ?_
  · (have hS : Below W.heap.size W w0 := hSw; have a0 := cell_keep cg0 hS; have a1 := cell_keep cg1 hS; have a2 := cell_keep cg2 hS; have a3 := cell_keep cg3 hS; clear hS hSw; go_simp)
  simp only [Act.put, List.setIfInBounds_toArray, List.set_cons_zero, List.set_cons_succ]
  refine wpAnyH_take (i := 9) (oi := { dst := some 64, op := Op.load 24 (Operand.tmp 10), type := 24, pos := "outright.go:83", after := #[], guard := none }) (v := .agg #[.int .u64 v.x0, .int .u64 v.x1, .int .u64 v.x2, .int .u64 v.x3]) rfl (by kernel_rfl) (by kernel_rfl) (by kernel_rfl) (fun _ _ _ h => h) (Or.inl ⟨by rfl, fun w0 hSw => ?_⟩) hH0 ?_
  · (have hS : Below W.heap.size W w0 := hSw; have a0 := cell_keep cv0 hS; have a1 := cell_keep cv1 hS; have a2 := cell_keep cv2 hS; have a3 := cell_keep cv3 hS; clear hS hSw; go_simp)
  simp only [Act.put, List.setIfInBounds_toArray, List.set_cons_zero, List.set_cons_succ]
  refine wpAnyH_take (i := 10) (oi := { dst := some 65, op := Op.load 24 (Operand.tmp 11), type := 24, pos := "outright.go:83", after := #[], guard := none }) (v := .agg #[.int .u64 x.x0, .int .u64 x.x1, .int .u64 x.x2, .int .u64 x.x3]) rfl (by kernel_rfl) (by kernel_rfl) (by kernel_rfl) (fun _ _ _ h => h) (Or.inl ⟨by rfl, fun w0 hSw => ?_⟩) hH0 ?_
  · (have hS : Below W.heap.size W w0 := hSw; have a0 := cell_keep cx0 hS; have a1 := cell_keep cx1 hS; have a2 := cell_keep cx2 hS; have a3 := cell_keep cx3 hS; clear hS hSw; go_simp)
  simp only [Act.put, List.setIfInBounds_toArray, List.set_cons_zero, List.set_cons_succ]
  refine wpAnyH_ready (rs := [3]) (by kernel_rfl) (by simp) ?_
  refine AllReadyH.cons (o := { dst := some 58, op := Op.call { callee := Callee.value (Operand.func 6), args := #[Operand.tmp 55, Operand.tmp 56, Operand.tmp 57], argTypes := #[30, 24, 24] }, type := 27, pos := "outright.go:83", after := #[{ on := 0, ground := Ground.data }, { on := 1, ground := Ground.data }, { on := 2, ground := Ground.data }], guard := none }) rfl (fun K hK => ?_) AllReadyH.nil
  have HH := hidden hH0
  clear hH0
  go_simp
  refine (C3.out _ HH.out).mono ?_
  rintro e wn1 ⟨A, m, k, rfl, hA, hF, hb⟩
  have FA := hidden (hF)
  have SN := hidden (bl_trans HH.out hb)
  clear HH C3 hA hF hb
  go_wp2_with fail
  refine hK.out _ _ SN.out (fun hH1 => ?_)
  clear hK K SN
  refine wpAnyH_ready (rs := [7]) (by kernel_rfl) (by simp) ?_
  refine AllReadyH.cons (o := { dst := some 62, op := Op.call { callee := Callee.value (Operand.func 6), args := #[Operand.tmp 59, Operand.tmp 60, Operand.tmp 61], argTypes := #[30, 24, 24] }, type := 27, pos := "outright.go:83", after := #[{ on := 4, ground := Ground.data }, { on := 5, ground := Ground.data }, { on := 6, ground := Ground.data }, { on := 3, ground := Ground.chain }], guard := none }) rfl (fun K hK => ?_) AllReadyH.nil
  have HH := hidden hH1
  clear hH1
  go_simp
  refine (C7.out _ HH.out).mono ?_
  rintro e wn2 ⟨A2, m2, k2, rfl, hA, hF, hb⟩
  replace FA := hidden (FA.out.keep hb)
  have FB := hidden (hF)
  have SN := hidden (bl_trans HH.out hb)
  clear HH C7 hA hF hb
  go_wp2_with fail
  refine hK.out _ _ SN.out (fun hH2 => ?_)
  clear hK K SN
  refine wpAnyH_ready (rs := [8]) (by kernel_rfl) (by simp) ?_
  refine AllReadyH.cons (o := { dst := some 63, op := Op.call { callee := Callee.value (Operand.func 7), args := #[Operand.tmp 58, Operand.tmp 62], argTypes := #[27, 27] }, type := 4, pos := "outright.go:83", after := #[{ on := 3, ground := Ground.data }, { on := 7, ground := Ground.data }, { on := 7, ground := Ground.chain }], guard := none }) rfl (fun K hK => ?_) AllReadyH.nil
  have HH := hidden hH2
  clear hH2
  go_simp
  refine (C8.out _ A m k A2 m2 k2 HH.out FA.out FB.out).mono ?_
  rintro e wn3 ⟨rfl, hb⟩
  have SN := hidden (bl_trans HH.out hb)
  clear HH C8 hb
  go_wp2_with fail
  refine hK.out _ _ SN.out (fun hH3 => ?_)
  clear hK K SN
  refine wpAnyH_ready (rs := [11]) (by kernel_rfl) (by simp) ?_
  refine AllReadyH.cons (o := { dst := some 66, op := Op.call { callee := Callee.value (Operand.func 8), args := #[Operand.tmp 64, Operand.tmp 65], argTypes := #[24, 24] }, type := 4, pos := "outright.go:83", after := #[{ on := 9, ground := Ground.data }, { on := 10, ground := Ground.data }, { on := 8, ground := Ground.chain }], guard := none }) rfl (fun K hK => ?_) AllReadyH.nil
  have HH := hidden hH3
  clear hH3
  go_simp
  refine (C11.out _ HH.out).mono ?_
  rintro e wn4 ⟨rfl, hb⟩
  have SN := hidden (bl_trans HH.out hb)
  clear HH C11 hb
  go_wp2_with fail
  refine hK.out _ _ SN.out (fun hH4 => ?_)
  clear hK K SN
  refine wpAnyH_take (i := 12) (oi := { dst := some 67, op := Op.move (Operand.tmp 66), type := 4, pos := "outright.go:83", after := #[{ on := 11, ground := Ground.data }, { on := 11, ground := Ground.chain }], guard := none }) (v := .bool false) rfl (by kernel_rfl) (by kernel_rfl) (by kernel_rfl) (fun _ _ _ h => h) (Or.inl ⟨by rfl, fun w0 hSw => ?_⟩) hH4 ?_
  · (clear hSw; go_simp)
  simp only [Act.put, List.setIfInBounds_toArray, List.set_cons_zero, List.set_cons_succ]
  refine wpAnyH_take (i := 13) (oi := { dst := some 68, op := Op.load 24 (Operand.tmp 12), type := 24, pos := "outright.go:83", after := #[{ on := 12, ground := Ground.guard }], guard := some (12, true) }) (v := undef) rfl (by kernel_rfl) (by kernel_rfl) (by kernel_rfl) (fun _ _ _ h => h) (Or.inr ⟨by rfl, rfl⟩) hH4 ?_
  simp only [Act.put, List.setIfInBounds_toArray, List.set_cons_zero, List.set_cons_succ]
  refine wpAnyH_take (i := 14) (oi := { dst := some 69, op := Op.load 24 (Operand.tmp 13), type := 24, pos := "outright.go:83", after := #[{ on := 12, ground := Ground.guard }], guard := some (12, true) }) (v := undef) rfl (by kernel_rfl) (by kernel_rfl) (by kernel_rfl) (fun _ _ _ h => h) (Or.inr ⟨by rfl, rfl⟩) hH4 ?_
  simp only [Act.put, List.setIfInBounds_toArray, List.set_cons_zero, List.set_cons_succ]
  refine wpAnyH_ready (rs := [15]) (by kernel_rfl) (by simp) ?_
  refine AllReadyH.cons (o := { dst := some 70, op := Op.call { callee := Callee.value (Operand.func 8), args := #[Operand.tmp 68, Operand.tmp 69], argTypes := #[24, 24] }, type := 4, pos := "outright.go:83", after := #[{ on := 13, ground := Ground.data }, { on := 14, ground := Ground.data }, { on := 12, ground := Ground.chain }, { on := 12, ground := Ground.guard }], guard := some (12, true) }) rfl (fun K hK => ?_) AllReadyH.nil
  refine Eq.mpr (if_neg (by exact fun h => Bool.false_ne_true h)) ?_
  refine hK.out _ _ hH4 (fun hzz => ?_)
  clear hK K hzz
  simp only [Act.put, List.setIfInBounds_toArray, List.set_cons_zero, List.set_cons_succ]
  refine wpAnyH_take (i := 16) (oi := { dst := some 71, op := Op.pick (Operand.tmp 67) (Operand.tmp 70) (Operand.const (Value.bool false)), type := 4, pos := "outright.go:83", after := #[{ on := 12, ground := Ground.data }, { on := 15, ground := Ground.data }], guard := none }) (v := .bool false) rfl (by kernel_rfl) (by kernel_rfl) (by kernel_rfl) (fun _ _ _ h => h) (Or.inl ⟨by rfl, fun w0 hSw => ?_⟩) hH4 ?_
  · (clear hSw; go_simp)
  simp only [Act.put, List.setIfInBounds_toArray, List.set_cons_zero, List.set_cons_succ]
  refine wpAnyH_take (i := 17) (oi := { dst := some 72, op := Op.binOp BinOp.neq 4 (Operand.tmp 63) (Operand.tmp 71) 4, type := 4, pos := "outright.go:83", after := #[{ on := 8, ground := Ground.data }, { on := 16, ground := Ground.data }], guard := none }) (v := .bool false) rfl (by kernel_rfl) (by kernel_rfl) (by kernel_rfl) (fun _ _ _ h => h) (Or.inl ⟨by rfl, fun w0 hSw => ?_⟩) hH4 ?_
  · (clear hSw; go_simp)
  simp only [Act.put, List.setIfInBounds_toArray, List.set_cons_zero, List.set_cons_succ]
  have HH := hidden hH4
  have FQ := hidden (HQ.out A m k A2 m2 k2 _ HH.out)
  refine wpAnyH_done (by kernel_rfl) ?_ _
  refine NoPanic.normal ?_
  exact FQ.out
def gb18o : Array Oper := #[{ dst := some 176, op := Op.load 27 (Operand.tmp 22), type := 27, pos := "outright.go:98", after := #[], guard := none },
  { dst := some 177, op := Op.load 27 (Operand.tmp 24), type := 27, pos := "outright.go:98", after := #[], guard := none },
  { dst := some 178, op := Op.call { callee := Callee.value (Operand.func 7), args := #[Operand.tmp 176, Operand.tmp 177], argTypes := #[27, 27] }, type := 4, pos := "outright.go:98", after := #[{ on := 0, ground := Ground.data }, { on := 1, ground := Ground.data }], guard := none },
  { dst := some 179, op := Op.move (Operand.tmp 26), type := 4, pos := "outright.go:98", after := #[], guard := none },
  { dst := some 180, op := Op.binOp BinOp.eql 4 (Operand.tmp 178) (Operand.tmp 179) 4, type := 4, pos := "outright.go:98", after := #[{ on := 2, ground := Ground.data }, { on := 3, ground := Ground.data }], guard := none },
  { dst := some 181, op := Op.move (Operand.tmp 180), type := 4, pos := "outright.go:98", after := #[{ on := 4, ground := Ground.data }, { on := 2, ground := Ground.chain }], guard := none },
  { dst := some 182, op := Op.fieldAddr 27 (Operand.tmp 22) 0, type := 0, pos := "outright.go:98", after := #[{ on := 5, ground := Ground.guard }], guard := some (5, true) },
  { dst := some 183, op := Op.load 25 (Operand.tmp 182), type := 25, pos := "outright.go:98", after := #[{ on := 6, ground := Ground.data }, { on := 5, ground := Ground.guard }], guard := some (5, true) },
  { dst := some 184, op := Op.call { callee := Callee.value (Operand.func 10), args := #[Operand.tmp 183, Operand.const (Value.int IntKind.i64 1)], argTypes := #[25, 3] }, type := 24, pos := "outright.go:98", after := #[{ on := 7, ground := Ground.data }, { on := 5, ground := Ground.chain }, { on := 5, ground := Ground.guard }], guard := some (5, true) },
  { dst := some 185, op := Op.load 24 (Operand.tmp 12), type := 24, pos := "outright.go:98", after := #[{ on := 5, ground := Ground.guard }], guard := some (5, true) },
  { dst := some 186, op := Op.call { callee := Callee.value (Operand.func 11), args := #[Operand.tmp 185], argTypes := #[24] }, type := 24, pos := "outright.go:98", after := #[{ on := 9, ground := Ground.data }, { on := 8, ground := Ground.chain }, { on := 5, ground := Ground.guard }], guard := some (5, true) },
  { dst := some 187, op := Op.binOp BinOp.eql 24 (Operand.tmp 184) (Operand.tmp 186) 24, type := 4, pos := "outright.go:98", after := #[{ on := 8, ground := Ground.data }, { on := 10, ground := Ground.data }, { on := 5, ground := Ground.guard }], guard := some (5, true) },
  { dst := some 188, op := Op.pick (Operand.tmp 181) (Operand.tmp 187) (Operand.const (Value.bool false)), type := 4, pos := "outright.go:98", after := #[{ on := 5, ground := Ground.data }, { on := 11, ground := Ground.data }], guard := none },
  { dst := some 18, op := Op.assign (Operand.tmp 188), type := 4, pos := "outright.go:98", after := #[{ on := 12, ground := Ground.data }, { on := 10, ground := Ground.chain }, { on := 0, ground := Ground.phase }, { on := 1, ground := Ground.phase }, { on := 2, ground := Ground.phase }, { on := 3, ground := Ground.phase }, { on := 4, ground := Ground.phase }, { on := 5, ground := Ground.phase }, { on := 6, ground := Ground.phase }, { on := 7, ground := Ground.phase }, { on := 8, ground := Ground.phase }, { on := 9, ground := Ground.phase }, { on := 10, ground := Ground.phase }, { on := 11, ground := Ground.phase }, { on := 12, ground := Ground.phase }], guard := none }]
set_option maxRecDepth 100000 in
set_option maxHeartbeats 16000000 in
theorem gb18 (Q : Exit → Act → World → Prop) (T12 T22 T24 A m k A2 m2 k2 : Nat) (f r : E4) (bb : Bool) (u0 u1 u2 u3 u4 u5 u6 u7 u8 u9 u10 u11 u13 u14 u15 u16 u17 u18 u19 u20 u21 u23 u25 u27 u28 u29 u30 u31 u32 u33 u34 u35 u36 u37 u38 u39 u40 u41 u42 u43 u44 u45 u46 u47 u48 u49 u50 u51 u52 u53 u54 u55 u56 u57 u58 u59 u60 u61 u62 u63 u64 u65 u66 u67 u68 u69 u70 u71 u72 u73 u74 u75 u76 u77 u78 u79 u80 u81 u82 u83 u84 u85 u86 u87 u88 u89 u90 u91 u92 u93 u94 u95 u96 u97 u98 u99 u100 u101 u102 u103 u104 u105 u106 u107 u108 u109 u110 u111 u112 u113 u114 u115 u116 u117 u118 u119 u120 u121 u122 u123 u124 u125 u126 u127 u128 u129 u130 u131 u132 u133 u134 u135 u136 u137 u138 u139 u140 u141 u142 u143 u144 u145 u146 u147 u148 u149 u150 u151 u152 u153 u154 u155 u156 u157 u158 u159 u160 u161 u162 u163 u164 u165 u166 u167 u168 u169 u170 u171 u172 u173 u174 u175 u176 u177 u178 u179 u180 u181 u182 u183 u184 u185 u186 u187 u188 : Value) (W : World)
    (cX0 : W.cell? ⟨T22, 0, none⟩ = some (.slice (some ⟨A, 0, none⟩) m k)) (cY0 : W.cell? ⟨T24, 0, none⟩ = some (.slice (some ⟨A2, 0, none⟩) m2 k2)) (cf0 : W.cell? ⟨T12, 0, none⟩ = some (.int .u64 f.x0)) (cf1 : W.cell? ⟨T12, 1, none⟩ = some (.int .u64 f.x1)) (cf2 : W.cell? ⟨T12, 2, none⟩ = some (.int .u64 f.x2)) (cf3 : W.cell? ⟨T12, 3, none⟩ = some (.int .u64 f.x3))
    (eqr : ∀ w, (Op.equalIn 10000 24 (.agg #[.int .u64 r.x0, .int .u64 r.x1, .int .u64 r.x2, .int .u64 r.x3]) (.agg #[.int .u64 r.x0, .int .u64 r.x1, .int .u64 r.x2, .int .u64 r.x3])).run Tryz.prog w = .ok true w)
    (C2 : Hid (∀ y, Below W.heap.size W y → Calls Tryz.prog 7 #[.agg #[.slice (some ⟨A, 0, none⟩) m k], .agg #[.slice (some ⟨A2, 0, none⟩) m2 k2]] y fun e w' => e = .returned (.bool bb) ∧ Below y.heap.size y w'))
    (C8 : Hid (∀ y, Below W.heap.size W y → Calls Tryz.prog 10 #[.slice (some ⟨A, 0, none⟩) m k, .int .i64 1] y fun e w' => e = .returned (.agg #[.int .u64 r.x0, .int .u64 r.x1, .int .u64 r.x2, .int .u64 r.x3]) ∧ Below y.heap.size y w'))
    (C10 : Hid (∀ y, Below W.heap.size W y → Calls Tryz.prog 11 #[.agg #[.int .u64 f.x0, .int .u64 f.x1, .int .u64 f.x2, .int .u64 f.x3]] y fun e w' => e = .returned (.agg #[.int .u64 r.x0, .int .u64 r.x1, .int .u64 r.x2, .int .u64 r.x3]) ∧ Below y.heap.size y w'))
    (HQ : Hid (∀ (wz : World), Below W.heap.size W wz → Q .normal ⟨#[u0, u1, u2, u3, u4, u5, u6, u7, u8, u9, u10, u11, .pointer (some ⟨T12, 0, none⟩), u13, u14, u15, u16, u17, .bool true, u19, u20, u21, .pointer (some ⟨T22, 0, none⟩), u23, .pointer (some ⟨T24, 0, none⟩), u25, .bool bb, u27, u28, u29, u30, u31, u32, u33, u34, u35, u36, u37, u38, u39, u40, u41, u42, u43, u44, u45, u46, u47, u48, u49, u50, u51, u52, u53, u54, u55, u56, u57, u58, u59, u60, u61, u62, u63, u64, u65, u66, u67, u68, u69, u70, u71, u72, u73, u74, u75, u76, u77, u78, u79, u80, u81, u82, u83, u84, u85, u86, u87, u88, u89, u90, u91, u92, u93, u94, u95, u96, u97, u98, u99, u100, u101, u102, u103, u104, u105, u106, u107, u108, u109, u110, u111, u112, u113, u114, u115, u116, u117, u118, u119, u120, u121, u122, u123, u124, u125, u126, u127, u128, u129, u130, u131, u132, u133, u134, u135, u136, u137, u138, u139, u140, u141, u142, u143, u144, u145, u146, u147, u148, u149, u150, u151, u152, u153, u154, u155, u156, u157, u158, u159, u160, u161, u162, u163, u164, u165, u166, u167, u168, u169, u170, u171, u172, u173, u174, u175, .agg #[.slice (some ⟨A, 0, none⟩) m k], .agg #[.slice (some ⟨A2, 0, none⟩) m2 k2], .bool bb, .bool bb, .bool true, .bool true, .pointer (some ⟨T22, 0, none⟩), .slice (some ⟨A, 0, none⟩) m k, .agg #[.int .u64 r.x0, .int .u64 r.x1, .int .u64 r.x2, .int .u64 r.x3], .agg #[.int .u64 f.x0, .int .u64 f.x1, .int .u64 f.x2, .int .u64 f.x3], .agg #[.int .u64 r.x0, .int .u64 r.x1, .int .u64 r.x2, .int .u64 r.x3], .bool true, .bool true], []⟩ wz)) : (Code.region 18 gb18o true).wp Tryz.prog Q ⟨#[u0, u1, u2, u3, u4, u5, u6, u7, u8, u9, u10, u11, .pointer (some ⟨T12, 0, none⟩), u13, u14, u15, u16, u17, u18, u19, u20, u21, .pointer (some ⟨T22, 0, none⟩), u23, .pointer (some ⟨T24, 0, none⟩), u25, .bool bb, u27, u28, u29, u30, u31, u32, u33, u34, u35, u36, u37, u38, u39, u40, u41, u42, u43, u44, u45, u46, u47, u48, u49, u50, u51, u52, u53, u54, u55, u56, u57, u58, u59, u60, u61, u62, u63, u64, u65, u66, u67, u68, u69, u70, u71, u72, u73, u74, u75, u76, u77, u78, u79, u80, u81, u82, u83, u84, u85, u86, u87, u88, u89, u90, u91, u92, u93, u94, u95, u96, u97, u98, u99, u100, u101, u102, u103, u104, u105, u106, u107, u108, u109, u110, u111, u112, u113, u114, u115, u116, u117, u118, u119, u120, u121, u122, u123, u124, u125, u126, u127, u128, u129, u130, u131, u132, u133, u134, u135, u136, u137, u138, u139, u140, u141, u142, u143, u144, u145, u146, u147, u148, u149, u150, u151, u152, u153, u154, u155, u156, u157, u158, u159, u160, u161, u162, u163, u164, u165, u166, u167, u168, u169, u170, u171, u172, u173, u174, u175, u176, u177, u178, u179, u180, u181, u182, u183, u184, u185, u186, u187, u188], []⟩ W := by
  unfold gb18o
  refine wp_region_noPanic ?_
  refine wp_region_held_drew (S := fun x => Below W.heap.size W x) (by kernel_rfl) (bl_drew W) (fun hH0 => ?_)
  refine wpAnyH_take (i := 0) (oi := { dst := some 176, op := Op.load 27 (Operand.tmp 22), type := 27, pos := "outright.go:98", after := #[], guard := none }) (v := .agg #[.slice (some ⟨A, 0, none⟩) m k]) rfl (by kernel_rfl) (by kernel_rfl) (by kernel_rfl) (fun _ _ _ h => h) (Or.inl ⟨by rfl, fun w0 hSw => ?_⟩) hH0 ?_
  · (have hS : Below W.heap.size W w0 := hSw; have a0 := cell_keep cX0 hS; clear hS hSw; go_simp)
  simp only [Act.put, List.setIfInBounds_toArray, List.set_cons_zero, List.set_cons_succ]
  refine wpAnyH_take (i := 1) (oi := { dst := some 177, op := Op.load 27 (Operand.tmp 24), type := 27, pos := "outright.go:98", after := #[], guard := none }) (v := .agg #[.slice (some ⟨A2, 0, none⟩) m2 k2]) rfl (by kernel_rfl) (by kernel_rfl) (by kernel_rfl) (fun _ _ _ h => h) (Or.inl ⟨by rfl, fun w0 hSw => ?_⟩) hH0 ?_
  · (have hS : Below W.heap.size W w0 := hSw; have a0 := cell_keep cY0 hS; clear hS hSw; go_simp)
  simp only [Act.put, List.setIfInBounds_toArray, List.set_cons_zero, List.set_cons_succ]
  refine wpAnyH_take (i := 3) (oi := { dst := some 179, op := Op.move (Operand.tmp 26), type := 4, pos := "outright.go:98", after := #[], guard := none }) (v := .bool bb) rfl (by kernel_rfl) (by kernel_rfl) (by kernel_rfl) (fun _ _ _ h => h) (Or.inl ⟨by rfl, fun w0 hSw => ?_⟩) hH0 ?_
  · (clear hSw; go_simp)
  simp only [Act.put, List.setIfInBounds_toArray, List.set_cons_zero, List.set_cons_succ]
  refine wpAnyH_ready (rs := [2]) (by kernel_rfl) (by simp) ?_
  refine AllReadyH.cons (o := { dst := some 178, op := Op.call { callee := Callee.value (Operand.func 7), args := #[Operand.tmp 176, Operand.tmp 177], argTypes := #[27, 27] }, type := 4, pos := "outright.go:98", after := #[{ on := 0, ground := Ground.data }, { on := 1, ground := Ground.data }], guard := none }) rfl (fun K hK => ?_) AllReadyH.nil
  have HH := hidden hH0
  clear hH0
  go_simp
  refine (C2.out _ HH.out).mono ?_
  rintro e wn1 ⟨rfl, hb⟩
  have SN := hidden (bl_trans HH.out hb)
  clear HH C2 hb
  go_wp2_with fail
  refine hK.out _ _ SN.out (fun hH1 => ?_)
  clear hK K SN
  refine wpAnyH_take (i := 4) (oi := { dst := some 180, op := Op.binOp BinOp.eql 4 (Operand.tmp 178) (Operand.tmp 179) 4, type := 4, pos := "outright.go:98", after := #[{ on := 2, ground := Ground.data }, { on := 3, ground := Ground.data }], guard := none }) (v := .bool true) rfl (by kernel_rfl) (by kernel_rfl) (by kernel_rfl) (fun _ _ _ h => h) (Or.inl ⟨by rfl, fun w0 hSw => ?_⟩) hH1 ?_
  · (clear hSw; cases bb <;> go_simp)
  simp only [Act.put, List.setIfInBounds_toArray, List.set_cons_zero, List.set_cons_succ]
  refine wpAnyH_take (i := 5) (oi := { dst := some 181, op := Op.move (Operand.tmp 180), type := 4, pos := "outright.go:98", after := #[{ on := 4, ground := Ground.data }, { on := 2, ground := Ground.chain }], guard := none }) (v := .bool true) rfl (by kernel_rfl) (by kernel_rfl) (by kernel_rfl) (fun _ _ _ h => h) (Or.inl ⟨by rfl, fun w0 hSw => ?_⟩) hH1 ?_
  · (clear hSw; go_simp)
  simp only [Act.put, List.setIfInBounds_toArray, List.set_cons_zero, List.set_cons_succ]
  refine wpAnyH_take (i := 6) (oi := { dst := some 182, op := Op.fieldAddr 27 (Operand.tmp 22) 0, type := 0, pos := "outright.go:98", after := #[{ on := 5, ground := Ground.guard }], guard := some (5, true) }) (v := .pointer (some ⟨T22, 0, none⟩)) rfl (by kernel_rfl) (by kernel_rfl) (by kernel_rfl) (fun _ _ _ h => h) (Or.inl ⟨by rfl, fun w0 hSw => ?_⟩) hH1 ?_
  · (clear hSw; go_simp)
  simp only [Act.put, List.setIfInBounds_toArray, List.set_cons_zero, List.set_cons_succ]
  refine wpAnyH_take (i := 9) (oi := { dst := some 185, op := Op.load 24 (Operand.tmp 12), type := 24, pos := "outright.go:98", after := #[{ on := 5, ground := Ground.guard }], guard := some (5, true) }) (v := .agg #[.int .u64 f.x0, .int .u64 f.x1, .int .u64 f.x2, .int .u64 f.x3]) rfl (by kernel_rfl) (by kernel_rfl) (by kernel_rfl) (fun _ _ _ h => h) (Or.inl ⟨by rfl, fun w0 hSw => ?_⟩) hH1 ?_
  · (have hS : Below W.heap.size W w0 := hSw; have a0 := cell_keep cf0 hS; have a1 := cell_keep cf1 hS; have a2 := cell_keep cf2 hS; have a3 := cell_keep cf3 hS; clear hS hSw; go_simp)
  simp only [Act.put, List.setIfInBounds_toArray, List.set_cons_zero, List.set_cons_succ]
  refine wpAnyH_take (i := 7) (oi := { dst := some 183, op := Op.load 25 (Operand.tmp 182), type := 25, pos := "outright.go:98", after := #[{ on := 6, ground := Ground.data }, { on := 5, ground := Ground.guard }], guard := some (5, true) }) (v := .slice (some ⟨A, 0, none⟩) m k) rfl (by kernel_rfl) (by kernel_rfl) (by kernel_rfl) (fun _ _ _ h => h) (Or.inl ⟨by rfl, fun w0 hSw => ?_⟩) hH1 ?_
  · (have hS : Below W.heap.size W w0 := hSw; have a0 := cell_keep cX0 hS; clear hS hSw; go_simp)
  simp only [Act.put, List.setIfInBounds_toArray, List.set_cons_zero, List.set_cons_succ]
  refine wpAnyH_ready (rs := [8]) (by kernel_rfl) (by simp) ?_
  refine AllReadyH.cons (o := { dst := some 184, op := Op.call { callee := Callee.value (Operand.func 10), args := #[Operand.tmp 183, Operand.const (Value.int IntKind.i64 1)], argTypes := #[25, 3] }, type := 24, pos := "outright.go:98", after := #[{ on := 7, ground := Ground.data }, { on := 5, ground := Ground.chain }, { on := 5, ground := Ground.guard }], guard := some (5, true) }) rfl (fun K hK => ?_) AllReadyH.nil
  have HH := hidden hH1
  clear hH1
  go_simp
  refine (C8.out _ HH.out).mono ?_
  rintro e wn2 ⟨rfl, hb⟩
  have SN := hidden (bl_trans HH.out hb)
  clear HH C8 hb
  go_wp2_with fail
  refine hK.out _ _ SN.out (fun hH2 => ?_)
  clear hK K SN
  refine wpAnyH_ready (rs := [10]) (by kernel_rfl) (by simp) ?_
  refine AllReadyH.cons (o := { dst := some 186, op := Op.call { callee := Callee.value (Operand.func 11), args := #[Operand.tmp 185], argTypes := #[24] }, type := 24, pos := "outright.go:98", after := #[{ on := 9, ground := Ground.data }, { on := 8, ground := Ground.chain }, { on := 5, ground := Ground.guard }], guard := some (5, true) }) rfl (fun K hK => ?_) AllReadyH.nil
  have HH := hidden hH2
  clear hH2
  go_simp
  refine (C10.out _ HH.out).mono ?_
  rintro e wn3 ⟨rfl, hb⟩
  have SN := hidden (bl_trans HH.out hb)
  clear HH C10 hb
  go_wp2_with fail
  refine hK.out _ _ SN.out (fun hH3 => ?_)
  clear hK K SN
  refine wpAnyH_take (i := 11) (oi := { dst := some 187, op := Op.binOp BinOp.eql 24 (Operand.tmp 184) (Operand.tmp 186) 24, type := 4, pos := "outright.go:98", after := #[{ on := 8, ground := Ground.data }, { on := 10, ground := Ground.data }, { on := 5, ground := Ground.guard }], guard := some (5, true) }) (v := .bool true) rfl (by kernel_rfl) (by kernel_rfl) (by kernel_rfl) (fun _ _ _ h => h) (Or.inl ⟨by rfl, fun w0 hSw => ?_⟩) hH3 ?_
  · (clear hSw; go_simp)
  simp only [Act.put, List.setIfInBounds_toArray, List.set_cons_zero, List.set_cons_succ]
  refine wpAnyH_take (i := 12) (oi := { dst := some 188, op := Op.pick (Operand.tmp 181) (Operand.tmp 187) (Operand.const (Value.bool false)), type := 4, pos := "outright.go:98", after := #[{ on := 5, ground := Ground.data }, { on := 11, ground := Ground.data }], guard := none }) (v := .bool true) rfl (by kernel_rfl) (by kernel_rfl) (by kernel_rfl) (fun _ _ _ h => h) (Or.inl ⟨by rfl, fun w0 hSw => ?_⟩) hH3 ?_
  · (clear hSw; go_simp)
  simp only [Act.put, List.setIfInBounds_toArray, List.set_cons_zero, List.set_cons_succ]
  refine wpAnyH_take (i := 13) (oi := { dst := some 18, op := Op.assign (Operand.tmp 188), type := 4, pos := "outright.go:98", after := #[{ on := 12, ground := Ground.data }, { on := 10, ground := Ground.chain }, { on := 0, ground := Ground.phase }, { on := 1, ground := Ground.phase }, { on := 2, ground := Ground.phase }, { on := 3, ground := Ground.phase }, { on := 4, ground := Ground.phase }, { on := 5, ground := Ground.phase }, { on := 6, ground := Ground.phase }, { on := 7, ground := Ground.phase }, { on := 8, ground := Ground.phase }, { on := 9, ground := Ground.phase }, { on := 10, ground := Ground.phase }, { on := 11, ground := Ground.phase }, { on := 12, ground := Ground.phase }], guard := none }) (v := .bool true) rfl (by kernel_rfl) (by kernel_rfl) (by kernel_rfl) (fun _ _ _ h => h) (Or.inl ⟨by rfl, fun w0 hSw => ?_⟩) hH3 ?_
  · (clear hSw; go_simp)
  simp only [Act.put, List.setIfInBounds_toArray, List.set_cons_zero, List.set_cons_succ]
  have HH := hidden hH3
  have FQ := hidden (HQ.out _ HH.out)
  refine wpAnyH_done (by kernel_rfl) ?_ _
  refine NoPanic.normal ?_
  exact FQ.out
end Go.Proofs.YthlohkbicnicjaaGreatDoor
namespace Go.Proofs.YthlohkbicnicjaaGreatDoor
open Go.RowKit
set_option linter.unusedVariables false
/-- what the basis holds -/
structure Ba7 (w : World) (b0 b1 g1 g2 n : Nat) (PG PH : Nat → Option Addr) (nG cG nH cH : Nat → Nat) : Prop where
  u0 : Fr w (.agg #[.slice (some ⟨b0, 0, none⟩) 1 1]) (un 0)
  u1 : Fr w (.agg #[.slice (some ⟨b1, 0, none⟩) 2 2]) (un 1)
  g : ∀ k, k < n → w.cell? ⟨g1, k, none⟩ = some (.slice (PG k) (nG k) (cG k)) ∧ Fr w (.agg #[.slice (PG k) (nG k) (cG k)]) (un (3 + k))
  h : ∀ k, k < n → w.cell? ⟨g2, k, none⟩ = some (.slice (PH k) (nH k) (cH k)) ∧ Fr w (.agg #[.slice (PH k) (nH k) (cH k)]) (un (3 + n + k))
theorem Ba7.keep {w w' : World} {b0 b1 g1 g2 n : Nat} {PG PH : Nat → Option Addr} {nG cG nH cH : Nat → Nat} (h : Ba7 w b0 b1 g1 g2 n PG PH nG cG nH cH) (hb : Below w.heap.size w w') : Ba7 w' b0 b1 g1 g2 n PG PH nG cG nH cH :=
  ⟨h.u0.keep hb, h.u1.keep hb, fun k hk => ⟨cell_keep (h.g k hk).1 hb, (h.g k hk).2.keep hb⟩, fun k hk => ⟨cell_keep (h.h k hk).1 hb, (h.h k hk).2.keep hb⟩⟩
theorem Sg.basis {B : Nat} {w : World} {b0 b1 b2 g1 g2 s n : Nat} (h : Sg B w b0 b1 b2 g1 g2 s n n) (hn : n ≤ 7) : ∃ (PG PH : Nat → Option Addr) (nG cG nH cH : Nat → Nat), Ba7 w b0 b1 g1 g2 n PG PH nG cG nH cH := by
  obtain ⟨f1, f2, h1, h2, h3, h4⟩ := h.f
  have c1 : ∀ k, ∃ p : Option Addr × Nat × Nat, k < n → w.cell? ⟨g1, k, none⟩ = some (.slice p.1 p.2.1 p.2.2) ∧ Fr w (.agg #[.slice p.1 p.2.1 p.2.2]) (un (3 + k)) := fun k => by
    by_cases hk : k < n
    · obtain ⟨P, l, c, e⟩ := (h3 k hk).1
      refine ⟨(P, l, c), fun _ => ⟨(h1.c k hk).trans (congrArg some e), ?_⟩⟩
      have := (h4 k hk).1.fr (by omega)
      rwa [e] at this
    · exact ⟨(none, 0, 0), fun h => absurd h hk⟩
  have c2 : ∀ k, ∃ p : Option Addr × Nat × Nat, k < n → w.cell? ⟨g2, k, none⟩ = some (.slice p.1 p.2.1 p.2.2) ∧ Fr w (.agg #[.slice p.1 p.2.1 p.2.2]) (un (3 + n + k)) := fun k => by
    by_cases hk : k < n
    · obtain ⟨P, l, c, e⟩ := (h3 k hk).2
      refine ⟨(P, l, c), fun _ => ⟨(h2.c k hk).trans (congrArg some e), ?_⟩⟩
      have := (h4 k hk).2.fr (by omega)
      rwa [e] at this
    · exact ⟨(none, 0, 0), fun h => absurd h hk⟩
  obtain ⟨q1, hq1⟩ := Classical.axiomOfChoice c1
  obtain ⟨q2, hq2⟩ := Classical.axiomOfChoice c2
  exact ⟨fun k => (q1 k).1, fun k => (q2 k).1, fun k => (q1 k).2.1, fun k => (q1 k).2.2, fun k => (q2 k).2.1, fun k => (q2 k).2.2, h.r0.fr (by omega), h.r1.fr (by omega), hq1, hq2⟩
/-- CommitVectors, whatever it is asked -/
theorem vectors_all (b0 b1 b2 g1 g2 n La Lb ca cb : Nat) (Pa Pb : Option Addr) (ka kb : Nat → E4) (f : E4) (PG PH : Nat → Option Addr) (nG cG nH cH : Nat → Nat) (w : World) (hn : n ≤ 7) (hT : Tb w) (hB : Ba7 w b0 b1 g1 g2 n PG PH nG cG nH cH) (hka : Lm w Pa La ka) (hkb : Lm w Pb Lb kb) (oka : ∀ i, i < La → (ka i).ok) (okb : ∀ i, i < Lb → (kb i).ok) (hf : f.ok) :
    Calls Tryz.prog 9 #[.agg #[.slice (some ⟨b0, 0, none⟩) 1 1, .slice (some ⟨b1, 0, none⟩) 2 2, .slice (some ⟨b2, 0, none⟩) 3 3, .slice (some ⟨g1, 0, none⟩) n n, .slice (some ⟨g2, 0, none⟩) n n], .slice Pa La ca, .slice Pb Lb cb, f.v] w fun e w' => ∃ (P : Option Addr) (m c : Nat) (er : Int), e = .returned (.tuple #[.agg #[.slice P m c], .int .i64 er]) ∧ Below w.heap.size w w' ∧ (((n < La ∨ n < Lb) ∧ er = 2) ∨ (La ≤ n ∧ Lb ≤ n ∧ er = 0 ∧ Fl w' (.agg #[.slice P m c]) (cvx n La Lb ka kb f) ∧ ∃ A, P = some ⟨A, 0, none⟩)) := by
  by_cases h : n < La ∨ n < Lb
  · refine (vectors_no b0 b1 b2 g1 g2 n La Lb ca cb Pa Pb f w h).mono ?_
    rintro e w' ⟨rfl, hb⟩
    exact ⟨none, 0, 0, 2, rfl, hb, .inl ⟨h, rfl⟩⟩
  · refine (vectors_any b0 b1 b2 g1 g2 n La Lb ca cb Pa Pb ka kb f (fun k => un (3 + k)) (fun k => un (3 + n + k)) (un 1) PG PH nG cG nH cH w (by omega) (by omega) (by omega) hT hka hkb oka okb hf hB.g hB.h hB.u1).mono ?_
    rintro e w' ⟨A, m, c, rfl, hA, hF, hb⟩
    exact ⟨_, m, c, 0, rfl, hb, .inr ⟨by omega, by omega, rfl, hF, A, rfl⟩⟩
set_option maxRecDepth 100000 in
set_option maxHeartbeats 4000000 in
theorem gb5 (Q : Exit → Act → World → Prop) (T10 T11 T12 T13 T20 b0 b1 b2 g1 g2 n : Nat) (v x f g : E4) (PG PH : Nat → Option Addr) (nG cG nH cH : Nat → Nat) (u0 u1 u2 u3 u4 u5 u6 u7 u8 u9 u14 u15 u16 u17 u18 u19 u21 u22 u23 u24 u25 u26 u27 u28 u29 u30 u31 u32 u33 u34 u35 u36 u37 u38 u39 u40 u41 u42 u43 u44 u45 u46 u47 u48 u49 u50 u51 u52 u53 u54 u55 u56 u57 u58 u59 u60 u61 u62 u63 u64 u65 u66 u67 u68 u69 u70 u71 u72 u73 u74 u75 u76 u77 u78 u79 u80 u81 u82 u83 u84 u85 u86 u87 u88 u89 u90 u91 u92 u93 u94 u95 u96 u97 u98 u99 u100 u101 u102 u103 u104 u105 u106 u107 u108 u109 u110 u111 u112 u113 u114 u115 u116 u117 u118 u119 u120 u121 u122 u123 u124 u125 u126 u127 u128 u129 u130 u131 u132 u133 u134 u135 u136 u137 u138 u139 u140 u141 u142 u143 u144 u145 u146 u147 u148 u149 u150 u151 u152 u153 u154 u155 u156 u157 u158 u159 u160 u161 u162 u163 u164 u165 u166 u167 u168 u169 u170 u171 u172 u173 u174 u175 u176 u177 u178 u179 u180 u181 u182 u183 u184 u185 u186 u187 u188 : Value) (W : World) (hT : Tb W) (hB : Ba7 W b0 b1 g1 g2 n PG PH nG cG nH cH) (hv : v.ok) (hx : x.ok) (hf : f.ok) (hg : g.ok)
    (cs0 : W.cell? ⟨T20, 0, none⟩ = some (.slice (some ⟨b0, 0, none⟩) 1 1)) (cs1 : W.cell? ⟨T20, 1, none⟩ = some (.slice (some ⟨b1, 0, none⟩) 2 2)) (cs2 : W.cell? ⟨T20, 2, none⟩ = some (.slice (some ⟨b2, 0, none⟩) 3 3)) (cs3 : W.cell? ⟨T20, 3, none⟩ = some (.slice (some ⟨g1, 0, none⟩) n n)) (cs4 : W.cell? ⟨T20, 4, none⟩ = some (.slice (some ⟨g2, 0, none⟩) n n)) (cv0 : W.cell? ⟨T10, 0, none⟩ = some (.int .u64 v.x0)) (cv1 : W.cell? ⟨T10, 1, none⟩ = some (.int .u64 v.x1)) (cv2 : W.cell? ⟨T10, 2, none⟩ = some (.int .u64 v.x2)) (cv3 : W.cell? ⟨T10, 3, none⟩ = some (.int .u64 v.x3)) (cx0 : W.cell? ⟨T11, 0, none⟩ = some (.int .u64 x.x0)) (cx1 : W.cell? ⟨T11, 1, none⟩ = some (.int .u64 x.x1)) (cx2 : W.cell? ⟨T11, 2, none⟩ = some (.int .u64 x.x2)) (cx3 : W.cell? ⟨T11, 3, none⟩ = some (.int .u64 x.x3)) (cf0 : W.cell? ⟨T12, 0, none⟩ = some (.int .u64 f.x0)) (cf1 : W.cell? ⟨T12, 1, none⟩ = some (.int .u64 f.x1)) (cf2 : W.cell? ⟨T12, 2, none⟩ = some (.int .u64 f.x2)) (cf3 : W.cell? ⟨T12, 3, none⟩ = some (.int .u64 f.x3)) (cg0 : W.cell? ⟨T13, 0, none⟩ = some (.int .u64 g.x0)) (cg1 : W.cell? ⟨T13, 1, none⟩ = some (.int .u64 g.x1)) (cg2 : W.cell? ⟨T13, 2, none⟩ = some (.int .u64 g.x2)) (cg3 : W.cell? ⟨T13, 3, none⟩ = some (.int .u64 g.x3))
    (HQ : Hid (∀ (z55 z56 z57 z58 z59 z60 z61 z62 z63 z64 z65 z66 z67 z68 z69 z70 z71 : Value) (wz : World), Below W.heap.size W wz → Q .normal ⟨#[u0, u1, u2, u3, u4, u5, u6, u7, u8, u9, .pointer (some ⟨T10, 0, none⟩), .pointer (some ⟨T11, 0, none⟩), .pointer (some ⟨T12, 0, none⟩), .pointer (some ⟨T13, 0, none⟩), u14, u15, u16, u17, u18, u19, .pointer (some ⟨T20, 0, none⟩), u21, u22, u23, u24, u25, u26, u27, u28, u29, u30, u31, u32, u33, u34, u35, u36, u37, u38, u39, u40, u41, u42, u43, u44, u45, u46, u47, u48, u49, u50, u51, u52, u53, u54, z55, z56, z57, z58, z59, z60, z61, z62, z63, z64, z65, z66, z67, z68, z69, z70, z71, .bool false, u73, u74, u75, u76, u77, u78, u79, u80, u81, u82, u83, u84, u85, u86, u87, u88, u89, u90, u91, u92, u93, u94, u95, u96, u97, u98, u99, u100, u101, u102, u103, u104, u105, u106, u107, u108, u109, u110, u111, u112, u113, u114, u115, u116, u117, u118, u119, u120, u121, u122, u123, u124, u125, u126, u127, u128, u129, u130, u131, u132, u133, u134, u135, u136, u137, u138, u139, u140, u141, u142, u143, u144, u145, u146, u147, u148, u149, u150, u151, u152, u153, u154, u155, u156, u157, u158, u159, u160, u161, u162, u163, u164, u165, u166, u167, u168, u169, u170, u171, u172, u173, u174, u175, u176, u177, u178, u179, u180, u181, u182, u183, u184, u185, u186, u187, u188], []⟩ wz)) : (Code.region 5 gb5to true).wp Tryz.prog Q ⟨#[u0, u1, u2, u3, u4, u5, u6, u7, u8, u9, .pointer (some ⟨T10, 0, none⟩), .pointer (some ⟨T11, 0, none⟩), .pointer (some ⟨T12, 0, none⟩), .pointer (some ⟨T13, 0, none⟩), u14, u15, u16, u17, u18, u19, .pointer (some ⟨T20, 0, none⟩), u21, u22, u23, u24, u25, u26, u27, u28, u29, u30, u31, u32, u33, u34, u35, u36, u37, u38, u39, u40, u41, u42, u43, u44, u45, u46, u47, u48, u49, u50, u51, u52, u53, u54, u55, u56, u57, u58, u59, u60, u61, u62, u63, u64, u65, u66, u67, u68, u69, u70, u71, u72, u73, u74, u75, u76, u77, u78, u79, u80, u81, u82, u83, u84, u85, u86, u87, u88, u89, u90, u91, u92, u93, u94, u95, u96, u97, u98, u99, u100, u101, u102, u103, u104, u105, u106, u107, u108, u109, u110, u111, u112, u113, u114, u115, u116, u117, u118, u119, u120, u121, u122, u123, u124, u125, u126, u127, u128, u129, u130, u131, u132, u133, u134, u135, u136, u137, u138, u139, u140, u141, u142, u143, u144, u145, u146, u147, u148, u149, u150, u151, u152, u153, u154, u155, u156, u157, u158, u159, u160, u161, u162, u163, u164, u165, u166, u167, u168, u169, u170, u171, u172, u173, u174, u175, u176, u177, u178, u179, u180, u181, u182, u183, u184, u185, u186, u187, u188], []⟩ W := by
  have C3 := hidden (fun (y : World) (hy : Below W.heap.size W y) => commit_any b0 b1 b2 g1 g2 n v f (un 0) (un 1) y (hT.keep hy) (hB.u0.keep hy) (hB.u1.keep hy) hv hf)
  have C7 := hidden (fun (y : World) (hy : Below W.heap.size W y) => commit_any b0 b1 b2 g1 g2 n x g (un 0) (un 1) y (hT.keep hy) (hB.u0.keep hy) (hB.u1.keep hy) hx hg)
  have cm := cm_same v x f g
  by_cases h1 : lst v.n = lst x.n
  · have C8 : Hid (∀ (y : World) (A m k A2 m2 k2 : Nat), Below W.heap.size W y → Fr y (.agg #[.slice (some ⟨A, 0, none⟩) m k]) (fun i => un 0 i * v.n + un 1 i * f.n) → Fr y (.agg #[.slice (some ⟨A2, 0, none⟩) m2 k2]) (fun i => un 0 i * x.n + un 1 i * g.n) → Calls Tryz.prog 7 #[.agg #[.slice (some ⟨A, 0, none⟩) m k], .agg #[.slice (some ⟨A2, 0, none⟩) m2 k2]] y fun e w' => e = .returned (.bool ((lst f.n).same (lst g.n))) ∧ Below y.heap.size y w') := hidden (fun y A m k A2 m2 k2 hy ha hb => (frSame _ _ _ _ y (hT.keep hy) ha hb).mono (fun e w' h => by
      obtain ⟨b, rfl, hb, hw⟩ := h
      refine ⟨?_, hw⟩
      have e : b = (lst f.n).same (lst g.n) := by
        rw [Bool.eq_iff_iff, hb, cm, E4.same_iff]
        exact ⟨fun q => q.2, fun q => ⟨h1, q⟩⟩
      rw [e]))
    have C11 : Hid (∀ y, Below W.heap.size W y → Calls Tryz.prog 8 #[.agg #[.int .u64 v.x0, .int .u64 v.x1, .int .u64 v.x2, .int .u64 v.x3], .agg #[.int .u64 x.x0, .int .u64 x.x1, .int .u64 x.x2, .int .u64 x.x3]] y fun e w' => e = .returned (.bool true) ∧ Below y.heap.size y w') := hidden (fun y hy => (Same_any v x y (hT.keep hy) hv hx).mono (fun e w' h => ⟨by rw [h.1, h1, E4.same_self], h.2⟩))
    have C15 := hidden (fun (y : World) (hy : Below W.heap.size W y) => Same_any f g y (hT.keep hy) hf hg)
    exact gb5t Q T10 T11 T12 T13 T20 b0 b1 b2 g1 g2 n v x f g _ _ ((lst f.n).same (lst g.n)) _ _ _ _ _ _ _ _ _ _ _ _ _ _ _ _ _ _ _ _ _ _ _ _ _ _ _ _ _ _ _ _ _ _ _ _ _ _ _ _ _ _ _ _ _ _ _ _ _ _ _ _ _ _ _ _ _ _ _ _ _ _ _ _ _ _ _ _ _ _ _ _ _ _ _ _ _ _ _ _ _ _ _ _ _ _ _ _ _ _ _ _ _ _ _ _ _ _ _ _ _ _ _ _ _ _ _ _ _ _ _ _ _ _ _ _ _ _ _ _ _ _ _ _ _ _ _ _ _ _ _ _ _ _ _ _ _ _ _ _ _ _ _ _ _ _ _ _ _ _ _ _ _ _ _ _ _ _ _ _ _ _ _ _ _ _ _ _ _ _ _ _ _ _ _ _ _ _ _ _ _ _ _ _ W cs0 cs1 cs2 cs3 cs4 cv0 cv1 cv2 cv3 cx0 cx1 cx2 cx3 cf0 cf1 cf2 cf3 cg0 cg1 cg2 cg3 C3 C7 C8 C11 C15 (hidden (fun A m k A2 m2 k2 wz hz => HQ.out _ _ _ _ _ _ _ _ _ _ _ _ _ _ _ _ _ wz hz))
  · have C8 : Hid (∀ (y : World) (A m k A2 m2 k2 : Nat), Below W.heap.size W y → Fr y (.agg #[.slice (some ⟨A, 0, none⟩) m k]) (fun i => un 0 i * v.n + un 1 i * f.n) → Fr y (.agg #[.slice (some ⟨A2, 0, none⟩) m2 k2]) (fun i => un 0 i * x.n + un 1 i * g.n) → Calls Tryz.prog 7 #[.agg #[.slice (some ⟨A, 0, none⟩) m k], .agg #[.slice (some ⟨A2, 0, none⟩) m2 k2]] y fun e w' => e = .returned (.bool false) ∧ Below y.heap.size y w') := hidden (fun y A m k A2 m2 k2 hy ha hb => (frSame _ _ _ _ y (hT.keep hy) ha hb).mono (fun e w' h => by
      obtain ⟨b, rfl, hb, hw⟩ := h
      refine ⟨?_, hw⟩
      have e : b = false := by
        rw [Bool.eq_false_iff]
        intro q
        exact h1 ((cm.1 (hb.1 q)).1)
      rw [e]))
    have C11 : Hid (∀ y, Below W.heap.size W y → Calls Tryz.prog 8 #[.agg #[.int .u64 v.x0, .int .u64 v.x1, .int .u64 v.x2, .int .u64 v.x3], .agg #[.int .u64 x.x0, .int .u64 x.x1, .int .u64 x.x2, .int .u64 x.x3]] y fun e w' => e = .returned (.bool false) ∧ Below y.heap.size y w') := hidden (fun y hy => (Same_any v x y (hT.keep hy) hv hx).mono (fun e w' h => ⟨by
      rw [h.1]
      have : (lst v.n).same (lst x.n) = false := by rw [Bool.eq_false_iff]; exact fun q => h1 ((E4.same_iff _ _).1 q)
      rw [this], h.2⟩))
    exact gb5f Q T10 T11 T12 T13 T20 b0 b1 b2 g1 g2 n v x f g _ _ _ _ _ _ _ _ _ _ _ _ _ _ _ _ _ _ _ _ _ _ _ _ _ _ _ _ _ _ _ _ _ _ _ _ _ _ _ _ _ _ _ _ _ _ _ _ _ _ _ _ _ _ _ _ _ _ _ _ _ _ _ _ _ _ _ _ _ _ _ _ _ _ _ _ _ _ _ _ _ _ _ _ _ _ _ _ _ _ _ _ _ _ _ _ _ _ _ _ _ _ _ _ _ _ _ _ _ _ _ _ _ _ _ _ _ _ _ _ _ _ _ _ _ _ _ _ _ _ _ _ _ _ _ _ _ _ _ _ _ _ _ _ _ _ _ _ _ _ _ _ _ _ _ _ _ _ _ _ _ _ _ _ _ _ _ _ _ _ _ _ _ _ _ _ _ _ _ _ _ _ _ _ _ _ W cs0 cs1 cs2 cs3 cs4 cv0 cv1 cv2 cv3 cx0 cx1 cx2 cx3 cf0 cf1 cf2 cf3 cg0 cg1 cg2 cg3 C3 C7 C8 C11 (hidden (fun A m k A2 m2 k2 wz hz => HQ.out _ _ _ _ _ _ _ _ _ _ _ _ _ _ _ _ _ wz hz))
end Go.Proofs.YthlohkbicnicjaaGreatDoor
namespace Go.Proofs.YthlohkbicnicjaaGreatDoor
open Go.RowKit
set_option linter.unusedVariables false
set_option maxRecDepth 100000 in
set_option maxHeartbeats 16000000 in
theorem binds_any (size : Int) (v x f g : E4) (Pa Pb Pc Pd : Option Addr) (La ca Lb cb Lc cc Ld cd : Nat) (ka kb kc kd : Nat → E4) (w : World) (hT : Tb w) (hv : v.ok) (hx : x.ok) (hf : f.ok) (hg : g.ok) (hka : Lm w Pa La ka) (hkb : Lm w Pb Lb kb) (hkc : Lm w Pc Lc kc) (hkd : Lm w Pd Ld kd) (oka : ∀ i, i < La → (ka i).ok) (okb : ∀ i, i < Lb → (kb i).ok) (okc : ∀ i, i < Lc → (kc i).ok) (okd : ∀ i, i < Ld → (kd i).ok) :
    Calls Tryz.prog 3 #[.int .i64 size, v.v, x.v, f.v, g.v, .slice Pa La ca, .slice Pb Lb cb, .slice Pc Lc cc, .slice Pd Ld cd] w fun e w' => e = .returned (.bool true) ∧ Below w.heap.size w w' := by
  obtain ⟨n, hn, hn7⟩ : ∃ n : Nat, bits .and .i64 size 7 = (n : Int) ∧ n ≤ 7 := ⟨(size % 8).toNat, by rw [i64_and7]; omega, by omega⟩
  have BB : Below w.heap.size w ((((w.alloc (.cells #[.int .u64 v.x0, .int .u64 v.x1, .int .u64 v.x2, .int .u64 v.x3] 24)).alloc (.cells #[.int .u64 x.x0, .int .u64 x.x1, .int .u64 x.x2, .int .u64 x.x3] 24)).alloc (.cells #[.int .u64 f.x0, .int .u64 f.x1, .int .u64 f.x2, .int .u64 f.x3] 24)).alloc (.cells #[.int .u64 g.x0, .int .u64 g.x1, .int .u64 g.x2, .int .u64 g.x3] 24)) := bl_trans (bl_trans (bl_trans (bl_alloc w _) (bl_alloc _ _)) (bl_alloc _ _)) (bl_alloc _ _)
  have cv0 : ((((w.alloc (.cells #[.int .u64 v.x0, .int .u64 v.x1, .int .u64 v.x2, .int .u64 v.x3] 24)).alloc (.cells #[.int .u64 x.x0, .int .u64 x.x1, .int .u64 x.x2, .int .u64 x.x3] 24)).alloc (.cells #[.int .u64 f.x0, .int .u64 f.x1, .int .u64 f.x2, .int .u64 f.x3] 24)).alloc (.cells #[.int .u64 g.x0, .int .u64 g.x1, .int .u64 g.x2, .int .u64 g.x3] 24)).cell? ⟨w.heap.size, 0, none⟩ = some (.int .u64 v.x0) := by go_simp
  have cv1 : ((((w.alloc (.cells #[.int .u64 v.x0, .int .u64 v.x1, .int .u64 v.x2, .int .u64 v.x3] 24)).alloc (.cells #[.int .u64 x.x0, .int .u64 x.x1, .int .u64 x.x2, .int .u64 x.x3] 24)).alloc (.cells #[.int .u64 f.x0, .int .u64 f.x1, .int .u64 f.x2, .int .u64 f.x3] 24)).alloc (.cells #[.int .u64 g.x0, .int .u64 g.x1, .int .u64 g.x2, .int .u64 g.x3] 24)).cell? ⟨w.heap.size, 1, none⟩ = some (.int .u64 v.x1) := by go_simp
  have cv2 : ((((w.alloc (.cells #[.int .u64 v.x0, .int .u64 v.x1, .int .u64 v.x2, .int .u64 v.x3] 24)).alloc (.cells #[.int .u64 x.x0, .int .u64 x.x1, .int .u64 x.x2, .int .u64 x.x3] 24)).alloc (.cells #[.int .u64 f.x0, .int .u64 f.x1, .int .u64 f.x2, .int .u64 f.x3] 24)).alloc (.cells #[.int .u64 g.x0, .int .u64 g.x1, .int .u64 g.x2, .int .u64 g.x3] 24)).cell? ⟨w.heap.size, 2, none⟩ = some (.int .u64 v.x2) := by go_simp
  have cv3 : ((((w.alloc (.cells #[.int .u64 v.x0, .int .u64 v.x1, .int .u64 v.x2, .int .u64 v.x3] 24)).alloc (.cells #[.int .u64 x.x0, .int .u64 x.x1, .int .u64 x.x2, .int .u64 x.x3] 24)).alloc (.cells #[.int .u64 f.x0, .int .u64 f.x1, .int .u64 f.x2, .int .u64 f.x3] 24)).alloc (.cells #[.int .u64 g.x0, .int .u64 g.x1, .int .u64 g.x2, .int .u64 g.x3] 24)).cell? ⟨w.heap.size, 3, none⟩ = some (.int .u64 v.x3) := by go_simp
  have cx0 : ((((w.alloc (.cells #[.int .u64 v.x0, .int .u64 v.x1, .int .u64 v.x2, .int .u64 v.x3] 24)).alloc (.cells #[.int .u64 x.x0, .int .u64 x.x1, .int .u64 x.x2, .int .u64 x.x3] 24)).alloc (.cells #[.int .u64 f.x0, .int .u64 f.x1, .int .u64 f.x2, .int .u64 f.x3] 24)).alloc (.cells #[.int .u64 g.x0, .int .u64 g.x1, .int .u64 g.x2, .int .u64 g.x3] 24)).cell? ⟨w.heap.size + 1, 0, none⟩ = some (.int .u64 x.x0) := by go_simp
  have cx1 : ((((w.alloc (.cells #[.int .u64 v.x0, .int .u64 v.x1, .int .u64 v.x2, .int .u64 v.x3] 24)).alloc (.cells #[.int .u64 x.x0, .int .u64 x.x1, .int .u64 x.x2, .int .u64 x.x3] 24)).alloc (.cells #[.int .u64 f.x0, .int .u64 f.x1, .int .u64 f.x2, .int .u64 f.x3] 24)).alloc (.cells #[.int .u64 g.x0, .int .u64 g.x1, .int .u64 g.x2, .int .u64 g.x3] 24)).cell? ⟨w.heap.size + 1, 1, none⟩ = some (.int .u64 x.x1) := by go_simp
  have cx2 : ((((w.alloc (.cells #[.int .u64 v.x0, .int .u64 v.x1, .int .u64 v.x2, .int .u64 v.x3] 24)).alloc (.cells #[.int .u64 x.x0, .int .u64 x.x1, .int .u64 x.x2, .int .u64 x.x3] 24)).alloc (.cells #[.int .u64 f.x0, .int .u64 f.x1, .int .u64 f.x2, .int .u64 f.x3] 24)).alloc (.cells #[.int .u64 g.x0, .int .u64 g.x1, .int .u64 g.x2, .int .u64 g.x3] 24)).cell? ⟨w.heap.size + 1, 2, none⟩ = some (.int .u64 x.x2) := by go_simp
  have cx3 : ((((w.alloc (.cells #[.int .u64 v.x0, .int .u64 v.x1, .int .u64 v.x2, .int .u64 v.x3] 24)).alloc (.cells #[.int .u64 x.x0, .int .u64 x.x1, .int .u64 x.x2, .int .u64 x.x3] 24)).alloc (.cells #[.int .u64 f.x0, .int .u64 f.x1, .int .u64 f.x2, .int .u64 f.x3] 24)).alloc (.cells #[.int .u64 g.x0, .int .u64 g.x1, .int .u64 g.x2, .int .u64 g.x3] 24)).cell? ⟨w.heap.size + 1, 3, none⟩ = some (.int .u64 x.x3) := by go_simp
  have cf0 : ((((w.alloc (.cells #[.int .u64 v.x0, .int .u64 v.x1, .int .u64 v.x2, .int .u64 v.x3] 24)).alloc (.cells #[.int .u64 x.x0, .int .u64 x.x1, .int .u64 x.x2, .int .u64 x.x3] 24)).alloc (.cells #[.int .u64 f.x0, .int .u64 f.x1, .int .u64 f.x2, .int .u64 f.x3] 24)).alloc (.cells #[.int .u64 g.x0, .int .u64 g.x1, .int .u64 g.x2, .int .u64 g.x3] 24)).cell? ⟨w.heap.size + 1 + 1, 0, none⟩ = some (.int .u64 f.x0) := by go_simp
  have cf1 : ((((w.alloc (.cells #[.int .u64 v.x0, .int .u64 v.x1, .int .u64 v.x2, .int .u64 v.x3] 24)).alloc (.cells #[.int .u64 x.x0, .int .u64 x.x1, .int .u64 x.x2, .int .u64 x.x3] 24)).alloc (.cells #[.int .u64 f.x0, .int .u64 f.x1, .int .u64 f.x2, .int .u64 f.x3] 24)).alloc (.cells #[.int .u64 g.x0, .int .u64 g.x1, .int .u64 g.x2, .int .u64 g.x3] 24)).cell? ⟨w.heap.size + 1 + 1, 1, none⟩ = some (.int .u64 f.x1) := by go_simp
  have cf2 : ((((w.alloc (.cells #[.int .u64 v.x0, .int .u64 v.x1, .int .u64 v.x2, .int .u64 v.x3] 24)).alloc (.cells #[.int .u64 x.x0, .int .u64 x.x1, .int .u64 x.x2, .int .u64 x.x3] 24)).alloc (.cells #[.int .u64 f.x0, .int .u64 f.x1, .int .u64 f.x2, .int .u64 f.x3] 24)).alloc (.cells #[.int .u64 g.x0, .int .u64 g.x1, .int .u64 g.x2, .int .u64 g.x3] 24)).cell? ⟨w.heap.size + 1 + 1, 2, none⟩ = some (.int .u64 f.x2) := by go_simp
  have cf3 : ((((w.alloc (.cells #[.int .u64 v.x0, .int .u64 v.x1, .int .u64 v.x2, .int .u64 v.x3] 24)).alloc (.cells #[.int .u64 x.x0, .int .u64 x.x1, .int .u64 x.x2, .int .u64 x.x3] 24)).alloc (.cells #[.int .u64 f.x0, .int .u64 f.x1, .int .u64 f.x2, .int .u64 f.x3] 24)).alloc (.cells #[.int .u64 g.x0, .int .u64 g.x1, .int .u64 g.x2, .int .u64 g.x3] 24)).cell? ⟨w.heap.size + 1 + 1, 3, none⟩ = some (.int .u64 f.x3) := by go_simp
  have cg0 : ((((w.alloc (.cells #[.int .u64 v.x0, .int .u64 v.x1, .int .u64 v.x2, .int .u64 v.x3] 24)).alloc (.cells #[.int .u64 x.x0, .int .u64 x.x1, .int .u64 x.x2, .int .u64 x.x3] 24)).alloc (.cells #[.int .u64 f.x0, .int .u64 f.x1, .int .u64 f.x2, .int .u64 f.x3] 24)).alloc (.cells #[.int .u64 g.x0, .int .u64 g.x1, .int .u64 g.x2, .int .u64 g.x3] 24)).cell? ⟨w.heap.size + 1 + 1 + 1, 0, none⟩ = some (.int .u64 g.x0) := by go_simp
  have cg1 : ((((w.alloc (.cells #[.int .u64 v.x0, .int .u64 v.x1, .int .u64 v.x2, .int .u64 v.x3] 24)).alloc (.cells #[.int .u64 x.x0, .int .u64 x.x1, .int .u64 x.x2, .int .u64 x.x3] 24)).alloc (.cells #[.int .u64 f.x0, .int .u64 f.x1, .int .u64 f.x2, .int .u64 f.x3] 24)).alloc (.cells #[.int .u64 g.x0, .int .u64 g.x1, .int .u64 g.x2, .int .u64 g.x3] 24)).cell? ⟨w.heap.size + 1 + 1 + 1, 1, none⟩ = some (.int .u64 g.x1) := by go_simp
  have cg2 : ((((w.alloc (.cells #[.int .u64 v.x0, .int .u64 v.x1, .int .u64 v.x2, .int .u64 v.x3] 24)).alloc (.cells #[.int .u64 x.x0, .int .u64 x.x1, .int .u64 x.x2, .int .u64 x.x3] 24)).alloc (.cells #[.int .u64 f.x0, .int .u64 f.x1, .int .u64 f.x2, .int .u64 f.x3] 24)).alloc (.cells #[.int .u64 g.x0, .int .u64 g.x1, .int .u64 g.x2, .int .u64 g.x3] 24)).cell? ⟨w.heap.size + 1 + 1 + 1, 2, none⟩ = some (.int .u64 g.x2) := by go_simp
  have cg3 : ((((w.alloc (.cells #[.int .u64 v.x0, .int .u64 v.x1, .int .u64 v.x2, .int .u64 v.x3] 24)).alloc (.cells #[.int .u64 x.x0, .int .u64 x.x1, .int .u64 x.x2, .int .u64 x.x3] 24)).alloc (.cells #[.int .u64 f.x0, .int .u64 f.x1, .int .u64 f.x2, .int .u64 f.x3] 24)).alloc (.cells #[.int .u64 g.x0, .int .u64 g.x1, .int .u64 g.x2, .int .u64 g.x3] 24)).cell? ⟨w.heap.size + 1 + 1 + 1, 3, none⟩ = some (.int .u64 g.x3) := by go_simp
  have BX := hidden (And.intro BB (And.intro (And.intro cv0 (And.intro cv1 (And.intro cv2 cv3))) (And.intro (And.intro cx0 (And.intro cx1 (And.intro cx2 cx3))) (And.intro (And.intro cf0 (And.intro cf1 (And.intro cf2 cf3))) (And.intro cg0 (And.intro cg1 (And.intro cg2 cg3)))))))
  clear BB cv0 cv1 cv2 cv3 cx0 cx1 cx2 cx3 cf0 cf1 cf2 cf3 cg0 cg1 cg2 cg3
  have C0 := hidden (fun (y : World) => basis_any n (by omega) y)
  have AV := hidden (fun (y : World) (hy : Tb y) => alive_any y hy)
  have HT := hidden hT
  have HA := hidden (And.intro hka (And.intro hkb (And.intro hkc hkd)))
  have HO := hidden (And.intro oka (And.intro okb (And.intro okc okd)))
  have HV := hidden (And.intro hv (And.intro hx (And.intro hf hg)))
  have H7 := hidden hn7
  clear hT hka hkb hkc hkd oka okb okc okd hv hx hf hg hn7
  unfold E4.v
  go_enter Tryz.func3, Tryz.ntmps3
  go_upto_region 1 with fail
  generalize ((((w.alloc (.cells #[.int .u64 v.x0, .int .u64 v.x1, .int .u64 v.x2, .int .u64 v.x3] 24)).alloc (.cells #[.int .u64 x.x0, .int .u64 x.x1, .int .u64 x.x2, .int .u64 x.x3] 24)).alloc (.cells #[.int .u64 f.x0, .int .u64 f.x1, .int .u64 f.x2, .int .u64 f.x3] 24)).alloc (.cells #[.int .u64 g.x0, .int .u64 g.x1, .int .u64 g.x2, .int .u64 g.x3] 24)) = w4 at *
  go_upto_region 5 with (first
    | (go_at_call 4; refine (C0.out _).mono ?_; rintro e wa ⟨b0, b1, b2, g1, g2, s, rfl, hS, ha⟩; have HS := hidden (And.intro hS ha); clear hS ha C0)
    | (go_at_call 5; have B5 := hidden (bl_trans HS.out.2 (bl_alloc wa (.cells #[.slice (some ⟨b0, 0, none⟩) 1 1, .slice (some ⟨b1, 0, none⟩) 2 2, .slice (some ⟨b2, 0, none⟩) 3 3, .slice (some ⟨g1, 0, none⟩) n n, .slice (some ⟨g2, 0, none⟩) n n] 30))); refine (AV.out _ (HT.out.keep (bl_trans BX.out.1 B5.out))).mono ?_; rintro e wb ⟨rfl, hb⟩; have cs0 := cell_keep (show (wa.alloc (.cells #[.slice (some ⟨b0, 0, none⟩) 1 1, .slice (some ⟨b1, 0, none⟩) 2 2, .slice (some ⟨b2, 0, none⟩) 3 3, .slice (some ⟨g1, 0, none⟩) n n, .slice (some ⟨g2, 0, none⟩) n n] 30)).cell? ⟨wa.heap.size, 0, none⟩ = some (.slice (some ⟨b0, 0, none⟩) 1 1) by go_simp) hb; have cs1 := cell_keep (show (wa.alloc (.cells #[.slice (some ⟨b0, 0, none⟩) 1 1, .slice (some ⟨b1, 0, none⟩) 2 2, .slice (some ⟨b2, 0, none⟩) 3 3, .slice (some ⟨g1, 0, none⟩) n n, .slice (some ⟨g2, 0, none⟩) n n] 30)).cell? ⟨wa.heap.size, 1, none⟩ = some (.slice (some ⟨b1, 0, none⟩) 2 2) by go_simp) hb; have cs2 := cell_keep (show (wa.alloc (.cells #[.slice (some ⟨b0, 0, none⟩) 1 1, .slice (some ⟨b1, 0, none⟩) 2 2, .slice (some ⟨b2, 0, none⟩) 3 3, .slice (some ⟨g1, 0, none⟩) n n, .slice (some ⟨g2, 0, none⟩) n n] 30)).cell? ⟨wa.heap.size, 2, none⟩ = some (.slice (some ⟨b2, 0, none⟩) 3 3) by go_simp) hb; have cs3 := cell_keep (show (wa.alloc (.cells #[.slice (some ⟨b0, 0, none⟩) 1 1, .slice (some ⟨b1, 0, none⟩) 2 2, .slice (some ⟨b2, 0, none⟩) 3 3, .slice (some ⟨g1, 0, none⟩) n n, .slice (some ⟨g2, 0, none⟩) n n] 30)).cell? ⟨wa.heap.size, 3, none⟩ = some (.slice (some ⟨g1, 0, none⟩) n n) by go_simp) hb; have cs4 := cell_keep (show (wa.alloc (.cells #[.slice (some ⟨b0, 0, none⟩) 1 1, .slice (some ⟨b1, 0, none⟩) 2 2, .slice (some ⟨b2, 0, none⟩) 3 3, .slice (some ⟨g1, 0, none⟩) n n, .slice (some ⟨g2, 0, none⟩) n n] 30)).cell? ⟨wa.heap.size, 4, none⟩ = some (.slice (some ⟨g2, 0, none⟩) n n) by go_simp) hb; have BW := hidden (bl_trans B5.out hb); have HG := hidden (HS.out.1.keep (bl_trans (bl_alloc wa (.cells #[.slice (some ⟨b0, 0, none⟩) 1 1, .slice (some ⟨b1, 0, none⟩) 2 2, .slice (some ⟨b2, 0, none⟩) 3 3, .slice (some ⟨g1, 0, none⟩) n n, .slice (some ⟨g2, 0, none⟩) n n] 30)) hb)); clear hb AV B5 HS))
  obtain ⟨PG, PH, nG, cG, nH, cH, hBa⟩ := HG.out.basis H7.out
  clear HG
  obtain ⟨BB, ⟨cv0, cv1, cv2, cv3⟩, ⟨cx0, cx1, cx2, cx3⟩, ⟨cf0, cf1, cf2, cf3⟩, cg0, cg1, cg2, cg3⟩ := BX.out
  clear BX
  obtain ⟨hv, hx, hf, hg⟩ := HV.out

  refine gb5 _ (w.heap.size) (w.heap.size + 1) (w.heap.size + 1 + 1) (w.heap.size + 1 + 1 + 1) wa.heap.size b0 b1 b2 g1 g2 n v x f g PG PH nG cG nH cH _ _ _ _ _ _ _ _ _ _ _ _ _ _ _ _ _ _ _ _ _ _ _ _ _ _ _ _ _ _ _ _ _ _ _ _ _ _ _ _ _ _ _ _ _ _ _ _ _ _ _ _ _ _ _ _ _ _ _ _ _ _ _ _ _ _ _ _ _ _ _ _ _ _ _ _ _ _ _ _ _ _ _ _ _ _ _ _ _ _ _ _ _ _ _ _ _ _ _ _ _ _ _ _ _ _ _ _ _ _ _ _ _ _ _ _ _ _ _ _ _ _ _ _ _ _ _ _ _ _ _ _ _ _ _ _ _ _ _ _ _ _ _ _ _ _ _ _ _ _ _ _ _ _ _ _ _ _ _ _ _ _ _ _ _ _ _ _ _ _ _ _ _ _ _ _ _ _ _ _ _ _ _ _ wb (HT.out.keep (bl_trans BB BW.out)) hBa hv hx hf hg cs0 cs1 cs2 cs3 cs4 (cell_keep cv0 BW.out) (cell_keep cv1 BW.out) (cell_keep cv2 BW.out) (cell_keep cv3 BW.out) (cell_keep cx0 BW.out) (cell_keep cx1 BW.out) (cell_keep cx2 BW.out) (cell_keep cx3 BW.out) (cell_keep cf0 BW.out) (cell_keep cf1 BW.out) (cell_keep cf2 BW.out) (cell_keep cf3 BW.out) (cell_keep cg0 BW.out) (cell_keep cg1 BW.out) (cell_keep cg2 BW.out) (cell_keep cg3 BW.out) (hidden ?_)
  intro z55 z56 z57 z58 z59 z60 z61 z62 z63 z64 z65 z66 z67 z68 z69 z70 z71 wz hz
  have BZ := bl_trans BB (bl_trans BW.out hz)
  have T12 : wz.cell? ⟨w.heap.size + 1 + 1, 0, none⟩ = _ ∧ wz.cell? ⟨w.heap.size + 1 + 1, 1, none⟩ = _ ∧ wz.cell? ⟨w.heap.size + 1 + 1, 2, none⟩ = _ ∧ wz.cell? ⟨w.heap.size + 1 + 1, 3, none⟩ = _ := ⟨cell_keep cf0 (bl_trans BW.out hz), cell_keep cf1 (bl_trans BW.out hz), cell_keep cf2 (bl_trans BW.out hz), cell_keep cf3 (bl_trans BW.out hz)⟩
  have T13 : wz.cell? ⟨w.heap.size + 1 + 1 + 1, 0, none⟩ = _ ∧ wz.cell? ⟨w.heap.size + 1 + 1 + 1, 1, none⟩ = _ ∧ wz.cell? ⟨w.heap.size + 1 + 1 + 1, 2, none⟩ = _ ∧ wz.cell? ⟨w.heap.size + 1 + 1 + 1, 3, none⟩ = _ := ⟨cell_keep cg0 (bl_trans BW.out hz), cell_keep cg1 (bl_trans BW.out hz), cell_keep cg2 (bl_trans BW.out hz), cell_keep cg3 (bl_trans BW.out hz)⟩
  replace cs0 := cell_keep cs0 hz
  replace cs1 := cell_keep cs1 hz
  replace cs2 := cell_keep cs2 hz
  replace cs3 := cell_keep cs3 hz
  replace cs4 := cell_keep cs4 hz
  replace hBa := hBa.keep hz
  clear hz BB BW cv0 cv1 cv2 cv3 cx0 cx1 cx2 cx3 cf0 cf1 cf2 cf3 cg0 cg1 cg2 cg3 hn
  obtain ⟨f0, f1, f2, f3⟩ := T12
  obtain ⟨q0, q1, q2, q3⟩ := T13
  generalize wa.heap.size = T20 at *
  have D1 := hidden (fun (y : World) (hy : Below wz.heap.size wz y) => vectors_all b0 b1 b2 g1 g2 n La Lb ca cb Pa Pb ka kb f PG PH nG cG nH cH y H7.out (HT.out.keep (bl_trans BZ hy)) (hBa.keep hy) (HA.out.1.keep (bl_trans BZ hy)) (HA.out.2.1.keep (bl_trans BZ hy)) HO.out.1 HO.out.2.1 hf)
  have D2 := hidden (fun (y : World) (hy : Below wz.heap.size wz y) => vectors_all b0 b1 b2 g1 g2 n Lc Ld cc cd Pc Pd kc kd g PG PH nG cG nH cH y H7.out (HT.out.keep (bl_trans BZ hy)) (hBa.keep hy) (HA.out.2.2.1.keep (bl_trans BZ hy)) (HA.out.2.2.2.keep (bl_trans BZ hy)) HO.out.2.2.1 HO.out.2.2.2 hg)
  clear hBa
  have ZF := hidden (And.intro f0 (And.intro f1 (And.intro f2 f3)))
  have ZG := hidden (And.intro q0 (And.intro q1 (And.intro q2 q3)))
  have ZS := hidden (And.intro cs0 (And.intro cs1 (And.intro cs2 (And.intro cs3 cs4))))
  have B0 := hidden (Below.refl wz.heap.size wz)
  go_upto_region 9 with (first
    | (go_at_call 9; refine (D1.out _ B0.out).mono ?_; rintro e wc ⟨P1, m1, c1, er1, rfl, hc, h1⟩; have b1' := bl_alloc wc (.cells #[.slice P1 m1 c1] 27); have BC := hidden (bl_trans hc b1'); clear cs0 cs1 cs2 cs3 cs4 q0 q1 q2 q3 f0 f1 f2 f3; have cs0 := cell_keep ZS.out.1 BC.out; have cs1 := cell_keep ZS.out.2.1 BC.out; have cs2 := cell_keep ZS.out.2.2.1 BC.out; have cs3 := cell_keep ZS.out.2.2.2.1 BC.out; have cs4 := cell_keep ZS.out.2.2.2.2 BC.out; have q0 := cell_keep ZG.out.1 BC.out; have q1 := cell_keep ZG.out.2.1 BC.out; have q2 := cell_keep ZG.out.2.2.1 BC.out; have q3 := cell_keep ZG.out.2.2.2 BC.out; have H1 := hidden h1; have X0 := hidden (show (wc.alloc (.cells #[.slice P1 m1 c1] 27)).cell? ⟨wc.heap.size, 0, none⟩ = some (.slice P1 m1 c1) by go_simp); clear h1 hc b1' D1)
    | (go_at_call 9; refine (D2.out _ BC.out).mono ?_; rintro e wd ⟨P2, m2, c2, er2, rfl, hd, h2⟩; have H2 := hidden h2; have BD := hidden (bl_trans BC.out (bl_trans hd (bl_alloc wd (.cells #[.slice P2 m2 c2] 27)))); have X1 := hidden (cell_keep (cell_keep X0.out hd) (bl_alloc wd (.cells #[.slice P2 m2 c2] 27))); have Y0 := hidden (show (wd.alloc (.cells #[.slice P2 m2 c2] 27)).cell? ⟨wd.heap.size, 0, none⟩ = some (.slice P2 m2 c2) by go_simp); have KD := hidden (bl_trans (bl_alloc wc (.cells #[.slice P1 m1 c1] 27)) (bl_trans hd (bl_alloc wd (.cells #[.slice P2 m2 c2] 27)))); have KE := hidden (bl_alloc wd (.cells #[.slice P2 m2 c2] 27)); clear h2 hd D2 X0 cs0 cs1 cs2 cs3 cs4 q0 q1 q2 q3))

  generalize (wd.alloc (.cells #[.slice P2 m2 c2] 27)) = we at *
  have BE := bl_trans BZ BD.out
  have F0 := hidden (And.intro (cell_keep ZF.out.1 BD.out) (And.intro (cell_keep ZF.out.2.1 BD.out) (And.intro (cell_keep ZF.out.2.2.1 BD.out) (cell_keep ZF.out.2.2.2 BD.out))))
  have G0 := hidden (And.intro (cell_keep ZG.out.1 BD.out) (And.intro (cell_keep ZG.out.2.1 BD.out) (And.intro (cell_keep ZG.out.2.2.1 BD.out) (cell_keep ZG.out.2.2.2 BD.out))))
  clear ZF ZG ZS BD BZ
  rcases H1.out with ⟨hX, rfl⟩ | ⟨ha1, hb1, rfl, hF1, A1, rfl⟩
  · clear H1 H2 HA HO HT
    by_cases k1 : n < La
    · have i1 : (n : Int) < (La : Int) := by omega
      go_wp2_with fail
      refine bodyPost_ret (v := .bool true) (by simp [results, Tryz.results3, go_sem]) rfl ⟨rfl, BE⟩
    · have k2 : n < Lb := by omega
      have i1 : ¬ (n : Int) < (La : Int) := by omega
      have i2 : (n : Int) < (Lb : Int) := by omega
      go_wp2_with fail
      refine bodyPost_ret (v := .bool true) (by simp [results, Tryz.results3, go_sem]) rfl ⟨rfl, BE⟩
  · rcases H2.out with ⟨hY, rfl⟩ | ⟨hc1, hd1, rfl, hF2, A2, rfl⟩
    · clear H1 H2 HA HO HT
      by_cases k1 : n < Lc
      · have i1 : (n : Int) < (Lc : Int) := by omega
        go_wp2_with fail
        refine bodyPost_ret (v := .bool true) (by simp [results, Tryz.results3, go_sem]) rfl ⟨rfl, BE⟩
      · have k2 : n < Ld := by omega
        have i1 : ¬ (n : Int) < (Lc : Int) := by omega
        have i2 : (n : Int) < (Ld : Int) := by omega
        go_wp2_with fail
        refine bodyPost_ret (v := .bool true) (by simp [results, Tryz.results3, go_sem]) rfl ⟨rfl, BE⟩
    · replace hF1 := hF1.keep KD.out
      replace hF2 := hF2.keep KE.out
      clear H1 H2 KD KE
      obtain ⟨gx, hgx, hax⟩ := hF1.at
      obtain ⟨f0, f1, f2, f3⟩ := F0.out
      obtain ⟨q0, q1, q2, q3⟩ := G0.out
      have SFG := hidden (fun (y : World) (hy : Below we.heap.size we y) => Same_any f g y (HT.out.keep (bl_trans BE hy)) hf hg)
      have B0 := hidden (Below.refl we.heap.size we)
      have HF1 := hidden hF1
      have HF2 := hidden hF2
      have HGX := hidden hgx
      have n7 := H7.out
      obtain ⟨hka, hkb, hkc, hkd⟩ := HA.out
      obtain ⟨oka, okb, okc, okd⟩ := HO.out
      obtain ⟨s0, hs0⟩ : ∃ s0, (lst f.n).same (lst g.n) = s0 := ⟨_, rfl⟩
      rw [hs0] at SFG
      clear BC hF1 hF2 hgx HA HO
      generalize wc.heap.size = T22 at *
      generalize wd.heap.size = T24 at *
      go_wp2_with (first | (go_at_call 8; refine (SFG.out _ B0.out).mono ?_; rintro e wf ⟨rfl, hb⟩; have BF := hidden hb; clear hb SFG B0 f0 f1 f2 f3 q0 q1 q2 q3))
      go_loopw [26, 27] (fun bv kv w' => ∃ (k : Nat) (b : Bool), k ≤ n ∧ bv = .bool b ∧ kv = .int .i64 (k : Int) ∧ Hid (b = true ↔ (lst f.n = lst g.n ∧ ∀ j, j < k → lst (atE La ka j).n = lst (atE Lc kc j).n ∧ lst (atE Lb kb j).n = lst (atE Ld kd j).n)) ∧ Hid (Below we.heap.size we w')) (fun _ k _ => n - (intOf k).toNat)
      case atStart => exact ⟨0, s0, by omega, rfl, rfl, hidden ⟨fun e => ⟨(E4.same_iff _ _).1 (hs0.trans e), fun j hj => absurd hj (by omega)⟩, fun q => by rw [← hs0]; exact (E4.same_iff _ _).2 q.1⟩, BF⟩
      case round =>
        clear BF
        obtain ⟨k, b, hk, rfl, rfl, hE, BN⟩ := hrel
        by_cases hkn : k < n
        · have k1 : (k : Int) < (n : Int) := by omega
          have w9 : IntKind.i64.wrap ((k : Int) + 1) = (k : Int) + 1 := IntWalk.i64_in _ (by omega)
          have w3 : IntKind.i64.wrap (3 + (k : Int)) = 3 + (k : Int) := IntWalk.i64_in _ (by omega)
          have w4 : IntKind.i64.wrap (3 + (n : Int)) = 3 + (n : Int) := IntWalk.i64_in _ (by omega)
          have w5 : IntKind.i64.wrap (3 + (n : Int) + (k : Int)) = 3 + (n : Int) + (k : Int) := IntWalk.i64_in _ (by omega)
          have LA := hidden (fun (y : World) (hy : Below we.heap.size we y) => lat_any Pa La ca ka k y (hka.keep (bl_trans BE hy)))
          have LB := hidden (fun (y : World) (hy : Below we.heap.size we y) => lat_any Pb Lb cb kb k y (hkb.keep (bl_trans BE hy)))
          have LC := hidden (fun (y : World) (hy : Below we.heap.size we y) => lat_any Pc Lc cc kc k y (hkc.keep (bl_trans BE hy)))
          have LD := hidden (fun (y : World) (hy : Below we.heap.size we y) => lat_any Pd Ld cd kd k y (hkd.keep (bl_trans BE hy)))
          have LA2 := hidden (fun (y : World) (hy : Below we.heap.size we y) => lat_any Pa La ca ka k y (hka.keep (bl_trans BE hy)))
          have LB2 := hidden (fun (y : World) (hy : Below we.heap.size we y) => lat_any Pb Lb cb kb k y (hkb.keep (bl_trans BE hy)))
          have oza := atE_ok oka k
          have ozb := atE_ok okb k
          have ozc := atE_ok okc k
          have ozd := atE_ok okd k
          have xa := hax (3 + k)
          have xb := hax (3 + n + k)
          rw [cvx_left _ _ _ _ _ _ _ hkn ha1 hb1] at xa
          rw [cvx_right _ _ _ _ _ _ _ hkn ha1 hb1] at xb
          obtain ⟨za, hza⟩ : ∃ z, atE La ka k = z := ⟨_, rfl⟩
          obtain ⟨zb, hzb⟩ : ∃ z, atE Lb kb k = z := ⟨_, rfl⟩
          obtain ⟨zc, hzc⟩ : ∃ z, atE Lc kc k = z := ⟨_, rfl⟩
          obtain ⟨zd, hzd⟩ : ∃ z, atE Ld kd k = z := ⟨_, rfl⟩
          rw [hza] at LA LA2 oza xa
          rw [hzb] at LB LB2 ozb xb
          rw [hzc] at LC ozc
          rw [hzd] at LD ozd
          have SA := hidden (fun (y : World) (hy : Below we.heap.size we y) => Same_any za zc y (HT.out.keep (bl_trans BE hy)) oza ozc)
          have SB := hidden (fun (y : World) (hy : Below we.heap.size we y) => Same_any zb zd y (HT.out.keep (bl_trans BE hy)) ozb ozd)
          have LX1 := hidden (fun (y : World) (hy : Below we.heap.size we y) => lat_any (some ⟨A1, 0, none⟩) m1 c1 gx (3 + k) y (HGX.out.keep hy))
          have LX2 := hidden (fun (y : World) (hy : Below we.heap.size we y) => lat_any (some ⟨A1, 0, none⟩) m1 c1 gx (3 + n + k) y (HGX.out.keep hy))
          have EA := hidden (fun (y : World) (hy : Below we.heap.size we y) => fix (R := lst za.n) (Least_any za y (HT.out.keep (bl_trans BE hy)) oza) rfl)
          have EB := hidden (fun (y : World) (hy : Below we.heap.size we y) => fix (R := lst zb.n) (Least_any zb y (HT.out.keep (bl_trans BE hy)) ozb) rfl)
          rw [xa] at LX1
          rw [xb] at LX2
          simp only [show ((3 + k : Nat) : Int) = 3 + (k : Int) by omega] at LX1
          simp only [show ((3 + n + k : Nat) : Int) = 3 + (n : Int) + (k : Int) by omega] at LX2
          obtain ⟨s1, hs1⟩ : ∃ s, (lst za.n).same (lst zc.n) = s := ⟨_, rfl⟩
          obtain ⟨s2, hs2⟩ : ∃ s, (lst zb.n).same (lst zd.n) = s := ⟨_, rfl⟩
          rw [hs1] at SA
          rw [hs2] at SB
          have HS1 : Hid (s1 = true ↔ lst (atE La ka k).n = lst (atE Lc kc k).n) := hidden (by rw [← hs1, E4.same_iff, hza, hzc])
          have HS2 : Hid (s2 = true ↔ lst (atE Lb kb k).n = lst (atE Ld kd k).n) := hidden (by rw [← hs2, E4.same_iff, hzb, hzd])
          have eqa := eq4 (lst za.n) (lst za.n)
          have eqb := eq4 (lst zb.n) (lst zb.n)
          simp only [E4.same_self] at eqa eqb
          clear hs1 hs2 hza hzb hzc hzd xa xb oza ozb ozc ozd
          generalize lst za.n = ra at *
          generalize lst zb.n = rb at *
          unfold E4.v at LA LB LC LD LA2 LB2 SA SB LX1 LX2 EA EB eqa eqb
          have xN := cell_keep X1.out BN.out
          have step : ∀ j, j < k + 1 → j < k ∨ j = k := fun j hj => by omega
          cases b with
          | false =>
            clear LA LB LC LD SA SB HS1 HS2
            go_wp2_with (first
              | (go_at_call 10; refine (LX1.out _ BN.out).mono ?_; rintro e wq ⟨rfl, hb⟩; replace BN := hidden (bl_trans BN.out hb); clear hb LX1 xN; have xN := cell_keep X1.out BN.out)
              | (go_at_call 10; refine (LA2.out _ BN.out).mono ?_; rintro e wq ⟨rfl, hb⟩; replace BN := hidden (bl_trans BN.out hb); clear hb LA2 xN; have xN := cell_keep X1.out BN.out)
              | (go_at_call 11; refine (EA.out _ BN.out).mono ?_; rintro e wq ⟨rfl, hb⟩; replace BN := hidden (bl_trans BN.out hb); clear hb EA xN; have xN := cell_keep X1.out BN.out)
              | (go_at_call 10; refine (LX2.out _ BN.out).mono ?_; rintro e wq ⟨rfl, hb⟩; replace BN := hidden (bl_trans BN.out hb); clear hb LX2 xN; have xN := cell_keep X1.out BN.out)
              | (go_at_call 10; refine (LB2.out _ BN.out).mono ?_; rintro e wq ⟨rfl, hb⟩; replace BN := hidden (bl_trans BN.out hb); clear hb LB2 xN; have xN := cell_keep X1.out BN.out)
              | (go_at_call 11; refine (EB.out _ BN.out).mono ?_; rintro e wq ⟨rfl, hb⟩; replace BN := hidden (bl_trans BN.out hb); clear hb EB xN; have xN := cell_keep X1.out BN.out))
            go_roundw
            case rel => exact ⟨k + 1, false, by omega, rfl, by go_num, hidden (⟨fun e => by simp at e, fun q => absurd (hE.out.2 ⟨q.1, fun j hj => q.2 j (by omega)⟩) (by simp)⟩), BN⟩
            case measure => simp [intOf]; omega
          | true =>
            cases s1 with
            | false =>
              clear LB LD SB HS2
              go_wp2_with (first
                | (go_at_call 10; refine (LA.out _ BN.out).mono ?_; rintro e wq ⟨rfl, hb⟩; replace BN := hidden (bl_trans BN.out hb); clear hb LA xN; have xN := cell_keep X1.out BN.out)
                | (go_at_call 10; refine (LC.out _ BN.out).mono ?_; rintro e wq ⟨rfl, hb⟩; replace BN := hidden (bl_trans BN.out hb); clear hb LC xN; have xN := cell_keep X1.out BN.out)
                | (go_at_call 8; refine (SA.out _ BN.out).mono ?_; rintro e wq ⟨rfl, hb⟩; replace BN := hidden (bl_trans BN.out hb); clear hb SA xN; have xN := cell_keep X1.out BN.out)
                | (go_at_call 10; refine (LX1.out _ BN.out).mono ?_; rintro e wq ⟨rfl, hb⟩; replace BN := hidden (bl_trans BN.out hb); clear hb LX1 xN; have xN := cell_keep X1.out BN.out)
                | (go_at_call 10; refine (LA2.out _ BN.out).mono ?_; rintro e wq ⟨rfl, hb⟩; replace BN := hidden (bl_trans BN.out hb); clear hb LA2 xN; have xN := cell_keep X1.out BN.out)
                | (go_at_call 11; refine (EA.out _ BN.out).mono ?_; rintro e wq ⟨rfl, hb⟩; replace BN := hidden (bl_trans BN.out hb); clear hb EA xN; have xN := cell_keep X1.out BN.out)
                | (go_at_call 10; refine (LX2.out _ BN.out).mono ?_; rintro e wq ⟨rfl, hb⟩; replace BN := hidden (bl_trans BN.out hb); clear hb LX2 xN; have xN := cell_keep X1.out BN.out)
                | (go_at_call 10; refine (LB2.out _ BN.out).mono ?_; rintro e wq ⟨rfl, hb⟩; replace BN := hidden (bl_trans BN.out hb); clear hb LB2 xN; have xN := cell_keep X1.out BN.out)
                | (go_at_call 11; refine (EB.out _ BN.out).mono ?_; rintro e wq ⟨rfl, hb⟩; replace BN := hidden (bl_trans BN.out hb); clear hb EB xN; have xN := cell_keep X1.out BN.out))
              go_roundw
              case rel => exact ⟨k + 1, false, by omega, rfl, by go_num, hidden (⟨fun e => by simp at e, fun q => absurd (HS1.out.2 (q.2 k (by omega)).1) (by simp)⟩), BN⟩
              case measure => simp [intOf]; omega
            | true =>
              go_wp2_with (first
                | (go_at_call 10; refine (LA.out _ BN.out).mono ?_; rintro e wq ⟨rfl, hb⟩; replace BN := hidden (bl_trans BN.out hb); clear hb LA xN; have xN := cell_keep X1.out BN.out)
                | (go_at_call 10; refine (LC.out _ BN.out).mono ?_; rintro e wq ⟨rfl, hb⟩; replace BN := hidden (bl_trans BN.out hb); clear hb LC xN; have xN := cell_keep X1.out BN.out)
                | (go_at_call 8; refine (SA.out _ BN.out).mono ?_; rintro e wq ⟨rfl, hb⟩; replace BN := hidden (bl_trans BN.out hb); clear hb SA xN; have xN := cell_keep X1.out BN.out)
                | (go_at_call 10; refine (LB.out _ BN.out).mono ?_; rintro e wq ⟨rfl, hb⟩; replace BN := hidden (bl_trans BN.out hb); clear hb LB xN; have xN := cell_keep X1.out BN.out)
                | (go_at_call 10; refine (LD.out _ BN.out).mono ?_; rintro e wq ⟨rfl, hb⟩; replace BN := hidden (bl_trans BN.out hb); clear hb LD xN; have xN := cell_keep X1.out BN.out)
                | (go_at_call 8; refine (SB.out _ BN.out).mono ?_; rintro e wq ⟨rfl, hb⟩; replace BN := hidden (bl_trans BN.out hb); clear hb SB xN; have xN := cell_keep X1.out BN.out)
                | (go_at_call 10; refine (LX1.out _ BN.out).mono ?_; rintro e wq ⟨rfl, hb⟩; replace BN := hidden (bl_trans BN.out hb); clear hb LX1 xN; have xN := cell_keep X1.out BN.out)
                | (go_at_call 10; refine (LA2.out _ BN.out).mono ?_; rintro e wq ⟨rfl, hb⟩; replace BN := hidden (bl_trans BN.out hb); clear hb LA2 xN; have xN := cell_keep X1.out BN.out)
                | (go_at_call 11; refine (EA.out _ BN.out).mono ?_; rintro e wq ⟨rfl, hb⟩; replace BN := hidden (bl_trans BN.out hb); clear hb EA xN; have xN := cell_keep X1.out BN.out)
                | (go_at_call 10; refine (LX2.out _ BN.out).mono ?_; rintro e wq ⟨rfl, hb⟩; replace BN := hidden (bl_trans BN.out hb); clear hb LX2 xN; have xN := cell_keep X1.out BN.out)
                | (go_at_call 10; refine (LB2.out _ BN.out).mono ?_; rintro e wq ⟨rfl, hb⟩; replace BN := hidden (bl_trans BN.out hb); clear hb LB2 xN; have xN := cell_keep X1.out BN.out)
                | (go_at_call 11; refine (EB.out _ BN.out).mono ?_; rintro e wq ⟨rfl, hb⟩; replace BN := hidden (bl_trans BN.out hb); clear hb EB xN; have xN := cell_keep X1.out BN.out))
              go_roundw
              case rel => exact ⟨k + 1, s2, by omega, rfl, by go_num, hidden (⟨fun e => ⟨(hE.out.1 (by simp)).1, fun j hj => by rcases step j hj with h | rfl; exact (hE.out.1 (by simp)).2 j h; exact ⟨HS1.out.1 (by simp), HS2.out.1 e⟩⟩, fun q => HS2.out.2 (q.2 k (by omega)).2⟩), BN⟩
              case measure => simp [intOf]; omega
        · obtain rfl : n = k := by omega
          have k1 : ¬ (n : Int) < (n : Int) := by omega
          have x1 := hax 1
          rw [cvx_one] at x1
          have X2 := cell_keep X1.out BN.out
          have Y2 := cell_keep Y0.out BN.out
          have BQ := bl_trans BE BN.out
          have C2 : Hid (∀ y, Below wr.heap.size wr y → Calls Tryz.prog 7 #[.agg #[.slice (some ⟨A1, 0, none⟩) m1 c1], .agg #[.slice (some ⟨A2, 0, none⟩) m2 c2]] y fun e w' => e = .returned (.bool b) ∧ Below y.heap.size y w') := hidden (fun y hy => (frSame _ _ _ _ y (HT.out.keep (bl_trans BQ hy)) (HF1.out.fr.keep (bl_trans BN.out hy)) (HF2.out.fr.keep (bl_trans BN.out hy))).mono (fun e w' h => by
            obtain ⟨b2, rfl, hb2, hw⟩ := h
            refine ⟨?_, hw⟩
            have : b2 = b := by rw [Bool.eq_iff_iff, hb2, cvx_same n La Lb Lc Ld ka kb kc kd f g ha1 hb1 hc1 hd1]; exact hE.out.symm
            rw [this]))
          have C8 := hidden (fun (y : World) (hy : Below wr.heap.size wr y) => lat_any (some ⟨A1, 0, none⟩) m1 c1 gx 1 y (HGX.out.keep (bl_trans BN.out hy)))
          have C10 := hidden (fun (y : World) (hy : Below wr.heap.size wr y) => fix (R := lst f.n) (Least_any f y (HT.out.keep (bl_trans BQ hy)) hf) rfl)
          rw [x1] at C8
          have eqr := eq4 (lst f.n) (lst f.n)
          simp only [E4.same_self] at eqr
          generalize lst f.n = r at C8 C10 eqr
          go_upto_region 18 with fail
          refine gb18 _ (w.heap.size + 1 + 1) T22 T24 A1 m1 c1 A2 m2 c2 f r b _ _ _ _ _ _ _ _ _ _ _ _ _ _ _ _ _ _ _ _ _ _ _ _ _ _ _ _ _ _ _ _ _ _ _ _ _ _ _ _ _ _ _ _ _ _ _ _ _ _ _ _ _ _ _ _ _ _ _ _ _ _ _ _ _ _ _ _ _ _ _ _ _ _ _ _ _ _ _ _ _ _ _ _ _ _ _ _ _ _ _ _ _ _ _ _ _ _ _ _ _ _ _ _ _ _ _ _ _ _ _ _ _ _ _ _ _ _ _ _ _ _ _ _ _ _ _ _ _ _ _ _ _ _ _ _ _ _ _ _ _ _ _ _ _ _ _ _ _ _ _ _ _ _ _ _ _ _ _ _ _ _ _ _ _ _ _ _ _ _ _ _ _ _ _ _ _ _ _ _ _ _ _ _ _ wr X2 Y2 (cell_keep F0.out.1 BN.out) (cell_keep F0.out.2.1 BN.out) (cell_keep F0.out.2.2.1 BN.out) (cell_keep F0.out.2.2.2 BN.out) eqr C2 C8 C10 (hidden ?_)
          intro wy hy
          have BY := bl_trans BQ hy
          clear C2 C8 C10
          go_wp2_with fail
          refine bodyPost_ret (v := .bool true) (by simp [results, Tryz.results3, go_sem]) rfl ⟨rfl, BY⟩
end Go.Proofs.YthlohkbicnicjaaGreatDoor
