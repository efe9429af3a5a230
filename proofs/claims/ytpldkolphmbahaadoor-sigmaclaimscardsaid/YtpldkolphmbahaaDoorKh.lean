import Derived.Test.YtpldkolphmbahaaDoorKg
namespace Go.Proofs.YtpldkolphmbahaaDoor
open Go.RowKit
set_option linter.unusedVariables false
theorem linfo4 : (Tryd.prog.info? 26).map (·.size) = some 4 := by kernel_rfl
theorem linfo14 : (Tryd.prog.info? 29).map (·.size) = some 14 := by kernel_rfl
/-- what region 7 looks at -/
structure S7 (W : World) (T9 T10 T11 T12 T13 T14 : Nat) (b f p q rb rf rp rq : E4) (w : World) : Prop where
  bel : Below W.heap.size W w
  r9 : w.rangeAt T9 0 [.int .u64 b.x0, .int .u64 b.x1, .int .u64 b.x2, .int .u64 b.x3, .int .u64 f.x0, .int .u64 f.x1, .int .u64 f.x2, .int .u64 f.x3, .int .u64 0, .int .u64 0, .int .u64 0, .int .u64 0, .slice none 0 0, .slice none 0 0]
  r10 : w.rangeAt T10 0 (s81 rb rf)
  r11 : w.rangeAt T11 0 [.int .u64 p.x0, .int .u64 p.x1, .int .u64 p.x2, .int .u64 p.x3]
  r12 : w.rangeAt T12 0 [.int .u64 q.x0, .int .u64 q.x1, .int .u64 q.x2, .int .u64 q.x3]
  r13 : w.rangeAt T13 0 (el rp)
  r14 : w.rangeAt T14 0 (el rq)
theorem S7.keep {W : World} {T9 T10 T11 T12 T13 T14 : Nat} {b f p q rb rf rp rq : E4} {w w' : World} (h : S7 W T9 T10 T11 T12 T13 T14 b f p q rb rf rp rq w) (hb : Below w.heap.size w w') : S7 W T9 T10 T11 T12 T13 T14 b f p q rb rf rp rq w' :=
  ⟨bl_trans h.bel hb, range_keepM h.r9 hb, range_keepM h.r10 hb, range_keepM h.r11 hb, range_keepM h.r12 hb, range_keepM h.r13 hb, range_keepM h.r14 hb⟩
def sc7o : Array Oper := #[{ dst := some 37, op := Op.load 26 (Operand.tmp 11), type := 26, pos := "law.go:510", after := #[], guard := none },
  { dst := some 38, op := Op.load 26 (Operand.tmp 12), type := 26, pos := "law.go:510", after := #[], guard := none },
  { dst := some 39, op := Op.call { callee := Callee.value (Operand.func 7), args := #[Operand.tmp 37, Operand.tmp 38], argTypes := #[26, 26] }, type := 48, pos := "law.go:510", after := #[{ on := 0, ground := Ground.data }, { on := 1, ground := Ground.data }], guard := none },
  { dst := some 40, op := Op.load 39 (Operand.tmp 13), type := 39, pos := "law.go:510", after := #[], guard := none },
  { dst := some 41, op := Op.load 39 (Operand.tmp 14), type := 39, pos := "law.go:510", after := #[], guard := none },
  { dst := some 42, op := Op.call { callee := Callee.value (Operand.func 8), args := #[Operand.tmp 40, Operand.tmp 41], argTypes := #[39, 39] }, type := 52, pos := "law.go:510", after := #[{ on := 3, ground := Ground.data }, { on := 4, ground := Ground.data }, { on := 2, ground := Ground.chain }], guard := none },
  { dst := some 43, op := Op.call { callee := Callee.value (Operand.func 6), args := #[Operand.tmp 39, Operand.tmp 42], argTypes := #[48, 52] }, type := 4, pos := "law.go:510", after := #[{ on := 2, ground := Ground.data }, { on := 5, ground := Ground.data }, { on := 5, ground := Ground.chain }], guard := none },
  { dst := some 44, op := Op.move (Operand.tmp 43), type := 4, pos := "law.go:510", after := #[{ on := 6, ground := Ground.data }, { on := 6, ground := Ground.chain }], guard := none },
  { dst := some 45, op := Op.load 29 (Operand.tmp 9), type := 29, pos := "law.go:510", after := #[{ on := 7, ground := Ground.guard }], guard := some (7, true) },
  { dst := some 46, op := Op.load 26 (Operand.tmp 11), type := 26, pos := "law.go:510", after := #[{ on := 7, ground := Ground.guard }], guard := some (7, true) },
  { dst := some 47, op := Op.call { callee := Callee.value (Operand.func 9), args := #[Operand.tmp 45, Operand.tmp 46], argTypes := #[29, 26] }, type := 48, pos := "law.go:510", after := #[{ on := 8, ground := Ground.data }, { on := 9, ground := Ground.data }, { on := 7, ground := Ground.chain }, { on := 7, ground := Ground.guard }], guard := some (7, true) },
  { dst := some 48, op := Op.load 44 (Operand.tmp 10), type := 44, pos := "law.go:510", after := #[{ on := 7, ground := Ground.guard }], guard := some (7, true) },
  { dst := some 49, op := Op.load 39 (Operand.tmp 13), type := 39, pos := "law.go:510", after := #[{ on := 7, ground := Ground.guard }], guard := some (7, true) },
  { dst := some 50, op := Op.call { callee := Callee.value (Operand.func 10), args := #[Operand.tmp 48, Operand.tmp 49], argTypes := #[44, 39] }, type := 52, pos := "law.go:510", after := #[{ on := 11, ground := Ground.data }, { on := 12, ground := Ground.data }, { on := 10, ground := Ground.chain }, { on := 7, ground := Ground.guard }], guard := some (7, true) },
  { dst := some 51, op := Op.call { callee := Callee.value (Operand.func 6), args := #[Operand.tmp 47, Operand.tmp 50], argTypes := #[48, 52] }, type := 4, pos := "law.go:510", after := #[{ on := 10, ground := Ground.data }, { on := 13, ground := Ground.data }, { on := 13, ground := Ground.chain }, { on := 7, ground := Ground.guard }], guard := some (7, true) },
  { dst := some 52, op := Op.pick (Operand.tmp 44) (Operand.tmp 51) (Operand.const (Value.bool false)), type := 4, pos := "law.go:510", after := #[{ on := 7, ground := Ground.data }, { on := 14, ground := Ground.data }], guard := none },
  { dst := some 53, op := Op.move (Operand.tmp 52), type := 4, pos := "law.go:510", after := #[{ on := 15, ground := Ground.data }, { on := 14, ground := Ground.chain }], guard := none },
  { dst := some 54, op := Op.load 29 (Operand.tmp 9), type := 29, pos := "law.go:510", after := #[{ on := 16, ground := Ground.guard }], guard := some (16, true) },
  { dst := some 55, op := Op.load 26 (Operand.tmp 11), type := 26, pos := "law.go:510", after := #[{ on := 16, ground := Ground.guard }], guard := some (16, true) },
  { dst := some 56, op := Op.load 26 (Operand.tmp 12), type := 26, pos := "law.go:510", after := #[{ on := 16, ground := Ground.guard }], guard := some (16, true) },
  { dst := some 57, op := Op.call { callee := Callee.value (Operand.func 11), args := #[Operand.tmp 54, Operand.tmp 55, Operand.tmp 56], argTypes := #[29, 26, 26] }, type := 48, pos := "law.go:510", after := #[{ on := 17, ground := Ground.data }, { on := 18, ground := Ground.data }, { on := 19, ground := Ground.data }, { on := 16, ground := Ground.chain }, { on := 16, ground := Ground.guard }], guard := some (16, true) },
  { dst := some 58, op := Op.load 44 (Operand.tmp 10), type := 44, pos := "law.go:510", after := #[{ on := 16, ground := Ground.guard }], guard := some (16, true) },
  { dst := some 59, op := Op.load 39 (Operand.tmp 13), type := 39, pos := "law.go:510", after := #[{ on := 16, ground := Ground.guard }], guard := some (16, true) },
  { dst := some 60, op := Op.load 39 (Operand.tmp 14), type := 39, pos := "law.go:510", after := #[{ on := 16, ground := Ground.guard }], guard := some (16, true) },
  { dst := some 61, op := Op.call { callee := Callee.value (Operand.func 12), args := #[Operand.tmp 58, Operand.tmp 59, Operand.tmp 60], argTypes := #[44, 39, 39] }, type := 52, pos := "law.go:510", after := #[{ on := 21, ground := Ground.data }, { on := 22, ground := Ground.data }, { on := 23, ground := Ground.data }, { on := 20, ground := Ground.chain }, { on := 16, ground := Ground.guard }], guard := some (16, true) },
  { dst := some 62, op := Op.call { callee := Callee.value (Operand.func 6), args := #[Operand.tmp 57, Operand.tmp 61], argTypes := #[48, 52] }, type := 4, pos := "law.go:510", after := #[{ on := 20, ground := Ground.data }, { on := 24, ground := Ground.data }, { on := 24, ground := Ground.chain }, { on := 16, ground := Ground.guard }], guard := some (16, true) },
  { dst := some 63, op := Op.pick (Operand.tmp 53) (Operand.tmp 62) (Operand.const (Value.bool false)), type := 4, pos := "law.go:510", after := #[{ on := 16, ground := Ground.data }, { on := 25, ground := Ground.data }], guard := none },
  { dst := some 8, op := Op.assign (Operand.tmp 63), type := 4, pos := "law.go:510", after := #[{ on := 26, ground := Ground.data }, { on := 25, ground := Ground.chain }, { on := 0, ground := Ground.phase }, { on := 1, ground := Ground.phase }, { on := 2, ground := Ground.phase }, { on := 3, ground := Ground.phase }, { on := 4, ground := Ground.phase }, { on := 5, ground := Ground.phase }, { on := 6, ground := Ground.phase }, { on := 7, ground := Ground.phase }, { on := 8, ground := Ground.phase }, { on := 9, ground := Ground.phase }, { on := 10, ground := Ground.phase }, { on := 11, ground := Ground.phase }, { on := 12, ground := Ground.phase }, { on := 13, ground := Ground.phase }, { on := 14, ground := Ground.phase }, { on := 15, ground := Ground.phase }, { on := 16, ground := Ground.phase }, { on := 17, ground := Ground.phase }, { on := 18, ground := Ground.phase }, { on := 19, ground := Ground.phase }, { on := 20, ground := Ground.phase }, { on := 21, ground := Ground.phase }, { on := 22, ground := Ground.phase }, { on := 23, ground := Ground.phase }, { on := 24, ground := Ground.phase }, { on := 25, ground := Ground.phase }, { on := 26, ground := Ground.phase }], guard := none }]
set_option maxRecDepth 100000 in
set_option maxHeartbeats 16000000 in
theorem sc7 (Q : Exit → Act → World → Prop) (T9 T10 T11 T12 T13 T14 : Nat) (b f p q rb rf rp rq : E4) (u0 u1 u2 u3 u4 u5 u6 u7 u8 u15 u16 u17 u18 u19 u20 u21 u22 u23 u24 u25 u26 u27 u28 u29 u30 u31 u32 u33 u34 u35 u36 u37 u38 u39 u40 u41 u42 u43 u44 u45 u46 u47 u48 u49 u50 u51 u52 u53 u54 u55 u56 u57 u58 u59 u60 u61 u62 u63 : Value) (W : World) (HS : S7 W T9 T10 T11 T12 T13 T14 b f p q rb rf rp rq W) (hT : Tb W)
    (ob : b.ok) (of : f.ok) (op : p.ok) (oq : q.ok) (hb : rb = lst b.n) (hf : rf = lst f.n) (hp : rp = lst p.n) (hq : rq = lst q.n)
    (HQ : Hid (∀ v1 v2 v3 v4 v5 v6 wz, Below W.heap.size W wz → Q .normal ⟨#[u0, u1, u2, u3, u4, u5, u6, u7, .bool true, .pointer (some ⟨T9, 0, none⟩), .pointer (some ⟨T10, 0, none⟩), .pointer (some ⟨T11, 0, none⟩), .pointer (some ⟨T12, 0, none⟩), .pointer (some ⟨T13, 0, none⟩), .pointer (some ⟨T14, 0, none⟩), u15, u16, u17, u18, u19, u20, u21, u22, u23, u24, u25, u26, u27, u28, u29, u30, u31, u32, u33, u34, u35, u36, .agg #[.int .u64 p.x0, .int .u64 p.x1, .int .u64 p.x2, .int .u64 p.x3], .agg #[.int .u64 q.x0, .int .u64 q.x1, .int .u64 q.x2, .int .u64 q.x3], v1, .agg (el rp).toArray, .agg (el rq).toArray, v2, .bool true, .bool true, .agg #[.int .u64 b.x0, .int .u64 b.x1, .int .u64 b.x2, .int .u64 b.x3, .int .u64 f.x0, .int .u64 f.x1, .int .u64 f.x2, .int .u64 f.x3, .int .u64 0, .int .u64 0, .int .u64 0, .int .u64 0, .slice none 0 0, .slice none 0 0], .agg #[.int .u64 p.x0, .int .u64 p.x1, .int .u64 p.x2, .int .u64 p.x3], v3, .agg (s81 rb rf).toArray, .agg (el rp).toArray, v4, .bool true, .bool true, .bool true, .agg #[.int .u64 b.x0, .int .u64 b.x1, .int .u64 b.x2, .int .u64 b.x3, .int .u64 f.x0, .int .u64 f.x1, .int .u64 f.x2, .int .u64 f.x3, .int .u64 0, .int .u64 0, .int .u64 0, .int .u64 0, .slice none 0 0, .slice none 0 0], .agg #[.int .u64 p.x0, .int .u64 p.x1, .int .u64 p.x2, .int .u64 p.x3], .agg #[.int .u64 q.x0, .int .u64 q.x1, .int .u64 q.x2, .int .u64 q.x3], v5, .agg (s81 rb rf).toArray, .agg (el rp).toArray, .agg (el rq).toArray, v6, .bool true, .bool true], []⟩ wz)) : (Code.region 7 sc7o true).wp Tryd.prog Q ⟨#[u0, u1, u2, u3, u4, u5, u6, u7, u8, .pointer (some ⟨T9, 0, none⟩), .pointer (some ⟨T10, 0, none⟩), .pointer (some ⟨T11, 0, none⟩), .pointer (some ⟨T12, 0, none⟩), .pointer (some ⟨T13, 0, none⟩), .pointer (some ⟨T14, 0, none⟩), u15, u16, u17, u18, u19, u20, u21, u22, u23, u24, u25, u26, u27, u28, u29, u30, u31, u32, u33, u34, u35, u36, u37, u38, u39, u40, u41, u42, u43, u44, u45, u46, u47, u48, u49, u50, u51, u52, u53, u54, u55, u56, u57, u58, u59, u60, u61, u62, u63], []⟩ W := by
  have TT := hidden (fun x (h : Below W.heap.size W x) => hT.keep h)
  have UL : Hid (Tryd.prog.underlying 26 = _) := hidden Tryd.underlying26
  have UE : Hid (Tryd.prog.underlying 39 = _) := hidden Tryd.underlying39
  have UG : Hid (Tryd.prog.underlying 29 = _) := hidden Tryd.underlying29
  have US : Hid (Tryd.prog.underlying 44 = _) := hidden Tryd.underlying44
  have IP : Hid ((Tryd.prog.info? 26).map (·.size) = some ([.int .u64 p.x0, .int .u64 p.x1, .int .u64 p.x2, .int .u64 p.x3] : List Value).length) := hidden linfo4
  have IQ : Hid ((Tryd.prog.info? 26).map (·.size) = some ([.int .u64 q.x0, .int .u64 q.x1, .int .u64 q.x2, .int .u64 q.x3] : List Value).length) := hidden linfo4
  have IG : Hid ((Tryd.prog.info? 29).map (·.size) = some ([.int .u64 b.x0, .int .u64 b.x1, .int .u64 b.x2, .int .u64 b.x3, .int .u64 f.x0, .int .u64 f.x1, .int .u64 f.x2, .int .u64 f.x3, .int .u64 0, .int .u64 0, .int .u64 0, .int .u64 0, .slice none 0 0, .slice none 0 0] : List Value).length) := hidden linfo14
  have IS : Hid ((Tryd.prog.info? 44).map (·.size) = some (s81 rb rf).length) := hidden sinfo81
  have IEP := hidden (el_i rp)
  have IEQ := hidden (el_i rq)
  have C1 := hidden (fun x => key_any p q x)
  have C2 := hidden (fun x => rkey_any rp rq x)
  have C3 := hidden (fun x => opening_any b f p x)
  have C4 := hidden (fun x => ropening_any rb rf rp x)
  have C5 := hidden (fun x => equal_any b f p q x)
  have C6 := hidden (fun x => requal_any rb rf rp rq x)
  simp only [E4.v] at C1 C3 C5
  have z0 : lst (E4.n ⟨0, 0, 0, 0⟩) = ⟨0, 0, 0, 0⟩ := by unfold lst E4.n Sm.V; congr <;> decide
  have zo : E4.ok ⟨0, 0, 0, 0⟩ := by unfold E4.ok Sm.Wd; exact ⟨by decide, by decide, by decide, by decide⟩
  have D1 : Hid (∀ v v' x, Tb x → PC x v 1 1 (fun _ => e1 p) (e1 q) → DC x v' 1 1 (fun _ => e1 rp) (e1 rq) → Calls Tryd.prog 6 #[v, v'] x fun e w' => e = .returned (.bool true) ∧ Below x.heap.size x w') :=
    hidden (fun v v' x T h1 h2 => isClaim_any v v' 1 1 _ _ _ _ x T (by omega) (by omega) h1 h2 (fun k hk j hj => op) (fun k hk => oq) (fun k hk j hj => hp) (fun k hk => hq))
  have D2 : Hid (∀ v v' x, Tb x → PC x v 1 2 (fun _ => e2 b f) (e1 p) → DC x v' 1 2 (fun _ => e2 rb rf) (e1 rp) → Calls Tryd.prog 6 #[v, v'] x fun e w' => e = .returned (.bool true) ∧ Below x.heap.size x w') :=
    hidden (fun v v' x T h1 h2 => isClaim_any v v' 1 2 _ _ _ _ x T (by omega) (by omega) h1 h2 (fun k hk j hj => by
      obtain rfl | rfl : j = 0 ∨ j = 1 := (by omega)
      · exact ob
      · exact of) (fun k hk => op) (fun k hk j hj => by
      obtain rfl | rfl : j = 0 ∨ j = 1 := (by omega)
      · exact hb
      · exact hf) (fun k hk => hp))
  have D3 : Hid (∀ v v' x, Tb x → PC x v 2 3 (r2 (e3 b f ⟨0, 0, 0, 0⟩) (e3 b ⟨0, 0, 0, 0⟩ f)) (e2 p q) → DC x v' 2 3 (r2 (e3 rb rf ⟨0, 0, 0, 0⟩) (e3 rb ⟨0, 0, 0, 0⟩ rf)) (e2 rp rq) → Calls Tryd.prog 6 #[v, v'] x fun e w' => e = .returned (.bool true) ∧ Below x.heap.size x w') :=
    hidden (fun v v' x T h1 h2 => isClaim_any v v' 2 3 _ _ _ _ x T (by omega) (by omega) h1 h2 (fun k hk j hj => by
      obtain rfl | rfl : k = 0 ∨ k = 1 := (by omega)
      all_goals obtain rfl | rfl | rfl : j = 0 ∨ j = 1 ∨ j = 2 := (by omega)
      all_goals first | exact ob | exact of | exact zo) (fun k hk => by
      obtain rfl | rfl : k = 0 ∨ k = 1 := (by omega)
      · exact op
      · exact oq) (fun k hk j hj => by
      obtain rfl | rfl : k = 0 ∨ k = 1 := (by omega)
      all_goals obtain rfl | rfl | rfl : j = 0 ∨ j = 1 ∨ j = 2 := (by omega)
      all_goals first | exact hb | exact hf | exact z0.symm) (fun k hk => by
      obtain rfl | rfl : k = 0 ∨ k = 1 := (by omega)
      · exact hp
      · exact hq))
  clear hT ob of op oq hb hf hp hq z0 zo
  refine wp_region_noPanic ?_
  refine wp_region_held_drew (S := S7 W T9 T10 T11 T12 T13 T14 b f p q rb rf rp rq) (by kernel_rfl) (HS.keep (drew_blW W)) (fun hHeld => ?_)
  change wpAnyH Tryd.prog .any sc7o _ _ 28 #[false, false, false, false, false, false, false, false, false, false, false, false, false, false, false, false, false, false, false, false, false, false, false, false, false, false, false, false] _ _
  clear HS
  refine wpAnyH_take (i := 0) (oi := { dst := some 37, op := Op.load 26 (Operand.tmp 11), type := 26, pos := "law.go:510", after := #[], guard := none }) (v := .agg (([.int .u64 p.x0, .int .u64 p.x1, .int .u64 p.x2, .int .u64 p.x3] : List Value)).toArray) rfl (by kernel_rfl) (by kernel_rfl) (by kernel_rfl) (fun _ _ _ h => h) (yieldsIf_load_mid (by rfl) 26 _ rfl (T11) (0) rfl (([.int .u64 p.x0, .int .u64 p.x1, .int .u64 p.x2, .int .u64 p.x3] : List Value)) _ (fun w0 hSw => hSw.r11) UL.out rfl IP.out) hHeld ?_
  simp only [Act.put, List.setIfInBounds_toArray, List.set_cons_zero, List.set_cons_succ]
  refine wpAnyH_take (i := 1) (oi := { dst := some 38, op := Op.load 26 (Operand.tmp 12), type := 26, pos := "law.go:510", after := #[], guard := none }) (v := .agg (([.int .u64 q.x0, .int .u64 q.x1, .int .u64 q.x2, .int .u64 q.x3] : List Value)).toArray) rfl (by kernel_rfl) (by kernel_rfl) (by kernel_rfl) (fun _ _ _ h => h) (yieldsIf_load_mid (by rfl) 26 _ rfl (T12) (0) rfl (([.int .u64 q.x0, .int .u64 q.x1, .int .u64 q.x2, .int .u64 q.x3] : List Value)) _ (fun w0 hSw => hSw.r12) UL.out rfl IQ.out) hHeld ?_
  simp only [Act.put, List.setIfInBounds_toArray, List.set_cons_zero, List.set_cons_succ]
  refine wpAnyH_take (i := 3) (oi := { dst := some 40, op := Op.load 39 (Operand.tmp 13), type := 39, pos := "law.go:510", after := #[], guard := none }) (v := .agg (el rp).toArray) rfl (by kernel_rfl) (by kernel_rfl) (by kernel_rfl) (fun _ _ _ h => h) (yieldsIf_load_mid (by rfl) 39 _ rfl (T13) (0) rfl (el rp) _ (fun w0 hSw => hSw.r13) UE.out rfl IEP.out) hHeld ?_
  simp only [Act.put, List.setIfInBounds_toArray, List.set_cons_zero, List.set_cons_succ]
  refine wpAnyH_take (i := 4) (oi := { dst := some 41, op := Op.load 39 (Operand.tmp 14), type := 39, pos := "law.go:510", after := #[], guard := none }) (v := .agg (el rq).toArray) rfl (by kernel_rfl) (by kernel_rfl) (by kernel_rfl) (fun _ _ _ h => h) (yieldsIf_load_mid (by rfl) 39 _ rfl (T14) (0) rfl (el rq) _ (fun w0 hSw => hSw.r14) UE.out rfl IEQ.out) hHeld ?_
  simp only [Act.put, List.setIfInBounds_toArray, List.set_cons_zero, List.set_cons_succ]
  refine wpAnyH_ready (rs := [2]) (by kernel_rfl) (by simp) ?_
  refine AllReadyH.cons (o := { dst := some 39, op := Op.call { callee := Callee.value (Operand.func 7), args := #[Operand.tmp 37, Operand.tmp 38], argTypes := #[26, 26] }, type := 48, pos := "law.go:510", after := #[{ on := 0, ground := Ground.data }, { on := 1, ground := Ground.data }], guard := none }) rfl (fun K hK => ?_) AllReadyH.nil
  have HH := hidden hHeld
  clear hHeld
  go_simp
  refine (C1.out _).mono ?_
  rintro e wn1 ⟨v1, rfl, hk, hb⟩
  have K1 := hidden hk
  clear hk
  have SN := hidden (HH.out.keep hb)
  clear HH hb
  go_wp2_with fail
  refine hK.out _ _ SN.out (fun hHeld1 => ?_)
  clear hK K SN
  refine wpAnyH_ready (rs := [5]) (by kernel_rfl) (by simp) ?_
  refine AllReadyH.cons (o := { dst := some 42, op := Op.call { callee := Callee.value (Operand.func 8), args := #[Operand.tmp 40, Operand.tmp 41], argTypes := #[39, 39] }, type := 52, pos := "law.go:510", after := #[{ on := 3, ground := Ground.data }, { on := 4, ground := Ground.data }, { on := 2, ground := Ground.chain }], guard := none }) rfl (fun K hK => ?_) AllReadyH.nil
  have HH := hidden hHeld1
  clear hHeld1
  go_simp
  refine (C2.out _).mono ?_
  rintro e wn2 ⟨v2, rfl, hk, hb⟩
  replace K1 := hidden (K1.out.keep hb)
  have K2 := hidden hk
  clear hk
  have SN := hidden (HH.out.keep hb)
  clear HH hb
  go_wp2_with fail
  refine hK.out _ _ SN.out (fun hHeld2 => ?_)
  clear hK K SN
  refine wpAnyH_ready (rs := [6]) (by kernel_rfl) (by simp) ?_
  refine AllReadyH.cons (o := { dst := some 43, op := Op.call { callee := Callee.value (Operand.func 6), args := #[Operand.tmp 39, Operand.tmp 42], argTypes := #[48, 52] }, type := 4, pos := "law.go:510", after := #[{ on := 2, ground := Ground.data }, { on := 5, ground := Ground.data }, { on := 5, ground := Ground.chain }], guard := none }) rfl (fun K hK => ?_) AllReadyH.nil
  have HH := hidden hHeld2
  clear hHeld2
  go_simp
  refine (D1.out _ _ _ (TT.out _ HH.out.bel) K1.out K2.out).mono ?_
  rintro e wn3 ⟨rfl, hb⟩
  have SN := hidden (HH.out.keep hb)
  clear HH hb K1 K2
  go_wp2_with fail
  refine hK.out _ _ SN.out (fun hHeld3 => ?_)
  clear hK K SN
  refine wpAnyH_take (i := 7) (oi := { dst := some 44, op := Op.move (Operand.tmp 43), type := 4, pos := "law.go:510", after := #[{ on := 6, ground := Ground.data }, { on := 6, ground := Ground.chain }], guard := none }) (v := .bool true) rfl (by kernel_rfl) (by kernel_rfl) (by kernel_rfl) (fun _ _ _ h => h) (Or.inl ⟨by rfl, fun w0 hSw => ?_⟩) hHeld3 ?_
  · (clear hSw; go_simp)
  simp only [Act.put, List.setIfInBounds_toArray, List.set_cons_zero, List.set_cons_succ]
  refine wpAnyH_take (i := 8) (oi := { dst := some 45, op := Op.load 29 (Operand.tmp 9), type := 29, pos := "law.go:510", after := #[{ on := 7, ground := Ground.guard }], guard := some (7, true) }) (v := .agg (([.int .u64 b.x0, .int .u64 b.x1, .int .u64 b.x2, .int .u64 b.x3, .int .u64 f.x0, .int .u64 f.x1, .int .u64 f.x2, .int .u64 f.x3, .int .u64 0, .int .u64 0, .int .u64 0, .int .u64 0, .slice none 0 0, .slice none 0 0] : List Value)).toArray) rfl (by kernel_rfl) (by kernel_rfl) (by kernel_rfl) (fun _ _ _ h => h) (yieldsIf_load_mid (by rfl) 29 _ rfl (T9) (0) rfl (([.int .u64 b.x0, .int .u64 b.x1, .int .u64 b.x2, .int .u64 b.x3, .int .u64 f.x0, .int .u64 f.x1, .int .u64 f.x2, .int .u64 f.x3, .int .u64 0, .int .u64 0, .int .u64 0, .int .u64 0, .slice none 0 0, .slice none 0 0] : List Value)) _ (fun w0 hSw => hSw.r9) UG.out rfl IG.out) hHeld3 ?_
  simp only [Act.put, List.setIfInBounds_toArray, List.set_cons_zero, List.set_cons_succ]
  refine wpAnyH_take (i := 9) (oi := { dst := some 46, op := Op.load 26 (Operand.tmp 11), type := 26, pos := "law.go:510", after := #[{ on := 7, ground := Ground.guard }], guard := some (7, true) }) (v := .agg (([.int .u64 p.x0, .int .u64 p.x1, .int .u64 p.x2, .int .u64 p.x3] : List Value)).toArray) rfl (by kernel_rfl) (by kernel_rfl) (by kernel_rfl) (fun _ _ _ h => h) (yieldsIf_load_mid (by rfl) 26 _ rfl (T11) (0) rfl (([.int .u64 p.x0, .int .u64 p.x1, .int .u64 p.x2, .int .u64 p.x3] : List Value)) _ (fun w0 hSw => hSw.r11) UL.out rfl IP.out) hHeld3 ?_
  simp only [Act.put, List.setIfInBounds_toArray, List.set_cons_zero, List.set_cons_succ]
  refine wpAnyH_take (i := 11) (oi := { dst := some 48, op := Op.load 44 (Operand.tmp 10), type := 44, pos := "law.go:510", after := #[{ on := 7, ground := Ground.guard }], guard := some (7, true) }) (v := .agg (s81 rb rf).toArray) rfl (by kernel_rfl) (by kernel_rfl) (by kernel_rfl) (fun _ _ _ h => h) (yieldsIf_load_mid (by rfl) 44 _ rfl (T10) (0) rfl (s81 rb rf) _ (fun w0 hSw => hSw.r10) US.out rfl IS.out) hHeld3 ?_
  simp only [Act.put, List.setIfInBounds_toArray, List.set_cons_zero, List.set_cons_succ]
  refine wpAnyH_take (i := 12) (oi := { dst := some 49, op := Op.load 39 (Operand.tmp 13), type := 39, pos := "law.go:510", after := #[{ on := 7, ground := Ground.guard }], guard := some (7, true) }) (v := .agg (el rp).toArray) rfl (by kernel_rfl) (by kernel_rfl) (by kernel_rfl) (fun _ _ _ h => h) (yieldsIf_load_mid (by rfl) 39 _ rfl (T13) (0) rfl (el rp) _ (fun w0 hSw => hSw.r13) UE.out rfl IEP.out) hHeld3 ?_
  simp only [Act.put, List.setIfInBounds_toArray, List.set_cons_zero, List.set_cons_succ]
  refine wpAnyH_ready (rs := [10]) (by kernel_rfl) (by simp) ?_
  refine AllReadyH.cons (o := { dst := some 47, op := Op.call { callee := Callee.value (Operand.func 9), args := #[Operand.tmp 45, Operand.tmp 46], argTypes := #[29, 26] }, type := 48, pos := "law.go:510", after := #[{ on := 8, ground := Ground.data }, { on := 9, ground := Ground.data }, { on := 7, ground := Ground.chain }, { on := 7, ground := Ground.guard }], guard := some (7, true) }) rfl (fun K hK => ?_) AllReadyH.nil
  have HH := hidden hHeld3
  clear hHeld3
  go_simp
  refine (C3.out _).mono ?_
  rintro e wn4 ⟨v3, rfl, hk, hb⟩
  have K1 := hidden hk
  clear hk
  have SN := hidden (HH.out.keep hb)
  clear HH hb
  go_wp2_with fail
  refine hK.out _ _ SN.out (fun hHeld4 => ?_)
  clear hK K SN
  refine wpAnyH_ready (rs := [13]) (by kernel_rfl) (by simp) ?_
  refine AllReadyH.cons (o := { dst := some 50, op := Op.call { callee := Callee.value (Operand.func 10), args := #[Operand.tmp 48, Operand.tmp 49], argTypes := #[44, 39] }, type := 52, pos := "law.go:510", after := #[{ on := 11, ground := Ground.data }, { on := 12, ground := Ground.data }, { on := 10, ground := Ground.chain }, { on := 7, ground := Ground.guard }], guard := some (7, true) }) rfl (fun K hK => ?_) AllReadyH.nil
  have HH := hidden hHeld4
  clear hHeld4
  go_simp
  refine (C4.out _).mono ?_
  rintro e wn5 ⟨v4, rfl, hk, hb⟩
  replace K1 := hidden (K1.out.keep hb)
  have K2 := hidden hk
  clear hk
  have SN := hidden (HH.out.keep hb)
  clear HH hb
  go_wp2_with fail
  refine hK.out _ _ SN.out (fun hHeld5 => ?_)
  clear hK K SN
  refine wpAnyH_ready (rs := [14]) (by kernel_rfl) (by simp) ?_
  refine AllReadyH.cons (o := { dst := some 51, op := Op.call { callee := Callee.value (Operand.func 6), args := #[Operand.tmp 47, Operand.tmp 50], argTypes := #[48, 52] }, type := 4, pos := "law.go:510", after := #[{ on := 10, ground := Ground.data }, { on := 13, ground := Ground.data }, { on := 13, ground := Ground.chain }, { on := 7, ground := Ground.guard }], guard := some (7, true) }) rfl (fun K hK => ?_) AllReadyH.nil
  have HH := hidden hHeld5
  clear hHeld5
  go_simp
  refine (D2.out _ _ _ (TT.out _ HH.out.bel) K1.out K2.out).mono ?_
  rintro e wn6 ⟨rfl, hb⟩
  have SN := hidden (HH.out.keep hb)
  clear HH hb K1 K2
  go_wp2_with fail
  refine hK.out _ _ SN.out (fun hHeld6 => ?_)
  clear hK K SN
  refine wpAnyH_take (i := 15) (oi := { dst := some 52, op := Op.pick (Operand.tmp 44) (Operand.tmp 51) (Operand.const (Value.bool false)), type := 4, pos := "law.go:510", after := #[{ on := 7, ground := Ground.data }, { on := 14, ground := Ground.data }], guard := none }) (v := .bool true) rfl (by kernel_rfl) (by kernel_rfl) (by kernel_rfl) (fun _ _ _ h => h) (Or.inl ⟨by rfl, fun w0 hSw => ?_⟩) hHeld6 ?_
  · (clear hSw; go_simp)
  simp only [Act.put, List.setIfInBounds_toArray, List.set_cons_zero, List.set_cons_succ]
  refine wpAnyH_take (i := 16) (oi := { dst := some 53, op := Op.move (Operand.tmp 52), type := 4, pos := "law.go:510", after := #[{ on := 15, ground := Ground.data }, { on := 14, ground := Ground.chain }], guard := none }) (v := .bool true) rfl (by kernel_rfl) (by kernel_rfl) (by kernel_rfl) (fun _ _ _ h => h) (Or.inl ⟨by rfl, fun w0 hSw => ?_⟩) hHeld6 ?_
  · (clear hSw; go_simp)
  simp only [Act.put, List.setIfInBounds_toArray, List.set_cons_zero, List.set_cons_succ]
  refine wpAnyH_take (i := 17) (oi := { dst := some 54, op := Op.load 29 (Operand.tmp 9), type := 29, pos := "law.go:510", after := #[{ on := 16, ground := Ground.guard }], guard := some (16, true) }) (v := .agg (([.int .u64 b.x0, .int .u64 b.x1, .int .u64 b.x2, .int .u64 b.x3, .int .u64 f.x0, .int .u64 f.x1, .int .u64 f.x2, .int .u64 f.x3, .int .u64 0, .int .u64 0, .int .u64 0, .int .u64 0, .slice none 0 0, .slice none 0 0] : List Value)).toArray) rfl (by kernel_rfl) (by kernel_rfl) (by kernel_rfl) (fun _ _ _ h => h) (yieldsIf_load_mid (by rfl) 29 _ rfl (T9) (0) rfl (([.int .u64 b.x0, .int .u64 b.x1, .int .u64 b.x2, .int .u64 b.x3, .int .u64 f.x0, .int .u64 f.x1, .int .u64 f.x2, .int .u64 f.x3, .int .u64 0, .int .u64 0, .int .u64 0, .int .u64 0, .slice none 0 0, .slice none 0 0] : List Value)) _ (fun w0 hSw => hSw.r9) UG.out rfl IG.out) hHeld6 ?_
  simp only [Act.put, List.setIfInBounds_toArray, List.set_cons_zero, List.set_cons_succ]
  refine wpAnyH_take (i := 18) (oi := { dst := some 55, op := Op.load 26 (Operand.tmp 11), type := 26, pos := "law.go:510", after := #[{ on := 16, ground := Ground.guard }], guard := some (16, true) }) (v := .agg (([.int .u64 p.x0, .int .u64 p.x1, .int .u64 p.x2, .int .u64 p.x3] : List Value)).toArray) rfl (by kernel_rfl) (by kernel_rfl) (by kernel_rfl) (fun _ _ _ h => h) (yieldsIf_load_mid (by rfl) 26 _ rfl (T11) (0) rfl (([.int .u64 p.x0, .int .u64 p.x1, .int .u64 p.x2, .int .u64 p.x3] : List Value)) _ (fun w0 hSw => hSw.r11) UL.out rfl IP.out) hHeld6 ?_
  simp only [Act.put, List.setIfInBounds_toArray, List.set_cons_zero, List.set_cons_succ]
  refine wpAnyH_take (i := 19) (oi := { dst := some 56, op := Op.load 26 (Operand.tmp 12), type := 26, pos := "law.go:510", after := #[{ on := 16, ground := Ground.guard }], guard := some (16, true) }) (v := .agg (([.int .u64 q.x0, .int .u64 q.x1, .int .u64 q.x2, .int .u64 q.x3] : List Value)).toArray) rfl (by kernel_rfl) (by kernel_rfl) (by kernel_rfl) (fun _ _ _ h => h) (yieldsIf_load_mid (by rfl) 26 _ rfl (T12) (0) rfl (([.int .u64 q.x0, .int .u64 q.x1, .int .u64 q.x2, .int .u64 q.x3] : List Value)) _ (fun w0 hSw => hSw.r12) UL.out rfl IQ.out) hHeld6 ?_
  simp only [Act.put, List.setIfInBounds_toArray, List.set_cons_zero, List.set_cons_succ]
  refine wpAnyH_take (i := 21) (oi := { dst := some 58, op := Op.load 44 (Operand.tmp 10), type := 44, pos := "law.go:510", after := #[{ on := 16, ground := Ground.guard }], guard := some (16, true) }) (v := .agg (s81 rb rf).toArray) rfl (by kernel_rfl) (by kernel_rfl) (by kernel_rfl) (fun _ _ _ h => h) (yieldsIf_load_mid (by rfl) 44 _ rfl (T10) (0) rfl (s81 rb rf) _ (fun w0 hSw => hSw.r10) US.out rfl IS.out) hHeld6 ?_
  simp only [Act.put, List.setIfInBounds_toArray, List.set_cons_zero, List.set_cons_succ]
  refine wpAnyH_take (i := 22) (oi := { dst := some 59, op := Op.load 39 (Operand.tmp 13), type := 39, pos := "law.go:510", after := #[{ on := 16, ground := Ground.guard }], guard := some (16, true) }) (v := .agg (el rp).toArray) rfl (by kernel_rfl) (by kernel_rfl) (by kernel_rfl) (fun _ _ _ h => h) (yieldsIf_load_mid (by rfl) 39 _ rfl (T13) (0) rfl (el rp) _ (fun w0 hSw => hSw.r13) UE.out rfl IEP.out) hHeld6 ?_
  simp only [Act.put, List.setIfInBounds_toArray, List.set_cons_zero, List.set_cons_succ]
  refine wpAnyH_take (i := 23) (oi := { dst := some 60, op := Op.load 39 (Operand.tmp 14), type := 39, pos := "law.go:510", after := #[{ on := 16, ground := Ground.guard }], guard := some (16, true) }) (v := .agg (el rq).toArray) rfl (by kernel_rfl) (by kernel_rfl) (by kernel_rfl) (fun _ _ _ h => h) (yieldsIf_load_mid (by rfl) 39 _ rfl (T14) (0) rfl (el rq) _ (fun w0 hSw => hSw.r14) UE.out rfl IEQ.out) hHeld6 ?_
  simp only [Act.put, List.setIfInBounds_toArray, List.set_cons_zero, List.set_cons_succ]
  refine wpAnyH_ready (rs := [20]) (by kernel_rfl) (by simp) ?_
  refine AllReadyH.cons (o := { dst := some 57, op := Op.call { callee := Callee.value (Operand.func 11), args := #[Operand.tmp 54, Operand.tmp 55, Operand.tmp 56], argTypes := #[29, 26, 26] }, type := 48, pos := "law.go:510", after := #[{ on := 17, ground := Ground.data }, { on := 18, ground := Ground.data }, { on := 19, ground := Ground.data }, { on := 16, ground := Ground.chain }, { on := 16, ground := Ground.guard }], guard := some (16, true) }) rfl (fun K hK => ?_) AllReadyH.nil
  have HH := hidden hHeld6
  clear hHeld6
  go_simp
  refine (C5.out _).mono ?_
  rintro e wn7 ⟨v5, rfl, hk, hb⟩
  have K1 := hidden hk
  clear hk
  have SN := hidden (HH.out.keep hb)
  clear HH hb
  go_wp2_with fail
  refine hK.out _ _ SN.out (fun hHeld7 => ?_)
  clear hK K SN
  refine wpAnyH_ready (rs := [24]) (by kernel_rfl) (by simp) ?_
  refine AllReadyH.cons (o := { dst := some 61, op := Op.call { callee := Callee.value (Operand.func 12), args := #[Operand.tmp 58, Operand.tmp 59, Operand.tmp 60], argTypes := #[44, 39, 39] }, type := 52, pos := "law.go:510", after := #[{ on := 21, ground := Ground.data }, { on := 22, ground := Ground.data }, { on := 23, ground := Ground.data }, { on := 20, ground := Ground.chain }, { on := 16, ground := Ground.guard }], guard := some (16, true) }) rfl (fun K hK => ?_) AllReadyH.nil
  have HH := hidden hHeld7
  clear hHeld7
  go_simp
  refine (C6.out _).mono ?_
  rintro e wn8 ⟨v6, rfl, hk, hb⟩
  replace K1 := hidden (K1.out.keep hb)
  have K2 := hidden hk
  clear hk
  have SN := hidden (HH.out.keep hb)
  clear HH hb
  go_wp2_with fail
  refine hK.out _ _ SN.out (fun hHeld8 => ?_)
  clear hK K SN
  refine wpAnyH_ready (rs := [25]) (by kernel_rfl) (by simp) ?_
  refine AllReadyH.cons (o := { dst := some 62, op := Op.call { callee := Callee.value (Operand.func 6), args := #[Operand.tmp 57, Operand.tmp 61], argTypes := #[48, 52] }, type := 4, pos := "law.go:510", after := #[{ on := 20, ground := Ground.data }, { on := 24, ground := Ground.data }, { on := 24, ground := Ground.chain }, { on := 16, ground := Ground.guard }], guard := some (16, true) }) rfl (fun K hK => ?_) AllReadyH.nil
  have HH := hidden hHeld8
  clear hHeld8
  go_simp
  refine (D3.out _ _ _ (TT.out _ HH.out.bel) K1.out K2.out).mono ?_
  rintro e wn9 ⟨rfl, hb⟩
  have SN := hidden (HH.out.keep hb)
  clear HH hb K1 K2
  go_wp2_with fail
  refine hK.out _ _ SN.out (fun hHeld9 => ?_)
  clear hK K SN
  refine wpAnyH_take (i := 26) (oi := { dst := some 63, op := Op.pick (Operand.tmp 53) (Operand.tmp 62) (Operand.const (Value.bool false)), type := 4, pos := "law.go:510", after := #[{ on := 16, ground := Ground.data }, { on := 25, ground := Ground.data }], guard := none }) (v := .bool true) rfl (by kernel_rfl) (by kernel_rfl) (by kernel_rfl) (fun _ _ _ h => h) (Or.inl ⟨by rfl, fun w0 hSw => ?_⟩) hHeld9 ?_
  · (clear hSw; go_simp)
  simp only [Act.put, List.setIfInBounds_toArray, List.set_cons_zero, List.set_cons_succ]
  refine wpAnyH_ready (rs := [27]) (by kernel_rfl) (by simp) ?_
  refine AllReadyH.cons (o := { dst := some 8, op := Op.assign (Operand.tmp 63), type := 4, pos := "law.go:510", after := #[{ on := 26, ground := Ground.data }, { on := 25, ground := Ground.chain }, { on := 0, ground := Ground.phase }, { on := 1, ground := Ground.phase }, { on := 2, ground := Ground.phase }, { on := 3, ground := Ground.phase }, { on := 4, ground := Ground.phase }, { on := 5, ground := Ground.phase }, { on := 6, ground := Ground.phase }, { on := 7, ground := Ground.phase }, { on := 8, ground := Ground.phase }, { on := 9, ground := Ground.phase }, { on := 10, ground := Ground.phase }, { on := 11, ground := Ground.phase }, { on := 12, ground := Ground.phase }, { on := 13, ground := Ground.phase }, { on := 14, ground := Ground.phase }, { on := 15, ground := Ground.phase }, { on := 16, ground := Ground.phase }, { on := 17, ground := Ground.phase }, { on := 18, ground := Ground.phase }, { on := 19, ground := Ground.phase }, { on := 20, ground := Ground.phase }, { on := 21, ground := Ground.phase }, { on := 22, ground := Ground.phase }, { on := 23, ground := Ground.phase }, { on := 24, ground := Ground.phase }, { on := 25, ground := Ground.phase }, { on := 26, ground := Ground.phase }], guard := none }) rfl (fun K hK => ?_) AllReadyH.nil
  have HH := hidden hHeld9
  clear hHeld9
  go_wp2_with fail
  refine hK.out _ _ HH.out (fun _ => ?_)
  refine wpAnyH_done (by kernel_rfl) ?_ _
  refine NoPanic.normal ?_
  exact HQ.out v1 v2 v3 v4 v5 v6 _ HH.out.bel
end Go.Proofs.YtpldkolphmbahaaDoor
