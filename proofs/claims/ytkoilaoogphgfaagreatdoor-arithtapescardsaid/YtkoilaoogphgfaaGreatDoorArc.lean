import Derived.Test.YtkoilaoogphgfaaGreatDoorAz
namespace Go.Proofs.YtkoilaoogphgfaaGreatDoor
open Go.RowKit
set_option linter.unusedVariables false
set_option linter.unusedSimpArgs false
open Cm (Wr Tm co bf lf ins Eqm)
namespace Ci
set_option maxRecDepth 100000
set_option maxHeartbeats 8000000
theorem tz34_one : tz34.toArray.all (·.oneCell') = true := t34_one _ _ _ _ _ _ _
theorem rws_growC {w w' : World} {b n c : Nat} {g : Nat → E4} (h : Rws w b n g) (hg : w.grownBy w' (some c)) (hne : b ≠ c) : Rws w' b n g :=
 by
 have hb := hg.block b h.lt (fun e => hne (Option.some.inj e))
 have k : ∀ j, w'.cell? ⟨b, j, none⟩ = w.cell? ⟨b, j, none⟩ := fun j => World.cell?_of_block hb
 exact ⟨fun j hj => (k _).trans (h.c0 j hj), fun j hj => (k _).trans (h.c1 j hj), fun j hj => (k _).trans (h.c2 j hj), fun j hj => (k _).trans (h.c3 j hj), fun j hj => (World.frozen?_of_block hb).trans (h.fr j hj), Nat.lt_of_lt_of_le h.lt hg.size⟩
theorem range_set32 {w : World} {T : Nat} {a : List Value} {L R x : Value} (ha : a.length = 32) (h : w.rangeAt T 0 (a ++ [L, R])) (hc : w.cell? ⟨T, 32, none⟩ = some L) : (w.setCell ⟨T, 32, none⟩ x).rangeAt T 0 (a ++ [x, R]) := fun j v hv => by
 by_cases hj : j = 32
 ·subst hj
  rw [List.getElem?_append_right (by omega), ha] at hv
  simp only [Nat.sub_self, List.getElem?_cons_zero, Option.some.injEq] at hv
  subst hv
  exact World.cell?_setCell_same w ⟨T, 32, none⟩ x hc
 ·have hv2 : (a ++ [L, R])[j]? = some v := by
   by_cases hl : j < 32
   ·rw [List.getElem?_append_left (by omega)] at hv ⊢; exact hv
   ·rw [List.getElem?_append_right (by omega), ha] at hv ⊢
    obtain ⟨k, rfl⟩ : ∃ k, j = 32 + (k + 1) := ⟨j - 33, by omega⟩
    rw [show 32 + (k + 1) - 32 = k + 1 by omega] at hv ⊢
    simpa using hv
  have := h j v hv2
  rw [World.cell?_setCell_other _ _ _ _ (fun e => by simp at e; try omega)]
  exact this
theorem range_set33 {w : World} {T : Nat} {a : List Value} {L R x : Value} (ha : a.length = 32) (h : w.rangeAt T 0 (a ++ [L, R])) (hc : w.cell? ⟨T, 33, none⟩ = some R) : (w.setCell ⟨T, 33, none⟩ x).rangeAt T 0 (a ++ [L, x]) := fun j v hv => by
 by_cases hj : j = 33
 ·subst hj
  rw [List.getElem?_append_right (by omega), ha] at hv
  simp only [List.getElem?_cons_succ, List.getElem?_cons_zero, Option.some.injEq, show 33 - 32 = 0 + 1 from rfl] at hv
  subst hv
  exact World.cell?_setCell_same w ⟨T, 33, none⟩ x hc
 ·have hv2 : (a ++ [L, R])[j]? = some v := by
   by_cases hl : j < 32
   ·rw [List.getElem?_append_left (by omega)] at hv ⊢; exact hv
   ·rw [List.getElem?_append_right (by omega), ha] at hv ⊢
    by_cases h0 : j = 32
    ·subst h0; simpa using hv
    ·obtain ⟨k, rfl⟩ : ∃ k, j = 32 + (k + 2) := ⟨j - 34, by omega⟩
     rw [show 32 + (k + 2) - 32 = k + 2 by omega] at hv
     simp at hv
  have := h j v hv2
  rw [World.cell?_setCell_other _ _ _ _ (fun e => by simp at e; try omega)]
  exact this
theorem mw_far {w0 : World} {L : List (Nat × List Value)} {w w' : World} {T : Nat} (h : Mw w0 L w) (hg : w.grownBy w' (some T)) (hT : w0.heap.size ≤ T) (hL : ∀ p ∈ L, p.1 ≠ T) : Mw w0 L w' := by
 refine ⟨h.bel.grown hg h.bel.size (fun k hk => by obtain rfl := Option.some.inj hk; exact hT), fun p hp => ?_⟩
 obtain ⟨h1, h2, h3, h4⟩ := h.r p hp
 have hb := hg.block p.1 h4 (fun e => hL p hp (Option.some.inj e))
 refine ⟨fun j v hv => (World.cell?_of_block hb).trans (h1 j v hv), fun j hj => ?_, h3, Nat.lt_of_lt_of_le h4 hg.size⟩
 obtain ⟨k1, k2⟩ := h2 j hj
 exact ⟨by rw [World.cell?_of_block hb]; exact k1, (World.frozen?_of_block hb).trans k2⟩
theorem there_setC {w : World} {b o n : Nat} (h : w.there b o n) (a : Addr) (v : Value) : (w.setCell a v).there b o n := fun j hj => by
 obtain ⟨h1, h2⟩ := h j hj
 refine ⟨?_, by rw [World.frozen?_setCell]; exact h2⟩
 obtain ⟨u, hu⟩ := Option.isSome_iff_exists.1 h1
 obtain ⟨v', hv⟩ := cell?_setCell_some (p := a) (x := v) hu
 rw [hv]
 rfl
theorem readTape_none (v : Value) (P : Option Addr) (len cap : Nat) (w : World) (h : ∀ y, Below w.heap.size w y → Calls Tryz.prog 18 #[v] y fun e w' => e = .returned (.tuple #[.agg #[.pointer none, .int .i64 0, .int .i64 0], .int .i64 1]) ∧ Below y.heap.size y w') : Calls Tryz.prog 5 #[v, .slice P len cap] w fun e w' => e = .returned (.tuple #[.agg tz34.toArray, .int .i64 1]) ∧ Below w.heap.size w w' := by
 have C1 := hidden h
 clear h
 have M1 := (Mw.start w).new tz34 35
 have MM := hidden M1
 clear M1
 have UP : Hid (Tryz.prog.underlying 35 = _) := hidden Tryz.underlying35
 have I2 : Hid ((Tryz.prog.info? 35).map (·.size) = some tz34.toArray.size) := hidden ptinfo
 have I1 : Hid ((Tryz.prog.info? 35).map (·.size) = some tz34.length) := hidden ptinfo
 have O2 := hidden tz34_one
 have LN : Hid (tz34.length = 34) := hidden rfl
 generalize hZ : tz34 = zp at MM I2 I1 O2 LN ⊢
 have HZ := hidden hZ
 clear hZ
 have ALC : Hid (∀ {ops : Array Oper} {rest : List Oper} {o : Oper} {a : Act} {w : World} {Q : Exit → Act → World → Prop}, o.guard = none → o.op = .alloc 35 → wpList Tryz.prog ops Q rest (a.put o.dst (.pointer (some ⟨w.heap.size, 0, none⟩))) (w.alloc (.cells zp.toArray 35)) → wpList Tryz.prog ops Q (o :: rest) a w) := hidden (by rw [← HZ.out]; exact wpList_ptalloc)
 have BUI : Hid (∀ {ops : Array Oper} {rest : List Oper} {o : Oper} {a : Act} {w : World} {Q : Exit → Act → World → Prop}, o.guard = none → o.op = .build 35 #[] → wpList Tryz.prog ops Q rest (a.put o.dst (.agg zp.toArray)) w → wpList Tryz.prog ops Q (o :: rest) a w) := hidden (by rw [← HZ.out]; exact wpList_ptbuild)
 go_enter Tryz.func5, Tryz.ntmps5
 go_upto_region 1 with (first | refine ALC.out rfl rfl ?_)
 generalize w.alloc (.cells zp.toArray 35) = w1 at *
 have C2 := hidden (C1.out w1 MM.out.bel)
 clear C1
 go_upto_region 2 with (go_at_call 18; refine C2.out.mono ?_; rintro e w2 ⟨rfl, hb⟩; have M2 := hidden (MM.out.keep (bl_trans hb (bl_alloc w2 (.cells #[.pointer none, .int .i64 0, .int .i64 0] 81)))); clear hb MM)
 generalize w2.alloc (.cells #[.pointer none, .int .i64 0, .int .i64 0] 81) = w3 at *
 go_wp2_with (first | refine BUI.out rfl rfl ?_ | (have TH := hidden (M2.out.ther zp (c := w.heap.size) (o := zp) (by simp) rfl); refine wpList_storeL rfl 35 _ _ rfl rfl w.heap.size 0 zp (by rfl) (by rfl) TH.out I2.out O2.out ?_; have MF := hidden (M2.out.set (M := []) zp (c := w.heap.size) (o := zp) (by simp) rfl (by simp)); clear M2; generalize World.setCells _ w.heap.size 0 zp = wf at *))
 have LD := hidden (MF.out.var (c := w.heap.size) (ds := zp) (by simp) UP.out rfl I1.out)
 refine bodyPost_ret (v := .tuple #[.agg zp.toArray, .int .i64 1]) (results_tupM Tryz.results5 _ _ _ _ _ _ (by rfl) (by rfl) LD.out) rfl ⟨rfl, MF.out.bel⟩
theorem readTape_short (v : Value) (n r : Nat) (hn : n ≤ 1024) (P : Option Addr) (len cap : Nat) (hl : len < 64 * (2 * n + 8)) (w : World) (h : ∀ y, Below w.heap.size w y → Calls Tryz.prog 18 #[v] y fun e w' => ∃ t2, e = .returned (.tuple #[.agg #[.pointer (some ⟨t2, 0, none⟩), .int .i64 (n : Int), .int .i64 (r : Int)], .int .i64 0]) ∧ Below y.heap.size y w') : Calls Tryz.prog 5 #[v, .slice P len cap] w fun e w' => e = .returned (.tuple #[.agg tz34.toArray, .int .i64 5]) ∧ Below w.heap.size w w' := by
 have C1 := hidden h
 have TT := hidden (fun w => Tape_short P len cap (2 * n + 8) w (by omega) hl)
 have v1 : IntKind.i64.wrap (2 * (n : Int)) = 2 * (n : Int) := IntWalk.i64_in _ (by omega)
 have v2 : IntKind.i64.wrap (8 + 2 * (n : Int)) = ((2 * n + 8 : Nat) : Int) := by rw [IntWalk.i64_in _ (by omega)]; omega
 clear h hl hn
 generalize 2 * n + 8 = m at *
 have M1 := (Mw.start w).new tz34 35
 have MM := hidden M1
 clear M1
 have UP : Hid (Tryz.prog.underlying 35 = _) := hidden Tryz.underlying35
 have I2 : Hid ((Tryz.prog.info? 35).map (·.size) = some tz34.toArray.size) := hidden ptinfo
 have I1 : Hid ((Tryz.prog.info? 35).map (·.size) = some tz34.length) := hidden ptinfo
 have O2 := hidden tz34_one
 have LN : Hid (tz34.length = 34) := hidden rfl
 generalize hZ : tz34 = zp at MM I2 I1 O2 LN ⊢
 have HZ := hidden hZ
 clear hZ
 have ALC : Hid (∀ {ops : Array Oper} {rest : List Oper} {o : Oper} {a : Act} {w : World} {Q : Exit → Act → World → Prop}, o.guard = none → o.op = .alloc 35 → wpList Tryz.prog ops Q rest (a.put o.dst (.pointer (some ⟨w.heap.size, 0, none⟩))) (w.alloc (.cells zp.toArray 35)) → wpList Tryz.prog ops Q (o :: rest) a w) := hidden (by rw [← HZ.out]; exact wpList_ptalloc)
 have BUI : Hid (∀ {ops : Array Oper} {rest : List Oper} {o : Oper} {a : Act} {w : World} {Q : Exit → Act → World → Prop}, o.guard = none → o.op = .build 35 #[] → wpList Tryz.prog ops Q rest (a.put o.dst (.agg zp.toArray)) w → wpList Tryz.prog ops Q (o :: rest) a w) := hidden (by rw [← HZ.out]; exact wpList_ptbuild)
 go_enter Tryz.func5, Tryz.ntmps5
 go_upto_region 1 with (first | refine ALC.out rfl rfl ?_)
 generalize w.alloc (.cells zp.toArray 35) = w1 at *
 have C2 := hidden (C1.out w1 MM.out.bel)
 clear C1
 go_upto_region 2 with (go_at_call 18; refine C2.out.mono ?_; rintro e w2 ⟨t2, rfl, hb⟩; have M2 := hidden (MM.out.keep (bl_trans hb (bl_alloc w2 (.cells #[.pointer (some ⟨t2, 0, none⟩), .int .i64 (n : Int), .int .i64 (r : Int)] 81)))); have s1 : (w2.alloc (.cells #[.pointer (some ⟨t2, 0, none⟩), .int .i64 (n : Int), .int .i64 (r : Int)] 81)).cell? ⟨w2.heap.size, 1, none⟩ = some (.int .i64 (n : Int)) := (by go_simp); have LW : Hid (w.heap.size < w2.heap.size) := hidden (by have := MM.out.r (w.heap.size, zp) (by simp); have h1 := this.2.2.2; have h2 := hb.size; omega); clear hb MM)
 have TS : Hid (w2.heap.size < (w2.alloc (.cells #[.pointer (some ⟨t2, 0, none⟩), .int .i64 (n : Int), .int .i64 (r : Int)] 81)).heap.size) := hidden (by rw [World.size_alloc]; omega)
 generalize w2.alloc (.cells #[.pointer (some ⟨t2, 0, none⟩), .int .i64 (n : Int), .int .i64 (r : Int)] 81) = w3 at *
 generalize w2.heap.size = t3 at *
 clear C2
 go_wp2_with (first | (go_at_call 19; refine (TT.out _).mono ?_; rintro e w4 ⟨rfl, hb⟩; have M4 := hidden (M2.out.keep hb); clear hb M2 s1) | refine BUI.out rfl rfl ?_ | (have TH := hidden (M4.out.ther zp (c := w.heap.size) (o := zp) (by simp) rfl); refine wpList_storeL rfl 35 _ _ rfl rfl w.heap.size 0 zp (by rfl) (by rfl) TH.out I2.out O2.out ?_; have MF := hidden (M4.out.set (M := []) zp (c := w.heap.size) (o := zp) (by simp) rfl (by simp)); clear M4; generalize World.setCells _ w.heap.size 0 zp = wf at *))
 have LD := hidden (MF.out.var (c := w.heap.size) (ds := zp) (by simp) UP.out rfl I1.out)
 refine bodyPost_ret (v := .tuple #[.agg zp.toArray, .int .i64 5]) (results_tupM Tryz.results5 _ _ _ _ _ _ (by rfl) (by rfl) LD.out) rfl ⟨rfl, MF.out.bel⟩
theorem readTape_in (v : Value) (n r : Nat) (hn : n ≤ 1024) (h1 : 0 < n) (sb so len cap : Nat) (f : Nat → Int) (hl : 64 * (2 * n + 8) ≤ len) (hlen : len < 9223372036854775807) (hcap : len ≤ cap) (w : World) (hT : Tb w) (hS : Bs w sb so len f) (h : ∀ y, Below w.heap.size w y → Calls Tryz.prog 18 #[v] y fun e w' => ∃ t2, e = .returned (.tuple #[.agg #[.pointer (some ⟨t2, 0, none⟩), .int .i64 (n : Int), .int .i64 (r : Int)], .int .i64 0]) ∧ Below y.heap.size y w') : Calls Tryz.prog 5 #[v, .slice (some ⟨sb, so, none⟩) len cap] w fun e w' => ∃ q1 d1 q2 d2 : Nat, e = .returned (.tuple #[.agg (t34 (tp f) (.slice (some ⟨q1, 0, none⟩) n d1) (.slice (some ⟨q2, 0, none⟩) n d2)).toArray, .int .i64 0]) ∧ w.heap.size ≤ q1 ∧ w.heap.size ≤ q2 ∧ Rws w' q1 n (fun k => tp f (8 + k)) ∧ Rws w' q2 n (fun k => tp f (n + 8 + k)) ∧ Below w.heap.size w w' := by
 have C1 := hidden h
 have TT : Hid (∀ x, Below w.heap.size w x → Calls Tryz.prog 19 #[.slice (some ⟨sb, so, none⟩) len cap, .int .i64 ((2 * n + 8 : Nat) : Int)] x fun e w' => ∃ b : Nat, e = .returned (.tuple #[.slice (some ⟨b, 0, none⟩) (2 * n + 8) (2 * n + 8), .int .i64 0]) ∧ x.heap.size ≤ b ∧ Rws w' b (2 * n + 8) (tp f) ∧ Below x.heap.size x w') := hidden (fun x hx => Tape_in _ sb so len cap (2 * n + 8) f x (fun _ => rfl) (hT.keep hx) (by omega) hl hlen hcap (fun _ => hS.keep hx))
 have v1 : IntKind.i64.wrap (2 * (n : Int)) = 2 * (n : Int) := IntWalk.i64_in _ (by omega)
 have v2 : IntKind.i64.wrap (8 + 2 * (n : Int)) = ((2 * n + 8 : Nat) : Int) := by rw [IntWalk.i64_in _ (by omega)]; omega
 have HN := hidden hn
 have H1 := hidden h1
 clear h hl hn hlen hcap hT hS h1
 obtain ⟨m, hm⟩ : ∃ m, 2 * n + 8 = m := ⟨_, rfl⟩
 rw [hm] at TT v2
 have HM := hidden hm
 clear hm
 have M1 := (Mw.start w).new tz34 35
 have MM := hidden M1
 clear M1
 have UP : Hid (Tryz.prog.underlying 35 = _) := hidden Tryz.underlying35
 have I2 : Hid ((Tryz.prog.info? 35).map (·.size) = some tz34.toArray.size) := hidden ptinfo
 have I1 : Hid ((Tryz.prog.info? 35).map (·.size) = some tz34.length) := hidden ptinfo
 have O2 := hidden tz34_one
 have LN : Hid (tz34.length = 34) := hidden rfl
 generalize hZ : tz34 = zp at MM I2 I1 O2 LN ⊢
 have HZ := hidden hZ
 clear hZ
 have ALC : Hid (∀ {ops : Array Oper} {rest : List Oper} {o : Oper} {a : Act} {w : World} {Q : Exit → Act → World → Prop}, o.guard = none → o.op = .alloc 35 → wpList Tryz.prog ops Q rest (a.put o.dst (.pointer (some ⟨w.heap.size, 0, none⟩))) (w.alloc (.cells zp.toArray 35)) → wpList Tryz.prog ops Q (o :: rest) a w) := hidden (by rw [← HZ.out]; exact wpList_ptalloc)
 have BUI : Hid (∀ {ops : Array Oper} {rest : List Oper} {o : Oper} {a : Act} {w : World} {Q : Exit → Act → World → Prop}, o.guard = none → o.op = .build 35 #[] → wpList Tryz.prog ops Q rest (a.put o.dst (.agg zp.toArray)) w → wpList Tryz.prog ops Q (o :: rest) a w) := hidden (by rw [← HZ.out]; exact wpList_ptbuild)
 go_enter Tryz.func5, Tryz.ntmps5
 go_upto_region 1 with (first | refine ALC.out rfl rfl ?_)
 generalize w.alloc (.cells zp.toArray 35) = w1 at *
 have C2 := hidden (C1.out w1 MM.out.bel)
 clear C1
 go_upto_region 2 with (go_at_call 18; refine C2.out.mono ?_; rintro e w2 ⟨t2, rfl, hb⟩; have M2 := hidden (MM.out.keep (bl_trans hb (bl_alloc w2 (.cells #[.pointer (some ⟨t2, 0, none⟩), .int .i64 (n : Int), .int .i64 (r : Int)] 81)))); have s1 : (w2.alloc (.cells #[.pointer (some ⟨t2, 0, none⟩), .int .i64 (n : Int), .int .i64 (r : Int)] 81)).cell? ⟨w2.heap.size, 1, none⟩ = some (.int .i64 (n : Int)) := (by go_simp); have LW : Hid (w.heap.size < w2.heap.size) := hidden (by have := MM.out.r (w.heap.size, zp) (by simp); have h1 := this.2.2.2; have h2 := hb.size; omega); clear hb MM)
 have TS : Hid (w2.heap.size < (w2.alloc (.cells #[.pointer (some ⟨t2, 0, none⟩), .int .i64 (n : Int), .int .i64 (r : Int)] 81)).heap.size) := hidden (by rw [World.size_alloc]; omega)
 generalize w2.alloc (.cells #[.pointer (some ⟨t2, 0, none⟩), .int .i64 (n : Int), .int .i64 (r : Int)] 81) = w3 at *
 generalize w2.heap.size = t3 at *
 clear C2
 have BL3 := hidden M2.out.bel
 go_upto_region 6 with (first | (go_at_call 19; refine (TT.out _ BL3.out).mono ?_; rintro e w4 ⟨b, rfl, hg, hr, hb⟩; have RW := hidden hr; have GE := hidden hg; have M4 := hidden (M2.out.keep hb); have BB := hidden hb; have s2 := cell_keep s1 hb; clear hb hr hg M2 s1))
 clear TT v1 v2
 go_upto_region 8 with fail
 have hmm := HM.out
 have hnn := HN.out
 have h1 := H1.out
 have c00 : w4.cell? ⟨b, 0, none⟩ = some (.int .u64 (tp f 0).x0) := by have := RW.out.c0 0 (by omega); simpa using this
 have c01 : w4.cell? ⟨b, 1, none⟩ = some (.int .u64 (tp f 0).x1) := by have := RW.out.c1 0 (by omega); simpa using this
 have c02 : w4.cell? ⟨b, 2, none⟩ = some (.int .u64 (tp f 0).x2) := by have := RW.out.c2 0 (by omega); simpa using this
 have c03 : w4.cell? ⟨b, 3, none⟩ = some (.int .u64 (tp f 0).x3) := by have := RW.out.c3 0 (by omega); simpa using this
 have c10 : w4.cell? ⟨b, 4, none⟩ = some (.int .u64 (tp f 1).x0) := by have := RW.out.c0 1 (by omega); simpa using this
 have c11 : w4.cell? ⟨b, 5, none⟩ = some (.int .u64 (tp f 1).x1) := by have := RW.out.c1 1 (by omega); simpa using this
 have c12 : w4.cell? ⟨b, 6, none⟩ = some (.int .u64 (tp f 1).x2) := by have := RW.out.c2 1 (by omega); simpa using this
 have c13 : w4.cell? ⟨b, 7, none⟩ = some (.int .u64 (tp f 1).x3) := by have := RW.out.c3 1 (by omega); simpa using this
 have c20 : w4.cell? ⟨b, 8, none⟩ = some (.int .u64 (tp f 2).x0) := by have := RW.out.c0 2 (by omega); simpa using this
 have c21 : w4.cell? ⟨b, 9, none⟩ = some (.int .u64 (tp f 2).x1) := by have := RW.out.c1 2 (by omega); simpa using this
 have c22 : w4.cell? ⟨b, 10, none⟩ = some (.int .u64 (tp f 2).x2) := by have := RW.out.c2 2 (by omega); simpa using this
 have c23 : w4.cell? ⟨b, 11, none⟩ = some (.int .u64 (tp f 2).x3) := by have := RW.out.c3 2 (by omega); simpa using this
 have c30 : w4.cell? ⟨b, 12, none⟩ = some (.int .u64 (tp f 3).x0) := by have := RW.out.c0 3 (by omega); simpa using this
 have c31 : w4.cell? ⟨b, 13, none⟩ = some (.int .u64 (tp f 3).x1) := by have := RW.out.c1 3 (by omega); simpa using this
 have c32 : w4.cell? ⟨b, 14, none⟩ = some (.int .u64 (tp f 3).x2) := by have := RW.out.c2 3 (by omega); simpa using this
 have c33 : w4.cell? ⟨b, 15, none⟩ = some (.int .u64 (tp f 3).x3) := by have := RW.out.c3 3 (by omega); simpa using this
 have c40 : w4.cell? ⟨b, 16, none⟩ = some (.int .u64 (tp f 4).x0) := by have := RW.out.c0 4 (by omega); simpa using this
 have c41 : w4.cell? ⟨b, 17, none⟩ = some (.int .u64 (tp f 4).x1) := by have := RW.out.c1 4 (by omega); simpa using this
 have c42 : w4.cell? ⟨b, 18, none⟩ = some (.int .u64 (tp f 4).x2) := by have := RW.out.c2 4 (by omega); simpa using this
 have c43 : w4.cell? ⟨b, 19, none⟩ = some (.int .u64 (tp f 4).x3) := by have := RW.out.c3 4 (by omega); simpa using this
 have c50 : w4.cell? ⟨b, 20, none⟩ = some (.int .u64 (tp f 5).x0) := by have := RW.out.c0 5 (by omega); simpa using this
 have c51 : w4.cell? ⟨b, 21, none⟩ = some (.int .u64 (tp f 5).x1) := by have := RW.out.c1 5 (by omega); simpa using this
 have c52 : w4.cell? ⟨b, 22, none⟩ = some (.int .u64 (tp f 5).x2) := by have := RW.out.c2 5 (by omega); simpa using this
 have c53 : w4.cell? ⟨b, 23, none⟩ = some (.int .u64 (tp f 5).x3) := by have := RW.out.c3 5 (by omega); simpa using this
 have c60 : w4.cell? ⟨b, 24, none⟩ = some (.int .u64 (tp f 6).x0) := by have := RW.out.c0 6 (by omega); simpa using this
 have c61 : w4.cell? ⟨b, 25, none⟩ = some (.int .u64 (tp f 6).x1) := by have := RW.out.c1 6 (by omega); simpa using this
 have c62 : w4.cell? ⟨b, 26, none⟩ = some (.int .u64 (tp f 6).x2) := by have := RW.out.c2 6 (by omega); simpa using this
 have c63 : w4.cell? ⟨b, 27, none⟩ = some (.int .u64 (tp f 6).x3) := by have := RW.out.c3 6 (by omega); simpa using this
 have c70 : w4.cell? ⟨b, 28, none⟩ = some (.int .u64 (tp f 7).x0) := by have := RW.out.c0 7 (by omega); simpa using this
 have c71 : w4.cell? ⟨b, 29, none⟩ = some (.int .u64 (tp f 7).x1) := by have := RW.out.c1 7 (by omega); simpa using this
 have c72 : w4.cell? ⟨b, 30, none⟩ = some (.int .u64 (tp f 7).x2) := by have := RW.out.c2 7 (by omega); simpa using this
 have c73 : w4.cell? ⟨b, 31, none⟩ = some (.int .u64 (tp f 7).x3) := by have := RW.out.c3 7 (by omega); simpa using this
 refine at8 _ b m (tp f) _ _ _ _ _ _ _ _ _ _ _ _ _ _ _ _ _ _ _ _ _ _ _ _ _ _ _ _ _ _ _ _ _ _ _ _ _ _ _ _ _ _ _ _ _ _ _ _ _ _ _ _ _ _ _ _ _ _ _ _ _ _ _ _ _ _ _ _ _ _ _ _ _ _ _ _ w4 (by omega) (by omega) (by omega) (by omega) (by omega) (by omega) (by omega) (by omega) (by omega) c00 c01 c02 c03 c10 c11 c12 c13 c20 c21 c22 c23 c30 c31 c32 c33 c40 c41 c42 c43 c50 c51 c52 c53 c60 c61 c62 c63 c70 c71 c72 c73 (hidden ?_)
 clear c00 c01 c02 c03 c10 c11 c12 c13 c20 c21 c22 c23 c30 c31 c32 c33 c40 c41 c42 c43 c50 c51 c52 c53 c60 c61 c62 c63 c70 c71 c72 c73
 intro wz T hT hB rg th
 have HRG := hidden rg
 have HTH := hidden th
 have MZ := hidden (M4.out.keep hB)
 have RZ := hidden (RW.out.keep hB)
 have s3 := cell_keep s2 hB
 have T3 := hidden (show t3 < T from by have h1 := BB.out.size; have h2 := TS.out; omega)
 have TG : Hid (w.heap.size < T) := hidden (by have h1 := LW.out; have := T3.out; omega)
 have BT : Hid (b < T) := hidden (by have := RW.out.lt; omega)
 have BZ : Hid (w.heap.size ≤ b) := hidden (by have := GE.out; have := BL3.out.size; omega)
 clear M4 RW hB rg th hT BB s2
 -- SL
 obtain ⟨p1, hp1⟩ : ∃ p1, n + 8 = p1 := ⟨_, rfl⟩
 have w1' : IntKind.i64.wrap (8 + (n : Int)) = (p1 : Int) := by rw [IntWalk.i64_in _ (by omega)]; omega
 have e1 : (8 : Int) ≤ (p1 : Int) := by omega
 have e2 : (p1 : Int) ≤ (m : Int) := by omega
 have e3 : p1 - 8 = n := by omega
 have e4 : ¬ m = 8 := by omega
 have e5 : (m : Int) - 8 = ((m - 8 : Nat) : Int) := by omega
 have e6 : ¬ m = p1 := by omega
 have e7 : m - p1 = n := by omega
 have HP := hidden hp1
 have CC := hidden (sclone_in b m 8 n (m - 8) (tp f) wz RZ.out (by omega) h1 (by omega))
 have t9 := HRG.out 32 _ rfl
 have z9 := (HTH.out 32 (by omega)).2
 simp only [Nat.zero_add] at t9 z9
 clear hmm hnn h1 hp1
 go_upto_region 10 with (first | (go_at_call 20; refine CC.out.mono ?_; rintro e w5 ⟨q1, d1, rfl, hq, hd, hr, hb⟩; have Q1 := hidden hq; have R1 := hidden hr; have B5 := hidden hb; have t5 := cell_keep t9 hb; have z5 := (there_keepM HTH.out hb 32 (by omega)).2; simp only [Nat.zero_add] at z5; clear hq hd hr hb CC t9 z9))
 have TL : Hid (T < wz.heap.size) := hidden (World.block_lt_of_cell? wz ⟨T, 32, none⟩ (by have := HRG.out 32 _ rfl; simpa using this))
 have RB := hidden (range_set32 (T := T) (x := .slice (some ⟨q1, 0, none⟩) n d1) (t32_len (tp f)) (range_keepM HRG.out B5.out) t5)
 have TB := hidden (there_setC (there_keepM HTH.out B5.out) ⟨T, 32, none⟩ (.slice (some ⟨q1, 0, none⟩) n d1))
 have GB := gb_cell w5 T 32 (.slice (some ⟨q1, 0, none⟩) n d1)
 have R1b := hidden (rws_growC R1.out GB (by have := Q1.out; have := TL.out; omega))
 have RZ6 := hidden (rws_growC (RZ.out.keep B5.out) GB (by have := BT.out; omega))
 have M6 := hidden (mw_far (MZ.out.keep B5.out) GB (by have := TG.out; omega) (fun p hp => by simp only [List.mem_singleton] at hp; subst hp; have := TG.out; simp only; omega))
 have s6 := (World.cell?_setCell_far w5 ⟨T, 32, none⟩ ⟨t3, 1, none⟩ (.slice (some ⟨q1, 0, none⟩) n d1) (by simp only; have := T3.out; omega)).trans (cell_keep s3 B5.out)
 have L6 : Hid (T < (w5.setCell ⟨T, 32, none⟩ (.slice (some ⟨q1, 0, none⟩) n d1)).heap.size) := hidden (by rw [World.size_setCell]; have := TL.out; have := B5.out.size; omega)
 have QT : Hid (T < q1 ∧ w.heap.size ≤ q1) := hidden ⟨by have := Q1.out; have := TL.out; omega, by have := Q1.out; have := MZ.out.bel.size; omega⟩
 clear R1 RZ MZ s3 t5 z5 HRG HTH GB B5 TL
 generalize w5.setCell ⟨T, 32, none⟩ (.slice (some ⟨q1, 0, none⟩) n d1) = w6 at *
 have CC := hidden (sclone_in b m p1 n n (tp f) w6 RZ6.out (by have := HP.out; have := HM.out; omega) H1.out (by have := HN.out; have := HM.out; omega))
 have t9 := RB.out 33 _ rfl
 have z9 := (TB.out 33 (by omega)).2
 simp only [Nat.zero_add] at t9 z9
 go_upto_region 11 with (first | (go_at_call 20; refine CC.out.mono ?_; rintro e w7 ⟨q2, d2, rfl, hq, hd, hr, hb⟩; have Q2 := hidden hq; have R2 := hidden hr; have B7 := hidden hb; have t7 := cell_keep t9 hb; have z7 := (there_keepM TB.out hb 33 (by omega)).2; simp only [Nat.zero_add] at z7; clear hq hd hr hb CC t9 z9))
 have RB7 := range_set33 (T := T) (x := .slice (some ⟨q2, 0, none⟩) n d2) (t32_len (tp f)) (range_keepM RB.out B7.out) t7
 have GB := gb_cell w7 T 33 (.slice (some ⟨q2, 0, none⟩) n d2)
 have R2b := hidden (rws_growC R2.out GB (by have := Q2.out; have := L6.out; omega))
 have R1c := hidden (rws_growC (R1b.out.keep B7.out) GB (by have := QT.out.1; omega))
 have M8 := hidden (mw_far (M6.out.keep B7.out) GB (by have := TG.out; omega) (fun p hp => by simp only [List.mem_singleton] at hp; subst hp; have := TG.out; simp only; omega))
 have NN : Hid (w.heap.size ≤ q2) := hidden (by have := Q2.out; have := M6.out.bel.size; omega)
 have Q2T : Hid (q2 ≠ w.heap.size) := hidden (by have := Q2.out; have := L6.out; have := TG.out; omega)
 have HRB := hidden RB7
 clear RB7 GB R2 R1b M6 t7 z7 RB TB B7 Q2 L6 RZ6 s6
 generalize w7.setCell ⟨T, 33, none⟩ (.slice (some ⟨q2, 0, none⟩) n d2) = w8 at *
 obtain ⟨cs, hcs⟩ : ∃ cs, t34 (tp f) (.slice (some ⟨q1, 0, none⟩) n d1) (.slice (some ⟨q2, 0, none⟩) n d2) = cs := ⟨_, rfl⟩
 have HR8 : Hid (w8.rangeAt T 0 cs) := hidden (by rw [← hcs]; exact HRB.out)
 have ls : cs.length = 34 := by rw [← hcs]; rfl
 have ls2 : cs.toArray.size = 34 := by simp [ls]
 have J1 : Hid ((Tryz.prog.info? 35).map (·.size) = some cs.length) := hidden (by rw [ls]; exact ptinfo)
 have J2 : Hid ((Tryz.prog.info? 35).map (·.size) = some cs.toArray.size) := hidden (by rw [ls2]; exact ptinfo)
 have O3 : Hid (cs.toArray.all (·.oneCell') = true) := hidden (by rw [← hcs]; exact t34_one _ _ _ _ _ _ _)
 have TH : Hid (w8.there w.heap.size 0 cs.toArray.size) := hidden (by have := (M8.out.r (w.heap.size, zp) (by simp)).2.1; rw [LN.out] at this; rw [ls2]; exact this)
 have HCS := hidden hcs
 have MF := hidden (M8.out.set (M := []) cs (c := w.heap.size) (o := zp) (by simp) (by rw [ls, LN.out]) (by simp))
 have GS := gb_setCells w.heap.size cs 0 w8
 have R1d := hidden (rws_growC R1c.out GS (by have := QT.out.1; have := TG.out; omega))
 have R2d := hidden (rws_growC R2b.out GS Q2T.out)
 clear hcs ls ls2 HRB GS
 go_wp2_with (first | refine wpList_load_mid rfl 35 _ rfl T 0 (by rfl) cs _ HR8.out UP.out rfl J1.out ?_ | (refine wpList_storeL rfl 35 _ _ rfl rfl w.heap.size 0 cs (by rfl) (by rfl) TH.out J2.out O3.out ?_; generalize World.setCells _ w.heap.size 0 cs = wf at *))
 have LD := hidden (MF.out.var (c := w.heap.size) (ds := cs) (by simp) UP.out rfl J1.out)
 refine bodyPost_ret (v := .tuple #[.agg cs.toArray, .int .i64 0]) (results_tupM Tryz.results5 _ _ _ _ _ _ (by rfl) (by rfl) LD.out) rfl ?_
 exact ⟨q1, d1, q2, d2, by rw [HCS.out], QT.out.2, NN.out, R1d.out, by rw [HP.out]; exact R2d.out, MF.out.bel⟩
theorem dReadTape_short (v : Value) (n : Nat) (hn : n ≤ 1024) (P : Option Addr) (len cap : Nat) (hl : len < 64 * (2 * n + 8)) (w : World) (h : ∀ y, Below w.heap.size w y → Calls Tryz.prog 8 #[v] y fun e w' => e = .returned (.int .i64 (n : Int)) ∧ w' = y) : Calls Tryz.prog 7 #[v, .slice P len cap] w fun e w' => e = .returned (.tuple #[.agg tz34.toArray, .int .i64 5]) ∧ Below w.heap.size w w' := by
 have C1 := hidden h
 have TT := hidden (fun w => rTape_short P len cap (2 * n + 8) w (by omega) hl)
 have v1 : IntKind.i64.wrap (2 * (n : Int)) = 2 * (n : Int) := IntWalk.i64_in _ (by omega)
 have v2 : IntKind.i64.wrap (2 * (n : Int) + 8) = ((2 * n + 8 : Nat) : Int) := by rw [IntWalk.i64_in _ (by omega)]; omega
 clear h hl hn
 generalize 2 * n + 8 = m at *
 have M1 := (Mw.start w).new tz34 46
 have MM := hidden M1
 clear M1
 have UP : Hid (Tryz.prog.underlying 46 = _) := hidden Tryz.underlying46
 have I2 : Hid ((Tryz.prog.info? 46).map (·.size) = some tz34.toArray.size) := hidden rtinfo
 have I1 : Hid ((Tryz.prog.info? 46).map (·.size) = some tz34.length) := hidden rtinfo
 have O2 := hidden tz34_one
 have LN : Hid (tz34.length = 34) := hidden rfl
 generalize hZ : tz34 = zp at MM I2 I1 O2 LN ⊢
 have HZ := hidden hZ
 clear hZ
 have ALC : Hid (∀ {ops : Array Oper} {rest : List Oper} {o : Oper} {a : Act} {w : World} {Q : Exit → Act → World → Prop}, o.guard = none → o.op = .alloc 46 → wpList Tryz.prog ops Q rest (a.put o.dst (.pointer (some ⟨w.heap.size, 0, none⟩))) (w.alloc (.cells zp.toArray 46)) → wpList Tryz.prog ops Q (o :: rest) a w) := hidden (by rw [← HZ.out]; exact wpList_rtalloc)
 have BUI : Hid (∀ {ops : Array Oper} {rest : List Oper} {o : Oper} {a : Act} {w : World} {Q : Exit → Act → World → Prop}, o.guard = none → o.op = .build 46 #[] → wpList Tryz.prog ops Q rest (a.put o.dst (.agg zp.toArray)) w → wpList Tryz.prog ops Q (o :: rest) a w) := hidden (by rw [← HZ.out]; exact wpList_rtbuild)
 go_enter Tryz.func7, Tryz.ntmps7
 go_upto_region 1 with (first | refine ALC.out rfl rfl ?_)
 generalize w.alloc (.cells zp.toArray 46) = w1 at *
 have C2 := hidden (C1.out w1 MM.out.bel)
 clear C1
 go_wp2_with (first | (go_at_call 8; refine C2.out.mono ?_; rintro e w2 ⟨rfl, rfl⟩) | (go_at_call 21; refine (TT.out _).mono ?_; rintro e w4 ⟨rfl, hb⟩; have M4 := hidden (MM.out.keep hb); clear hb MM) | refine BUI.out rfl rfl ?_ | (have TH := hidden (M4.out.ther zp (c := w.heap.size) (o := zp) (by simp) rfl); refine wpList_storeL rfl 46 _ _ rfl rfl w.heap.size 0 zp (by rfl) (by rfl) TH.out I2.out O2.out ?_; have MF := hidden (M4.out.set (M := []) zp (c := w.heap.size) (o := zp) (by simp) rfl (by simp)); clear M4; generalize World.setCells _ w.heap.size 0 zp = wf at *))
 have LD := hidden (MF.out.var (c := w.heap.size) (ds := zp) (by simp) UP.out rfl I1.out)
 refine bodyPost_ret (v := .tuple #[.agg zp.toArray, .int .i64 5]) (results_tupM Tryz.results7 _ _ _ _ _ _ (by rfl) (by rfl) LD.out) rfl ⟨rfl, MF.out.bel⟩
theorem dReadTape_in (v : Value) (n : Nat) (hn : n ≤ 1024) (h1 : 0 < n) (sb so len cap : Nat) (f : Nat → Int) (hl : 64 * (2 * n + 8) ≤ len) (hlen : len < 9223372036854775807) (w : World) (hS : Bs w sb so len f) (h : ∀ y, Below w.heap.size w y → Calls Tryz.prog 8 #[v] y fun e w' => e = .returned (.int .i64 (n : Int)) ∧ w' = y) : Calls Tryz.prog 7 #[v, .slice (some ⟨sb, so, none⟩) len cap] w fun e w' => ∃ b c : Nat, e = .returned (.tuple #[.agg (t34 (tp f) (.slice (some ⟨b, 32, none⟩) n (c - 8)) (.slice (some ⟨b, (n + 8) * 4, none⟩) n (c - (n + 8)))).toArray, .int .i64 0]) ∧ w.heap.size ≤ b ∧ Rws w' b (2 * n + 8) (tp f) ∧ Below w.heap.size w w' := by
 have C1 := hidden h
 have TT : Hid (∀ x, Below w.heap.size w x → Calls Tryz.prog 21 #[.slice (some ⟨sb, so, none⟩) len cap, .int .i64 ((2 * n + 8 : Nat) : Int)] x fun e w' => ∃ b c : Nat, e = .returned (.tuple #[.slice (some ⟨b, 0, none⟩) (2 * n + 8) c, .int .i64 0]) ∧ x.heap.size ≤ b ∧ 2 * n + 8 ≤ c ∧ Rws w' b (2 * n + 8) (tp f) ∧ Below x.heap.size x w') := hidden (fun x hx => (rTape_c _ sb so len cap (2 * n + 8) f x (fun _ => rfl) (by omega) hl hlen (fun _ => hS.keep hx)).mono (by rintro e w' ⟨v, p, c, rfl, rfl, h, hb⟩; obtain ⟨b, rfl, h1, h2, h3⟩ := h (by omega); exact ⟨b, c, rfl, h1, h3, h2, hb⟩))
 have v1 : IntKind.i64.wrap (2 * (n : Int)) = 2 * (n : Int) := IntWalk.i64_in _ (by omega)
 have v2 : IntKind.i64.wrap (2 * (n : Int) + 8) = ((2 * n + 8 : Nat) : Int) := by rw [IntWalk.i64_in _ (by omega)]; omega
 have HN := hidden hn
 have H1 := hidden h1
 clear h hl hn hlen hS h1
 obtain ⟨m, hm⟩ : ∃ m, 2 * n + 8 = m := ⟨_, rfl⟩
 rw [hm] at TT v2 ⊢
 have HM := hidden hm
 clear hm
 have M1 := (Mw.start w).new tz34 46
 have MM := hidden M1
 clear M1
 have UP : Hid (Tryz.prog.underlying 46 = _) := hidden Tryz.underlying46
 have I2 : Hid ((Tryz.prog.info? 46).map (·.size) = some tz34.toArray.size) := hidden rtinfo
 have I1 : Hid ((Tryz.prog.info? 46).map (·.size) = some tz34.length) := hidden rtinfo
 have O2 := hidden tz34_one
 have LN : Hid (tz34.length = 34) := hidden rfl
 generalize hZ : tz34 = zp at MM I2 I1 O2 LN ⊢
 have HZ := hidden hZ
 clear hZ
 have ALC : Hid (∀ {ops : Array Oper} {rest : List Oper} {o : Oper} {a : Act} {w : World} {Q : Exit → Act → World → Prop}, o.guard = none → o.op = .alloc 46 → wpList Tryz.prog ops Q rest (a.put o.dst (.pointer (some ⟨w.heap.size, 0, none⟩))) (w.alloc (.cells zp.toArray 46)) → wpList Tryz.prog ops Q (o :: rest) a w) := hidden (by rw [← HZ.out]; exact wpList_rtalloc)
 have BUI : Hid (∀ {ops : Array Oper} {rest : List Oper} {o : Oper} {a : Act} {w : World} {Q : Exit → Act → World → Prop}, o.guard = none → o.op = .build 46 #[] → wpList Tryz.prog ops Q rest (a.put o.dst (.agg zp.toArray)) w → wpList Tryz.prog ops Q (o :: rest) a w) := hidden (by rw [← HZ.out]; exact wpList_rtbuild)
 go_enter Tryz.func7, Tryz.ntmps7
 go_upto_region 1 with (first | refine ALC.out rfl rfl ?_)
 generalize w.alloc (.cells zp.toArray 46) = w1 at *
 have C2 := hidden (C1.out w1 MM.out.bel)
 have BL3 := hidden MM.out.bel
 have LW : Hid (w.heap.size < w1.heap.size) := hidden (MM.out.r (w.heap.size, zp) (by simp)).2.2.2
 clear C1
 go_upto_region 5 with (first | (go_at_call 8; refine C2.out.mono ?_; rintro e w2 ⟨rfl, rfl⟩; clear C2) | (go_at_call 21; refine (TT.out _ BL3.out).mono ?_; rintro e w4 ⟨b, c, rfl, hg, hcc, hr, hb⟩; have RW := hidden hr; have GE := hidden hg; have CC := hidden hcc; have M4 := hidden (MM.out.keep hb); clear hb hr hg hcc MM))
 have hmm := HM.out
 have hnn := HN.out
 have h1 := H1.out
 have hge := GE.out
 have hlw := LW.out
 have nT : b ≠ w.heap.size := by omega
 have c00 : w4.cell? ⟨b, 0, none⟩ = some (.int .u64 (tp f 0).x0) := by have := RW.out.c0 0 (by omega); simpa using this
 have c01 : w4.cell? ⟨b, 1, none⟩ = some (.int .u64 (tp f 0).x1) := by have := RW.out.c1 0 (by omega); simpa using this
 have c02 : w4.cell? ⟨b, 2, none⟩ = some (.int .u64 (tp f 0).x2) := by have := RW.out.c2 0 (by omega); simpa using this
 have c03 : w4.cell? ⟨b, 3, none⟩ = some (.int .u64 (tp f 0).x3) := by have := RW.out.c3 0 (by omega); simpa using this
 have c10 : w4.cell? ⟨b, 4, none⟩ = some (.int .u64 (tp f 1).x0) := by have := RW.out.c0 1 (by omega); simpa using this
 have c11 : w4.cell? ⟨b, 5, none⟩ = some (.int .u64 (tp f 1).x1) := by have := RW.out.c1 1 (by omega); simpa using this
 have c12 : w4.cell? ⟨b, 6, none⟩ = some (.int .u64 (tp f 1).x2) := by have := RW.out.c2 1 (by omega); simpa using this
 have c13 : w4.cell? ⟨b, 7, none⟩ = some (.int .u64 (tp f 1).x3) := by have := RW.out.c3 1 (by omega); simpa using this
 have c20 : w4.cell? ⟨b, 8, none⟩ = some (.int .u64 (tp f 2).x0) := by have := RW.out.c0 2 (by omega); simpa using this
 have c21 : w4.cell? ⟨b, 9, none⟩ = some (.int .u64 (tp f 2).x1) := by have := RW.out.c1 2 (by omega); simpa using this
 have c22 : w4.cell? ⟨b, 10, none⟩ = some (.int .u64 (tp f 2).x2) := by have := RW.out.c2 2 (by omega); simpa using this
 have c23 : w4.cell? ⟨b, 11, none⟩ = some (.int .u64 (tp f 2).x3) := by have := RW.out.c3 2 (by omega); simpa using this
 have c30 : w4.cell? ⟨b, 12, none⟩ = some (.int .u64 (tp f 3).x0) := by have := RW.out.c0 3 (by omega); simpa using this
 have c31 : w4.cell? ⟨b, 13, none⟩ = some (.int .u64 (tp f 3).x1) := by have := RW.out.c1 3 (by omega); simpa using this
 have c32 : w4.cell? ⟨b, 14, none⟩ = some (.int .u64 (tp f 3).x2) := by have := RW.out.c2 3 (by omega); simpa using this
 have c33 : w4.cell? ⟨b, 15, none⟩ = some (.int .u64 (tp f 3).x3) := by have := RW.out.c3 3 (by omega); simpa using this
 have c40 : w4.cell? ⟨b, 16, none⟩ = some (.int .u64 (tp f 4).x0) := by have := RW.out.c0 4 (by omega); simpa using this
 have c41 : w4.cell? ⟨b, 17, none⟩ = some (.int .u64 (tp f 4).x1) := by have := RW.out.c1 4 (by omega); simpa using this
 have c42 : w4.cell? ⟨b, 18, none⟩ = some (.int .u64 (tp f 4).x2) := by have := RW.out.c2 4 (by omega); simpa using this
 have c43 : w4.cell? ⟨b, 19, none⟩ = some (.int .u64 (tp f 4).x3) := by have := RW.out.c3 4 (by omega); simpa using this
 have c50 : w4.cell? ⟨b, 20, none⟩ = some (.int .u64 (tp f 5).x0) := by have := RW.out.c0 5 (by omega); simpa using this
 have c51 : w4.cell? ⟨b, 21, none⟩ = some (.int .u64 (tp f 5).x1) := by have := RW.out.c1 5 (by omega); simpa using this
 have c52 : w4.cell? ⟨b, 22, none⟩ = some (.int .u64 (tp f 5).x2) := by have := RW.out.c2 5 (by omega); simpa using this
 have c53 : w4.cell? ⟨b, 23, none⟩ = some (.int .u64 (tp f 5).x3) := by have := RW.out.c3 5 (by omega); simpa using this
 have c60 : w4.cell? ⟨b, 24, none⟩ = some (.int .u64 (tp f 6).x0) := by have := RW.out.c0 6 (by omega); simpa using this
 have c61 : w4.cell? ⟨b, 25, none⟩ = some (.int .u64 (tp f 6).x1) := by have := RW.out.c1 6 (by omega); simpa using this
 have c62 : w4.cell? ⟨b, 26, none⟩ = some (.int .u64 (tp f 6).x2) := by have := RW.out.c2 6 (by omega); simpa using this
 have c63 : w4.cell? ⟨b, 27, none⟩ = some (.int .u64 (tp f 6).x3) := by have := RW.out.c3 6 (by omega); simpa using this
 have c70 : w4.cell? ⟨b, 28, none⟩ = some (.int .u64 (tp f 7).x0) := by have := RW.out.c0 7 (by omega); simpa using this
 have c71 : w4.cell? ⟨b, 29, none⟩ = some (.int .u64 (tp f 7).x1) := by have := RW.out.c1 7 (by omega); simpa using this
 have c72 : w4.cell? ⟨b, 30, none⟩ = some (.int .u64 (tp f 7).x2) := by have := RW.out.c2 7 (by omega); simpa using this
 have c73 : w4.cell? ⟨b, 31, none⟩ = some (.int .u64 (tp f 7).x3) := by have := RW.out.c3 7 (by omega); simpa using this
 have tZ : w4.there w.heap.size 0 34 := by have := (M4.out.r (w.heap.size, zp) (by simp)).2.1; rw [LN.out] at this; exact this
 refine ar5 _ w.heap.size b n m c (n + 8) (2 * n) (2 * n + 8) (tp f) _ _ _ _ _ _ _ _ _ _ _ _ _ _ _ _ _ _ _ _ _ _ _ _ _ _ _ _ _ _ _ _ _ _ _ _ _ _ _ _ _ _ _ _ _ _ _ _ _ _ _ _ _ _ _ _ w4 nT tZ (by omega) CC.out (by omega) h1 rfl rfl rfl c00 c01 c02 c03 c10 c11 c12 c13 c20 c21 c22 c23 c30 c31 c32 c33 c40 c41 c42 c43 c50 c51 c52 c53 c60 c61 c62 c63 c70 c71 c72 c73 (hidden ?_)
 clear c00 c01 c02 c03 c10 c11 c12 c13 c20 c21 c22 c23 c30 c31 c32 c33 c40 c41 c42 c43 c50 c51 c52 c53 c60 c61 c62 c63 c70 c71 c72 c73
 intro wz rg hz
 obtain ⟨wy, hby, rfl⟩ := hz
 obtain ⟨cs, hcs⟩ : ∃ cs, t34 (tp f) (.slice (some ⟨b, 32, none⟩) n (c - 8)) (.slice (some ⟨b, (n + 8) * 4, none⟩) n (c - (n + 8))) = cs := ⟨_, rfl⟩
 have ls : cs.length = 34 := by rw [← hcs]; rfl
 rw [hcs] at rg
 have GS := gb_setCells w.heap.size cs 0 wy
 have R1 := hidden (rws_growC (RW.out.keep hby) GS nT)
 have LD := hidden (run_loadVar_mid (P := Tryz.prog) (wy.setCells w.heap.size 0 cs) w.heap.size 0 46 cs _ rg UP.out rfl (by rw [ls]; exact rtinfo))
 have BX := bl_trans M4.out.bel hby
 have BF := hidden (BX.grown GS BX.size (fun j hj => by obtain rfl := Option.some.inj hj; omega))
 have NN : Hid (w.heap.size ≤ b) := hidden (by omega)
 have HCS := hidden hcs
 rw [hcs]
 generalize wy.setCells w.heap.size 0 cs = wf at *
 clear GS hby BX tZ hmm hnn hge hlw nT ls hcs rg h1
 go_wp2_with fail
 refine bodyPost_ret (v := .tuple #[.agg cs.toArray, .int .i64 0]) (results_tupM Tryz.results7 _ _ _ _ _ _ (by rfl) (by rfl) LD.out) rfl ?_
 exact ⟨b, c, by rw [HCS.out], NN.out, R1.out, BF.out⟩
end Ci
end Go.Proofs.YtkoilaoogphgfaaGreatDoor
