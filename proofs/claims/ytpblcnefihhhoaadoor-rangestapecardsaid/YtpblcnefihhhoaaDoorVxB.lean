import Derived.Test.YtpblcnefihhhoaaDoorChecked
import Derived.WalkKit
import Derived.WalkSpells
import Derived.LaidEql
import Derived.Stop.Asserts
import Derived.Lib.IfaceEq
import Derived.RowKitTokens
import Derived.Test.YtpblcnefihhhoaaDoorVxA
namespace Go.Proofs.YtpblcnefihhhoaaDoor
open Go.RowKit Go.Extern.Stop Go.Stop Go.Extern Go.Lib

theorem erTypeOf (v : Value) (w : World) : (Extern.ReflectliteType.typeOf #[.iface 31 v]).run Tryd.prog w = .ok (.iface 104 (.agg #[.pointer (some ⟨1, 31, none⟩)])) w := by kernel_rfl
theorem erComparable (w : World) : ((Extern.ReflectliteType.method fun t => do Extern.Rtype.noPackHeld "Comparable" t; (fun a => Value.bool a.comparable) <$> typeInfo t) #[.agg #[.pointer (some ⟨1, 31, none⟩)]]).run Tryd.prog w = .ok (.bool true) w := by kernel_rfl
theorem erMethod (v : Value) (w : World) : (Go.method 249 104 v "Comparable").run Tryd.prog w = .ok (89, v) w := by kernel_rfl
theorem erComp : (Tryd.prog.info? 31).map (·.comparable) = some true := by kernel_rfl
theorem erNoIs (v : Value) (xT : TypeId) (w : World) : (Instr.typeAssert (.iface 31 v) xT 106 true).run Tryd.prog w = .ok (.tuple #[.nilIface, .bool false]) w := run_typeAssert_lacksB Tryd.underlying106 (by kernel_rfl) (by kernel_rfl) v xT w
theorem erNoUnwrap (v : Value) (xT : TypeId) (w : World) : (Instr.typeAssert (.iface 31 v) xT 108 true).run Tryd.prog w = .ok (.tuple #[.nilIface, .bool false]) w := run_typeAssert_lacksB Tryd.underlying108 (by kernel_rfl) (by kernel_rfl) v xT w
theorem erNoUnwraps (v : Value) (xT : TypeId) (w : World) : (Instr.typeAssert (.iface 31 v) xT 110 true).run Tryd.prog w = .ok (.tuple #[.nilIface, .bool false]) w := run_typeAssert_lacksB Tryd.underlying110 (by kernel_rfl) (by kernel_rfl) v xT w

set_option maxRecDepth 20000 in
/-- errors.Is between two numbers of errors. -/
theorem eris_any (a b : Int) (w : World) :
    Calls Tryd.prog 30 #[.iface 31 (.int .i64 a), .iface 31 (.int .i64 b)] w fun e w' => e = .returned (.bool (a == b)) ∧ w' = w := by
  have h8 := @run_callFunc_extern Tryd.prog 53 _ Extern.ReflectliteType.typeOf Tryd.func53 (by kernel_rfl) (by kernel_rfl) (by kernel_rfl) (by kernel_rfl)
  have h32 := @run_callFunc_extern Tryd.prog 89 _ (Extern.ReflectliteType.method fun t => do Extern.Rtype.noPackHeld "Comparable" t; pure (.bool (← typeInfo t).comparable)) Tryd.func89 (by kernel_rfl) (by kernel_rfl) (by kernel_rfl) (by kernel_rfl)
  have tT := erTypeOf
  have cT := erComparable
  have mR := erMethod
  have nE := erNoIs
  have uE := erNoUnwrap
  have vE := erNoUnwraps
  have heq := run_eql_iface_int (P := Tryd.prog) w (t := 66) (tx := 31) (k := .i64) a b Tryd.underlying66 erComp Tryd.underlying31
  by_cases h : a = b
  · subst h
    have hb : (a == a) = true := by simp
    rw [hb] at heq ⊢
    go_enter Tryd.func30, Tryd.ntmps30
    go_wp2
    refine wp_loop_rounds 1 ?_
    rw [rounds_succ]
    go_wp2
    go_ret
    exact ⟨rfl, rfl⟩
  · have hb : (a == b) = false := by simp [h]
    rw [hb] at heq ⊢
    go_enter Tryd.func30, Tryd.ntmps30
    go_wp2
    refine wp_loop_rounds 1 ?_
    rw [rounds_succ]
    go_wp2
    go_ret
    exact ⟨rfl, rfl⟩

theorem failed_any (a : Int) (w : World) :
    Calls Tryd.prog 16 #[.iface 31 (.int .i64 a)] w fun e w' => e = .returned (.bool (!(a == 0))) ∧ w' = w := by
  go_enter Tryd.func16, Tryd.ntmps16
  go_wp2_with (first | (go_at_call 30; refine (eris_any _ _ _).mono ?_; rintro e w' ⟨rfl, rfl⟩))
  go_ret
  exact ⟨rfl, rfl⟩
end Go.Proofs.YtpblcnefihhhoaaDoor
namespace Go.Proofs.YtpblcnefihhhoaaDoor
open Go.RowKit
set_option linter.unusedVariables false
theorem tz_one : tz.toArray.all (·.oneCell') = true := tc_one _ _ _ _ none none 0 0 0 0
set_option maxRecDepth 100000 in
set_option maxHeartbeats 8000000 in
theorem rtape_out (B C : Int) (P : Option Addr) (len cap : Nat) (hal : al B C = false) (w : World) :
    Calls Tryd.prog 4 #[.agg #[.int .i64 B, .int .i64 C], .slice P len cap] w fun e w' => e = .returned (.tuple #[.agg tz.toArray, .int .i64 130]) ∧ Below w.heap.size w w' := by
  have AL := hidden (fun w => Allowed_any B C w)
  rw [hal] at AL
  clear hal
  have M0 := (Mw.start w).new [.int .i64 B, .int .i64 C] 23
  have M1 := M0.new tz 30
  clear M0
  rw [World.size_alloc] at M1
  have MM := hidden M1
  clear M1
  have UP : Hid (Tryd.prog.underlying 30 = _) := hidden Tryd.underlying30
  have I2 : Hid ((Tryd.prog.info? 30).map (·.size) = some tz.toArray.size) := hidden ptinfo
  have I1 : Hid ((Tryd.prog.info? 30).map (·.size) = some tz.length) := hidden ptinfo
  have O2 := hidden tz_one
  have LN : Hid (tz.length = 18) := hidden rfl
  generalize hZ : tz = zp at MM I2 I1 O2 LN ⊢
  have HZ := hidden hZ
  clear hZ
  have ALC : Hid (∀ {ops : Array Oper} {rest : List Oper} {o : Oper} {a : Act} {w : World} {Q : Exit → Act → World → Prop}, o.guard = none → o.op = .alloc 30 → wpList Tryd.prog ops Q rest (a.put o.dst (.pointer (some ⟨w.heap.size, 0, none⟩))) (w.alloc (.cells zp.toArray 30)) → wpList Tryd.prog ops Q (o :: rest) a w) := hidden (by rw [← HZ.out]; exact wpList_ptalloc)
  have BUI : Hid (∀ {ops : Array Oper} {rest : List Oper} {o : Oper} {a : Act} {w : World} {Q : Exit → Act → World → Prop}, o.guard = none → o.op = .build 30 #[] → wpList Tryd.prog ops Q rest (a.put o.dst (.agg zp.toArray)) w → wpList Tryd.prog ops Q (o :: rest) a w) := hidden (by rw [← HZ.out]; exact wpList_ptbuild)
  go_enter Tryd.func4, Tryd.ntmps4
  go_upto_region 1 with (first | refine ALC.out rfl rfl ?_)
  generalize (w.alloc (.cells #[.int .i64 B, .int .i64 C] 23)).alloc (.cells zp.toArray 30) = w1 at *
  have x0 := (MM.out.r (w.heap.size, [.int .i64 B, .int .i64 C]) (by simp)).1 0 _ rfl
  have x1 := (MM.out.r (w.heap.size, [.int .i64 B, .int .i64 C]) (by simp)).1 1 _ rfl
  simp only [Nat.zero_add] at x0 x1
  go_wp2_with (first | (go_at_call 11; refine (AL.out _).mono ?_; rintro e w2 ⟨rfl, hb⟩; have M2 := hidden (MM.out.keep hb); clear hb MM x0 x1; have x0 := (M2.out.r (w.heap.size, [.int .i64 B, .int .i64 C]) (by simp)).1 0 _ rfl; have x1 := (M2.out.r (w.heap.size, [.int .i64 B, .int .i64 C]) (by simp)).1 1 _ rfl; simp only [Nat.zero_add] at x0 x1) | refine BUI.out rfl rfl ?_ | (have TH := hidden (M2.out.ther zp (c := w.heap.size + 1) (o := zp) (by simp) rfl); refine wpList_storeL rfl 30 _ _ rfl rfl (w.heap.size + 1) 0 zp (by rfl) (by rfl) TH.out I2.out O2.out ?_; have MF := hidden (M2.out.set (M := []) zp (c := w.heap.size + 1) (o := zp) (by simp) rfl (by simp)); clear M2; generalize World.setCells _ (w.heap.size + 1) 0 zp = wf at *))
  have LD := hidden (MF.out.var (c := w.heap.size + 1) (ds := zp) (by simp) UP.out rfl I1.out)
  refine bodyPost_ret (v := .tuple #[.agg zp.toArray, .int .i64 130]) (results_tupM Tryd.results4 _ _ _ _ _ _ (by rfl) (by rfl) LD.out) rfl ⟨rfl, MF.out.bel⟩
set_option maxRecDepth 100000 in
set_option maxHeartbeats 8000000 in
theorem rtape_short (B C n : Nat) (hn : B * C = n) (hB : B ≤ 64) (hC : C ≤ 16) (P : Option Addr) (len cap : Nat) (hal : al B C = true) (hl : len < 64 * (2 * n + 4)) (w : World) :
    Calls Tryd.prog 4 #[.agg #[.int .i64 B, .int .i64 C], .slice P len cap] w fun e w' => e = .returned (.tuple #[.agg tz.toArray, .int .i64 5]) ∧ Below w.heap.size w w' := by
  have AL := hidden (fun w => Allowed_any B C w)
  rw [hal] at AL
  clear hal
  have hle : B * C ≤ 64 * 16 := Nat.mul_le_mul hB hC
  have SZ := hidden (fun w => Size_any B C n hn hB hC w)
  have TA := hidden (fun w => Tape_short P len cap (2 * n + 4) w (by omega) hl)
  have v1 : IntKind.i64.wrap (2 * (n : Int)) = 2 * (n : Int) := IntWalk.i64_in _ (by omega)
  have v2 : IntKind.i64.wrap (2 * (n : Int) + 4) = ((2 * n + 4 : Nat) : Int) := by rw [IntWalk.i64_in _ (by omega)]; omega
  clear hn hB hC hle hl
  generalize 2 * n + 4 = m at *
  have M0 := (Mw.start w).new [.int .i64 B, .int .i64 C] 23
  have M1 := M0.new tz 30
  clear M0
  rw [World.size_alloc] at M1
  have MM := hidden M1
  clear M1
  have UP : Hid (Tryd.prog.underlying 30 = _) := hidden Tryd.underlying30
  have I2 : Hid ((Tryd.prog.info? 30).map (·.size) = some tz.toArray.size) := hidden ptinfo
  have I1 : Hid ((Tryd.prog.info? 30).map (·.size) = some tz.length) := hidden ptinfo
  have O2 := hidden tz_one
  have LN : Hid (tz.length = 18) := hidden rfl
  generalize hZ : tz = zp at MM I2 I1 O2 LN ⊢
  have HZ := hidden hZ
  clear hZ
  have ALC : Hid (∀ {ops : Array Oper} {rest : List Oper} {o : Oper} {a : Act} {w : World} {Q : Exit → Act → World → Prop}, o.guard = none → o.op = .alloc 30 → wpList Tryd.prog ops Q rest (a.put o.dst (.pointer (some ⟨w.heap.size, 0, none⟩))) (w.alloc (.cells zp.toArray 30)) → wpList Tryd.prog ops Q (o :: rest) a w) := hidden (by rw [← HZ.out]; exact wpList_ptalloc)
  have BUI : Hid (∀ {ops : Array Oper} {rest : List Oper} {o : Oper} {a : Act} {w : World} {Q : Exit → Act → World → Prop}, o.guard = none → o.op = .build 30 #[] → wpList Tryd.prog ops Q rest (a.put o.dst (.agg zp.toArray)) w → wpList Tryd.prog ops Q (o :: rest) a w) := hidden (by rw [← HZ.out]; exact wpList_ptbuild)
  go_enter Tryd.func4, Tryd.ntmps4
  go_upto_region 1 with (first | refine ALC.out rfl rfl ?_)
  generalize (w.alloc (.cells #[.int .i64 B, .int .i64 C] 23)).alloc (.cells zp.toArray 30) = w1 at *
  have x0 := (MM.out.r (w.heap.size, [.int .i64 B, .int .i64 C]) (by simp)).1 0 _ rfl
  have x1 := (MM.out.r (w.heap.size, [.int .i64 B, .int .i64 C]) (by simp)).1 1 _ rfl
  simp only [Nat.zero_add] at x0 x1
  go_wp2_with (first | (go_at_call 11; refine (AL.out _).mono ?_; rintro e w2 ⟨rfl, hb⟩; have M2 := hidden (MM.out.keep hb); clear hb MM x0 x1; have x0 := (M2.out.r (w.heap.size, [.int .i64 B, .int .i64 C]) (by simp)).1 0 _ rfl; have x1 := (M2.out.r (w.heap.size, [.int .i64 B, .int .i64 C]) (by simp)).1 1 _ rfl; simp only [Nat.zero_add] at x0 x1) | (go_at_call 14; refine (SZ.out _).mono ?_; rintro e w3 ⟨rfl, hb⟩; have M3 := hidden (M2.out.keep hb); clear hb M2 x0 x1) | (go_at_call 15; refine (TA.out _).mono ?_; rintro e w4 ⟨rfl, hb⟩; have M4 := hidden (M3.out.keep hb); clear hb M3) | (go_at_call 16; refine (failed_any 5 _).mono ?_; rintro e w5 ⟨rfl, rfl⟩) | refine BUI.out rfl rfl ?_ | (have TH := hidden (M4.out.ther zp (c := w.heap.size + 1) (o := zp) (by simp) rfl); refine wpList_storeL rfl 30 _ _ rfl rfl (w.heap.size + 1) 0 zp (by rfl) (by rfl) TH.out I2.out O2.out ?_; have MF := hidden (M4.out.set (M := []) zp (c := w.heap.size + 1) (o := zp) (by simp) rfl (by simp)); clear M4; generalize World.setCells _ (w.heap.size + 1) 0 zp = wf at *))
  have LD := hidden (MF.out.var (c := w.heap.size + 1) (ds := zp) (by simp) UP.out rfl I1.out)
  refine bodyPost_ret (v := .tuple #[.agg zp.toArray, .int .i64 5]) (results_tupM Tryd.results4 _ _ _ _ _ _ (by rfl) (by rfl) LD.out) rfl ⟨rfl, MF.out.bel⟩
set_option maxRecDepth 100000 in
set_option maxHeartbeats 8000000 in
theorem rrtape_out (B C : Int) (P : Option Addr) (len cap : Nat) (hal : al B C = false) (w : World) :
    Calls Tryd.prog 5 #[.agg #[.int .i64 B, .int .i64 C], .slice P len cap] w fun e w' => e = .returned (.tuple #[.agg tz.toArray, .int .i64 130]) ∧ Below w.heap.size w w' := by
  have AL := hidden (fun w => Allowed_any B C w)
  rw [hal] at AL
  clear hal
  have M0 := (Mw.start w).new [.int .i64 B, .int .i64 C] 23
  have M1 := M0.new tz 37
  clear M0
  rw [World.size_alloc] at M1
  have MM := hidden M1
  clear M1
  have UP : Hid (Tryd.prog.underlying 37 = _) := hidden Tryd.underlying37
  have I2 : Hid ((Tryd.prog.info? 37).map (·.size) = some tz.toArray.size) := hidden rtinfo
  have I1 : Hid ((Tryd.prog.info? 37).map (·.size) = some tz.length) := hidden rtinfo
  have O2 := hidden tz_one
  have LN : Hid (tz.length = 18) := hidden rfl
  generalize hZ : tz = zp at MM I2 I1 O2 LN ⊢
  have HZ := hidden hZ
  clear hZ
  have ALC : Hid (∀ {ops : Array Oper} {rest : List Oper} {o : Oper} {a : Act} {w : World} {Q : Exit → Act → World → Prop}, o.guard = none → o.op = .alloc 37 → wpList Tryd.prog ops Q rest (a.put o.dst (.pointer (some ⟨w.heap.size, 0, none⟩))) (w.alloc (.cells zp.toArray 37)) → wpList Tryd.prog ops Q (o :: rest) a w) := hidden (by rw [← HZ.out]; exact wpList_rtalloc)
  have BUI : Hid (∀ {ops : Array Oper} {rest : List Oper} {o : Oper} {a : Act} {w : World} {Q : Exit → Act → World → Prop}, o.guard = none → o.op = .build 37 #[] → wpList Tryd.prog ops Q rest (a.put o.dst (.agg zp.toArray)) w → wpList Tryd.prog ops Q (o :: rest) a w) := hidden (by rw [← HZ.out]; exact wpList_rtbuild)
  go_enter Tryd.func5, Tryd.ntmps5
  go_upto_region 1 with (first | refine ALC.out rfl rfl ?_)
  generalize (w.alloc (.cells #[.int .i64 B, .int .i64 C] 23)).alloc (.cells zp.toArray 37) = w1 at *
  have x0 := (MM.out.r (w.heap.size, [.int .i64 B, .int .i64 C]) (by simp)).1 0 _ rfl
  have x1 := (MM.out.r (w.heap.size, [.int .i64 B, .int .i64 C]) (by simp)).1 1 _ rfl
  simp only [Nat.zero_add] at x0 x1
  go_wp2_with (first | (go_at_call 11; refine (AL.out _).mono ?_; rintro e w2 ⟨rfl, hb⟩; have M2 := hidden (MM.out.keep hb); clear hb MM x0 x1; have x0 := (M2.out.r (w.heap.size, [.int .i64 B, .int .i64 C]) (by simp)).1 0 _ rfl; have x1 := (M2.out.r (w.heap.size, [.int .i64 B, .int .i64 C]) (by simp)).1 1 _ rfl; simp only [Nat.zero_add] at x0 x1) | refine BUI.out rfl rfl ?_ | (have TH := hidden (M2.out.ther zp (c := w.heap.size + 1) (o := zp) (by simp) rfl); refine wpList_storeL rfl 37 _ _ rfl rfl (w.heap.size + 1) 0 zp (by rfl) (by rfl) TH.out I2.out O2.out ?_; have MF := hidden (M2.out.set (M := []) zp (c := w.heap.size + 1) (o := zp) (by simp) rfl (by simp)); clear M2; generalize World.setCells _ (w.heap.size + 1) 0 zp = wf at *))
  have LD := hidden (MF.out.var (c := w.heap.size + 1) (ds := zp) (by simp) UP.out rfl I1.out)
  refine bodyPost_ret (v := .tuple #[.agg zp.toArray, .int .i64 130]) (results_tupM Tryd.results5 _ _ _ _ _ _ (by rfl) (by rfl) LD.out) rfl ⟨rfl, MF.out.bel⟩
set_option maxRecDepth 100000 in
set_option maxHeartbeats 8000000 in
theorem rrtape_short (B C n : Nat) (hn : B * C = n) (hB : B ≤ 64) (hC : C ≤ 16) (P : Option Addr) (len cap : Nat) (hal : al B C = true) (hl : len < 64 * (2 * n + 4)) (w : World) :
    Calls Tryd.prog 5 #[.agg #[.int .i64 B, .int .i64 C], .slice P len cap] w fun e w' => e = .returned (.tuple #[.agg tz.toArray, .int .i64 5]) ∧ Below w.heap.size w w' := by
  have AL := hidden (fun w => Allowed_any B C w)
  rw [hal] at AL
  clear hal
  have hle : B * C ≤ 64 * 16 := Nat.mul_le_mul hB hC
  have SZ := hidden (fun w => Size_any B C n hn hB hC w)
  have TA := hidden (fun w => rTape_short P len cap (2 * n + 4) w (by omega) hl)
  have v1 : IntKind.i64.wrap (2 * (n : Int)) = 2 * (n : Int) := IntWalk.i64_in _ (by omega)
  have v2 : IntKind.i64.wrap (2 * (n : Int) + 4) = ((2 * n + 4 : Nat) : Int) := by rw [IntWalk.i64_in _ (by omega)]; omega
  clear hn hB hC hle hl
  generalize 2 * n + 4 = m at *
  have M0 := (Mw.start w).new [.int .i64 B, .int .i64 C] 23
  have M1 := M0.new tz 37
  clear M0
  rw [World.size_alloc] at M1
  have MM := hidden M1
  clear M1
  have UP : Hid (Tryd.prog.underlying 37 = _) := hidden Tryd.underlying37
  have I2 : Hid ((Tryd.prog.info? 37).map (·.size) = some tz.toArray.size) := hidden rtinfo
  have I1 : Hid ((Tryd.prog.info? 37).map (·.size) = some tz.length) := hidden rtinfo
  have O2 := hidden tz_one
  have LN : Hid (tz.length = 18) := hidden rfl
  generalize hZ : tz = zp at MM I2 I1 O2 LN ⊢
  have HZ := hidden hZ
  clear hZ
  have ALC : Hid (∀ {ops : Array Oper} {rest : List Oper} {o : Oper} {a : Act} {w : World} {Q : Exit → Act → World → Prop}, o.guard = none → o.op = .alloc 37 → wpList Tryd.prog ops Q rest (a.put o.dst (.pointer (some ⟨w.heap.size, 0, none⟩))) (w.alloc (.cells zp.toArray 37)) → wpList Tryd.prog ops Q (o :: rest) a w) := hidden (by rw [← HZ.out]; exact wpList_rtalloc)
  have BUI : Hid (∀ {ops : Array Oper} {rest : List Oper} {o : Oper} {a : Act} {w : World} {Q : Exit → Act → World → Prop}, o.guard = none → o.op = .build 37 #[] → wpList Tryd.prog ops Q rest (a.put o.dst (.agg zp.toArray)) w → wpList Tryd.prog ops Q (o :: rest) a w) := hidden (by rw [← HZ.out]; exact wpList_rtbuild)
  go_enter Tryd.func5, Tryd.ntmps5
  go_upto_region 1 with (first | refine ALC.out rfl rfl ?_)
  generalize (w.alloc (.cells #[.int .i64 B, .int .i64 C] 23)).alloc (.cells zp.toArray 37) = w1 at *
  have x0 := (MM.out.r (w.heap.size, [.int .i64 B, .int .i64 C]) (by simp)).1 0 _ rfl
  have x1 := (MM.out.r (w.heap.size, [.int .i64 B, .int .i64 C]) (by simp)).1 1 _ rfl
  simp only [Nat.zero_add] at x0 x1
  go_wp2_with (first | (go_at_call 11; refine (AL.out _).mono ?_; rintro e w2 ⟨rfl, hb⟩; have M2 := hidden (MM.out.keep hb); clear hb MM x0 x1; have x0 := (M2.out.r (w.heap.size, [.int .i64 B, .int .i64 C]) (by simp)).1 0 _ rfl; have x1 := (M2.out.r (w.heap.size, [.int .i64 B, .int .i64 C]) (by simp)).1 1 _ rfl; simp only [Nat.zero_add] at x0 x1) | (go_at_call 14; refine (SZ.out _).mono ?_; rintro e w3 ⟨rfl, hb⟩; have M3 := hidden (M2.out.keep hb); clear hb M2 x0 x1) | (go_at_call 18; refine (TA.out _).mono ?_; rintro e w4 ⟨rfl, hb⟩; have M4 := hidden (M3.out.keep hb); clear hb M3) | refine BUI.out rfl rfl ?_ | (have TH := hidden (M4.out.ther zp (c := w.heap.size + 1) (o := zp) (by simp) rfl); refine wpList_storeL rfl 37 _ _ rfl rfl (w.heap.size + 1) 0 zp (by rfl) (by rfl) TH.out I2.out O2.out ?_; have MF := hidden (M4.out.set (M := []) zp (c := w.heap.size + 1) (o := zp) (by simp) rfl (by simp)); clear M4; generalize World.setCells _ (w.heap.size + 1) 0 zp = wf at *))
  have LD := hidden (MF.out.var (c := w.heap.size + 1) (ds := zp) (by simp) UP.out rfl I1.out)
  refine bodyPost_ret (v := .tuple #[.agg zp.toArray, .int .i64 5]) (results_tupM Tryd.results5 _ _ _ _ _ _ (by rfl) (by rfl) LD.out) rfl ⟨rfl, MF.out.bel⟩
end Go.Proofs.YtpblcnefihhhoaaDoor
namespace Go.Proofs.YtpblcnefihhhoaaDoor
open Go.RowKit
set_option linter.unusedVariables false
set_option linter.unusedVariables false
theorem Rws.grow {w w' : World} {b n c : Nat} {g : Nat → E4} (h : Rws w b n g) (hg : w.grownBy w' (some c)) (hne : b ≠ c) : Rws w' b n g := by
  have hb := hg.block b h.lt (fun e => hne (Option.some.inj e))
  have k : ∀ j, w'.cell? ⟨b, j, none⟩ = w.cell? ⟨b, j, none⟩ := fun j => World.cell?_of_block hb
  exact ⟨fun j hj => (k _).trans (h.c0 j hj), fun j hj => (k _).trans (h.c1 j hj), fun j hj => (k _).trans (h.c2 j hj), fun j hj => (k _).trans (h.c3 j hj), fun j hj => (World.frozen?_of_block hb).trans (h.fr j hj), Nat.lt_of_lt_of_le h.lt hg.size⟩
set_option maxRecDepth 100000 in
set_option maxHeartbeats 8000000 in
theorem rtape_in (B C n : Nat) (hn : B * C = n) (hB : B ≤ 64) (hC : C ≤ 16) (h1 : 0 < n) (sb so len cap : Nat) (f : Nat → Int) (hal : al B C = true) (hl : 64 * (2 * n + 4) ≤ len) (hlen : len < 9223372036854775807) (hcap : len ≤ cap) (w : World) (hT : Tb w) (hS : Bs w sb so len f) :
    Calls Tryd.prog 4 #[.agg #[.int .i64 B, .int .i64 C], .slice (some ⟨sb, so, none⟩) len cap] w fun e w' => ∃ q1 d1 q2 d2 : Nat, e = .returned (.tuple #[.agg (tc (tp f 0) (tp f 1) (tp f (2 * n + 2)) (tp f (2 * n + 3)) (.slice (some ⟨q1, 0, none⟩) n d1) (.slice (some ⟨q2, 0, none⟩) n d2)).toArray, .int .i64 0]) ∧ w.heap.size ≤ q1 ∧ w.heap.size ≤ q2 ∧ Rws w' q1 n (fun k => tp f (2 + k)) ∧ Rws w' q2 n (fun k => tp f (n + 2 + k)) ∧ Below w.heap.size w w' := by
  have AL := hidden (fun w => Allowed_any B C w)
  rw [hal] at AL
  clear hal
  have hle : B * C ≤ 64 * 16 := Nat.mul_le_mul hB hC
  have SZ := hidden (fun w => Size_any B C n hn hB hC w)
  have hn1 : n ≤ 1024 := by omega
  have TA : Hid (∀ x, Below w.heap.size w x → Calls Tryd.prog 15 #[.slice (some ⟨sb, so, none⟩) len cap, .int .i64 ((2 * n + 4 : Nat) : Int)] x fun e w' => ∃ b : Nat, e = .returned (.tuple #[.slice (some ⟨b, 0, none⟩) (2 * n + 4) (2 * n + 4), .int .i64 0]) ∧ x.heap.size ≤ b ∧ Rws w' b (2 * n + 4) (tp f) ∧ Below x.heap.size x w') := hidden (fun x hx => Tape_in _ sb so len cap (2 * n + 4) f x (fun _ => rfl) (hT.keep hx) (by omega) hl hlen hcap (fun _ => hS.keep hx))
  have v1 : IntKind.i64.wrap (2 * (n : Int)) = 2 * (n : Int) := IntWalk.i64_in _ (by omega)
  have v2 : IntKind.i64.wrap (2 * (n : Int) + 4) = ((2 * n + 4 : Nat) : Int) := by rw [IntWalk.i64_in _ (by omega)]; omega
  have HN := hidden hn1
  clear hn hB hC hle hl hlen hcap hT hS hn1
  obtain ⟨m, hm⟩ : ∃ m, 2 * n + 4 = m := ⟨_, rfl⟩
  rw [hm] at TA v2
  have HM := hidden hm
  clear hm
  have M0 := (Mw.start w).new [.int .i64 B, .int .i64 C] 23
  have M1 := M0.new tz 30
  clear M0
  rw [World.size_alloc] at M1
  have MM := hidden M1
  clear M1
  have UP : Hid (Tryd.prog.underlying 30 = _) := hidden Tryd.underlying30
  have I2 : Hid ((Tryd.prog.info? 30).map (·.size) = some tz.toArray.size) := hidden ptinfo
  have I1 : Hid ((Tryd.prog.info? 30).map (·.size) = some tz.length) := hidden ptinfo
  have O2 := hidden tz_one
  have LN : Hid (tz.length = 18) := hidden rfl
  generalize hZ : tz = zp at MM I2 I1 O2 LN ⊢
  have HZ := hidden hZ
  clear hZ
  have ALC : Hid (∀ {ops : Array Oper} {rest : List Oper} {o : Oper} {a : Act} {w : World} {Q : Exit → Act → World → Prop}, o.guard = none → o.op = .alloc 30 → wpList Tryd.prog ops Q rest (a.put o.dst (.pointer (some ⟨w.heap.size, 0, none⟩))) (w.alloc (.cells zp.toArray 30)) → wpList Tryd.prog ops Q (o :: rest) a w) := hidden (by rw [← HZ.out]; exact wpList_ptalloc)
  have BUI : Hid (∀ {ops : Array Oper} {rest : List Oper} {o : Oper} {a : Act} {w : World} {Q : Exit → Act → World → Prop}, o.guard = none → o.op = .build 30 #[] → wpList Tryd.prog ops Q rest (a.put o.dst (.agg zp.toArray)) w → wpList Tryd.prog ops Q (o :: rest) a w) := hidden (by rw [← HZ.out]; exact wpList_ptbuild)
  go_enter Tryd.func4, Tryd.ntmps4
  go_upto_region 1 with (first | refine ALC.out rfl rfl ?_)
  generalize (w.alloc (.cells #[.int .i64 B, .int .i64 C] 23)).alloc (.cells zp.toArray 30) = w1 at *
  have x0 := (MM.out.r (w.heap.size, [.int .i64 B, .int .i64 C]) (by simp)).1 0 _ rfl
  have x1 := (MM.out.r (w.heap.size, [.int .i64 B, .int .i64 C]) (by simp)).1 1 _ rfl
  simp only [Nat.zero_add] at x0 x1
  go_upto_region 7 with (first | (go_at_call 11; refine (AL.out _).mono ?_; rintro e w2 ⟨rfl, hb⟩; have M2 := hidden (MM.out.keep hb); clear hb MM x0 x1; have x0 := (M2.out.r (w.heap.size, [.int .i64 B, .int .i64 C]) (by simp)).1 0 _ rfl; have x1 := (M2.out.r (w.heap.size, [.int .i64 B, .int .i64 C]) (by simp)).1 1 _ rfl; simp only [Nat.zero_add] at x0 x1) | (go_at_call 14; refine (SZ.out _).mono ?_; rintro e w3 ⟨rfl, hb⟩; have M3 := hidden (M2.out.keep hb); have BL3 := hidden M3.out.bel; have HLT := hidden (M3.out.r (w.heap.size + 1, zp) (by simp)).2.2.2; clear hb M2 x0 x1) | (go_at_call 15; refine (TA.out _ BL3.out).mono ?_; rintro e w4 ⟨b, rfl, hg, hr, hb⟩; have RW := hidden hr; have GE := hidden hg; have M4 := hidden (M3.out.keep hb); clear hb hr hg M3) | (go_at_call 16; refine (failed_any 0 _).mono ?_; rintro e w5 ⟨rfl, h5⟩; have h6 := h5.symm; subst h6; clear h5))
  have hmm := HM.out; have hnn := HN.out; have hge := GE.out; have hb3 := BL3.out.size
  have hlt : w.heap.size + 1 < w3.heap.size := HLT.out
  have nT : b ≠ w.heap.size + 1 := by omega
  have tZ : w4.there (w.heap.size + 1) 0 18 := by have := (M4.out.r (w.heap.size + 1, zp) (by simp)).2.1; rw [LN.out] at this; exact this
  have rw0 := RW.out
  have c00 : w4.cell? ⟨b, 0, none⟩ = some (.int .u64 (tp f (0)).x0) := by have := rw0.c0 (0) (by omega); simpa using this
  have c01 : w4.cell? ⟨b, 1, none⟩ = some (.int .u64 (tp f (0)).x1) := by have := rw0.c1 (0) (by omega); simpa using this
  have c02 : w4.cell? ⟨b, 2, none⟩ = some (.int .u64 (tp f (0)).x2) := by have := rw0.c2 (0) (by omega); simpa using this
  have c03 : w4.cell? ⟨b, 3, none⟩ = some (.int .u64 (tp f (0)).x3) := by have := rw0.c3 (0) (by omega); simpa using this
  have c10 : w4.cell? ⟨b, 4, none⟩ = some (.int .u64 (tp f (1)).x0) := by have := rw0.c0 (1) (by omega); simpa using this
  have c11 : w4.cell? ⟨b, 5, none⟩ = some (.int .u64 (tp f (1)).x1) := by have := rw0.c1 (1) (by omega); simpa using this
  have c12 : w4.cell? ⟨b, 6, none⟩ = some (.int .u64 (tp f (1)).x2) := by have := rw0.c2 (1) (by omega); simpa using this
  have c13 : w4.cell? ⟨b, 7, none⟩ = some (.int .u64 (tp f (1)).x3) := by have := rw0.c3 (1) (by omega); simpa using this
  have c20 : w4.cell? ⟨b, (2 * n + 2) * 4, none⟩ = some (.int .u64 (tp f (2 * n + 2)).x0) := by have := rw0.c0 (2 * n + 2) (by omega); simpa using this
  have c21 : w4.cell? ⟨b, (2 * n + 2) * 4 + 1, none⟩ = some (.int .u64 (tp f (2 * n + 2)).x1) := by have := rw0.c1 (2 * n + 2) (by omega); simpa using this
  have c22 : w4.cell? ⟨b, (2 * n + 2) * 4 + 2, none⟩ = some (.int .u64 (tp f (2 * n + 2)).x2) := by have := rw0.c2 (2 * n + 2) (by omega); simpa using this
  have c23 : w4.cell? ⟨b, (2 * n + 2) * 4 + 3, none⟩ = some (.int .u64 (tp f (2 * n + 2)).x3) := by have := rw0.c3 (2 * n + 2) (by omega); simpa using this
  have c30 : w4.cell? ⟨b, (2 * n + 3) * 4, none⟩ = some (.int .u64 (tp f (2 * n + 3)).x0) := by have := rw0.c0 (2 * n + 3) (by omega); simpa using this
  have c31 : w4.cell? ⟨b, (2 * n + 3) * 4 + 1, none⟩ = some (.int .u64 (tp f (2 * n + 3)).x1) := by have := rw0.c1 (2 * n + 3) (by omega); simpa using this
  have c32 : w4.cell? ⟨b, (2 * n + 3) * 4 + 2, none⟩ = some (.int .u64 (tp f (2 * n + 3)).x2) := by have := rw0.c2 (2 * n + 3) (by omega); simpa using this
  have c33 : w4.cell? ⟨b, (2 * n + 3) * 4 + 3, none⟩ = some (.int .u64 (tp f (2 * n + 3)).x3) := by have := rw0.c3 (2 * n + 3) (by omega); simpa using this
  refine rt7 _ (w.heap.size + 1) b n m (n + 2) (2 * n) (2 * n + 2) (2 * n + 3) (tp f 0) (tp f 1) (tp f (2 * n + 2)) (tp f (2 * n + 3)) (tp f) _ _ _ _ _ _ _ _ _ _ _ _ _ _ _ _ _ _ _ _ _ _ _ _ _ _ _ _ _ _ _ _ _ _ _ _ _ _ _ _ _ _ _ _ _ _ _ _ _ _ _ _ _ _ _ _ _ w4 nT tZ (by omega) (by omega) rfl rfl rfl rfl c00 c01 c02 c03 c10 c11 c12 c13 c20 c21 c22 c23 c30 c31 c32 c33 (hidden (fun x hx => sclone_in b m 2 n (m - 2) (tp f) x (rw0.grow hx nT) (by omega) h1 (by omega))) (hidden (fun x hx => sclone_in b m (n + 2) n (m - (n + 2)) (tp f) x (rw0.grow hx nT) (by omega) h1 (by omega))) (hidden ?_)
  intro q1 d1 q2 d2 wy hby g1 g2 r1 r2
  obtain ⟨cs, hcs⟩ : ∃ cs, tc (tp f 0) (tp f 1) (tp f (2 * n + 2)) (tp f (2 * n + 3)) (.slice (some ⟨q1, 0, none⟩) n d1) (.slice (some ⟨q2, 0, none⟩) n d2) = cs := ⟨_, rfl⟩
  have ls : cs.length = 18 := by rw [← hcs]; rfl
  have TH : wy.there (w.heap.size + 1) 0 cs.length := by rw [ls]; exact there_keepM tZ hby
  have GS := gb_setCells (w.heap.size + 1) cs 0 wy
  have LD := hidden (run_loadVar_mid (P := Tryd.prog) (wy.setCells (w.heap.size + 1) 0 cs) (w.heap.size + 1) 0 30 cs _ (World.rangeAt_setCells_same wy _ 0 _ TH) Tryd.underlying30 rfl (by rw [ls]; exact ptinfo))
  have BX := bl_trans M4.out.bel hby
  have BF := hidden (BX.grown GS BX.size (fun j hj => by obtain rfl := Option.some.inj hj; omega))
  have s4 : w3.heap.size ≤ w4.heap.size := by have := rw0.lt; omega
  have R1 := hidden (r1.grow GS (by omega))
  have R2 := hidden (r2.grow GS (by omega))
  have NN := hidden (show w.heap.size ≤ q1 ∧ w.heap.size ≤ q2 from ⟨by omega, by omega⟩)
  have HCS := hidden hcs
  rw [hcs]
  generalize wy.setCells (w.heap.size + 1) 0 cs = wz at *
  clear GS TH c00 c01 c02 c03 c10 c11 c12 c13 c20 c21 c22 c23 c30 c31 c32 c33 hby BX tZ rw0 hmm hnn hge hb3 hlt nT ls hcs r1 r2 g1 g2 s4
  go_wp2_with fail
  refine bodyPost_ret (v := .tuple #[.agg cs.toArray, .int .i64 0]) (results_tupM Tryd.results4 _ _ _ _ _ _ (by rfl) (by rfl) LD.out) rfl ?_
  exact ⟨q1, d1, q2, d2, by rw [HCS.out], NN.out.1, NN.out.2, R1.out, R2.out, BF.out⟩
set_option maxRecDepth 100000 in
set_option maxHeartbeats 8000000 in
theorem rrtape_in (B C n : Nat) (hn : B * C = n) (hB : B ≤ 64) (hC : C ≤ 16) (h1 : 0 < n) (sb so len cap : Nat) (f : Nat → Int) (hal : al B C = true) (hl : 64 * (2 * n + 4) ≤ len) (hlen : len < 9223372036854775807) (hcap : len ≤ cap) (w : World) (hS : Bs w sb so len f) :
    Calls Tryd.prog 5 #[.agg #[.int .i64 B, .int .i64 C], .slice (some ⟨sb, so, none⟩) len cap] w fun e w' => ∃ (b c : Nat), e = .returned (.tuple #[.agg (tc (tp f 0) (tp f 1) (tp f (2 * n + 2)) (tp f (2 * n + 3)) (.slice (some ⟨b, 8, none⟩) n (c - 2)) (.slice (some ⟨b, (n + 2) * 4, none⟩) n (c - (n + 2)))).toArray, .int .i64 0]) ∧ w.heap.size ≤ b ∧ Rws w' b (2 * n + 4) (tp f) ∧ Below w.heap.size w w' := by
  have AL := hidden (fun w => Allowed_any B C w)
  rw [hal] at AL
  clear hal
  have hle : B * C ≤ 64 * 16 := Nat.mul_le_mul hB hC
  have SZ := hidden (fun w => Size_any B C n hn hB hC w)
  have hn1 : n ≤ 1024 := by omega
  have TA : Hid (∀ x, Below w.heap.size w x → Calls Tryd.prog 18 #[.slice (some ⟨sb, so, none⟩) len cap, .int .i64 ((2 * n + 4 : Nat) : Int)] x fun e w' => ∃ b c : Nat, e = .returned (.tuple #[.slice (some ⟨b, 0, none⟩) (2 * n + 4) c, .int .i64 0]) ∧ x.heap.size ≤ b ∧ 2 * n + 4 ≤ c ∧ Rws w' b (2 * n + 4) (tp f) ∧ Below x.heap.size x w') := hidden (fun x hx => (rTape_c _ sb so len cap (2 * n + 4) f x (fun _ => rfl) (by omega) hl hlen (fun _ => hS.keep hx)).mono (by rintro e w' ⟨v, p, c, rfl, rfl, h, hb⟩; obtain ⟨b, rfl, h1, h2, h3⟩ := h (by omega); exact ⟨b, c, rfl, h1, h3, h2, hb⟩))
  have v1 : IntKind.i64.wrap (2 * (n : Int)) = 2 * (n : Int) := IntWalk.i64_in _ (by omega)
  have v2 : IntKind.i64.wrap (2 * (n : Int) + 4) = ((2 * n + 4 : Nat) : Int) := by rw [IntWalk.i64_in _ (by omega)]; omega
  have HN := hidden hn1
  clear hn hB hC hle hl hlen hcap hS hn1
  obtain ⟨m, hm⟩ : ∃ m, 2 * n + 4 = m := ⟨_, rfl⟩
  rw [hm] at TA v2 ⊢
  have HM := hidden hm
  clear hm
  have M0 := (Mw.start w).new [.int .i64 B, .int .i64 C] 23
  have M1 := M0.new tz 37
  clear M0
  rw [World.size_alloc] at M1
  have MM := hidden M1
  clear M1
  have UP : Hid (Tryd.prog.underlying 37 = _) := hidden Tryd.underlying37
  have I2 : Hid ((Tryd.prog.info? 37).map (·.size) = some tz.toArray.size) := hidden rtinfo
  have I1 : Hid ((Tryd.prog.info? 37).map (·.size) = some tz.length) := hidden rtinfo
  have O2 := hidden tz_one
  have LN : Hid (tz.length = 18) := hidden rfl
  generalize hZ : tz = zp at MM I2 I1 O2 LN ⊢
  have HZ := hidden hZ
  clear hZ
  have ALC : Hid (∀ {ops : Array Oper} {rest : List Oper} {o : Oper} {a : Act} {w : World} {Q : Exit → Act → World → Prop}, o.guard = none → o.op = .alloc 37 → wpList Tryd.prog ops Q rest (a.put o.dst (.pointer (some ⟨w.heap.size, 0, none⟩))) (w.alloc (.cells zp.toArray 37)) → wpList Tryd.prog ops Q (o :: rest) a w) := hidden (by rw [← HZ.out]; exact wpList_rtalloc)
  have BUI : Hid (∀ {ops : Array Oper} {rest : List Oper} {o : Oper} {a : Act} {w : World} {Q : Exit → Act → World → Prop}, o.guard = none → o.op = .build 37 #[] → wpList Tryd.prog ops Q rest (a.put o.dst (.agg zp.toArray)) w → wpList Tryd.prog ops Q (o :: rest) a w) := hidden (by rw [← HZ.out]; exact wpList_rtbuild)
  go_enter Tryd.func5, Tryd.ntmps5
  go_upto_region 1 with (first | refine ALC.out rfl rfl ?_)
  generalize (w.alloc (.cells #[.int .i64 B, .int .i64 C] 23)).alloc (.cells zp.toArray 37) = w1 at *
  have x0 := (MM.out.r (w.heap.size, [.int .i64 B, .int .i64 C]) (by simp)).1 0 _ rfl
  have x1 := (MM.out.r (w.heap.size, [.int .i64 B, .int .i64 C]) (by simp)).1 1 _ rfl
  simp only [Nat.zero_add] at x0 x1
  go_upto_region 8 with (first | (go_at_call 11; refine (AL.out _).mono ?_; rintro e w2 ⟨rfl, hb⟩; have M2 := hidden (MM.out.keep hb); clear hb MM x0 x1; have x0 := (M2.out.r (w.heap.size, [.int .i64 B, .int .i64 C]) (by simp)).1 0 _ rfl; have x1 := (M2.out.r (w.heap.size, [.int .i64 B, .int .i64 C]) (by simp)).1 1 _ rfl; simp only [Nat.zero_add] at x0 x1) | (go_at_call 14; refine (SZ.out _).mono ?_; rintro e w3 ⟨rfl, hb⟩; have M3 := hidden (M2.out.keep hb); have BL3 := hidden M3.out.bel; have HLT := hidden (M3.out.r (w.heap.size + 1, zp) (by simp)).2.2.2; clear hb M2 x0 x1) | (go_at_call 18; refine (TA.out _ BL3.out).mono ?_; rintro e w4 ⟨b, c, rfl, hg, hcc, hr, hb⟩; have RW := hidden hr; have GE := hidden hg; have CC := hidden hcc; have M4 := hidden (M3.out.keep hb); clear hb hr hg hcc M3))
  have hmm := HM.out; have hnn := HN.out; have hge := GE.out; have hb3 := BL3.out.size
  have hlt : w.heap.size + 1 < w3.heap.size := HLT.out
  have nT : b ≠ w.heap.size + 1 := by omega
  have tZ : w4.there (w.heap.size + 1) 0 18 := by have := (M4.out.r (w.heap.size + 1, zp) (by simp)).2.1; rw [LN.out] at this; exact this
  have rw0 := RW.out
  have c00 : w4.cell? ⟨b, 0, none⟩ = some (.int .u64 (tp f (0)).x0) := by have := rw0.c0 (0) (by omega); simpa using this
  have c01 : w4.cell? ⟨b, 1, none⟩ = some (.int .u64 (tp f (0)).x1) := by have := rw0.c1 (0) (by omega); simpa using this
  have c02 : w4.cell? ⟨b, 2, none⟩ = some (.int .u64 (tp f (0)).x2) := by have := rw0.c2 (0) (by omega); simpa using this
  have c03 : w4.cell? ⟨b, 3, none⟩ = some (.int .u64 (tp f (0)).x3) := by have := rw0.c3 (0) (by omega); simpa using this
  have c10 : w4.cell? ⟨b, 4, none⟩ = some (.int .u64 (tp f (1)).x0) := by have := rw0.c0 (1) (by omega); simpa using this
  have c11 : w4.cell? ⟨b, 5, none⟩ = some (.int .u64 (tp f (1)).x1) := by have := rw0.c1 (1) (by omega); simpa using this
  have c12 : w4.cell? ⟨b, 6, none⟩ = some (.int .u64 (tp f (1)).x2) := by have := rw0.c2 (1) (by omega); simpa using this
  have c13 : w4.cell? ⟨b, 7, none⟩ = some (.int .u64 (tp f (1)).x3) := by have := rw0.c3 (1) (by omega); simpa using this
  have c20 : w4.cell? ⟨b, (2 * n + 2) * 4, none⟩ = some (.int .u64 (tp f (2 * n + 2)).x0) := by have := rw0.c0 (2 * n + 2) (by omega); simpa using this
  have c21 : w4.cell? ⟨b, (2 * n + 2) * 4 + 1, none⟩ = some (.int .u64 (tp f (2 * n + 2)).x1) := by have := rw0.c1 (2 * n + 2) (by omega); simpa using this
  have c22 : w4.cell? ⟨b, (2 * n + 2) * 4 + 2, none⟩ = some (.int .u64 (tp f (2 * n + 2)).x2) := by have := rw0.c2 (2 * n + 2) (by omega); simpa using this
  have c23 : w4.cell? ⟨b, (2 * n + 2) * 4 + 3, none⟩ = some (.int .u64 (tp f (2 * n + 2)).x3) := by have := rw0.c3 (2 * n + 2) (by omega); simpa using this
  have c30 : w4.cell? ⟨b, (2 * n + 3) * 4, none⟩ = some (.int .u64 (tp f (2 * n + 3)).x0) := by have := rw0.c0 (2 * n + 3) (by omega); simpa using this
  have c31 : w4.cell? ⟨b, (2 * n + 3) * 4 + 1, none⟩ = some (.int .u64 (tp f (2 * n + 3)).x1) := by have := rw0.c1 (2 * n + 3) (by omega); simpa using this
  have c32 : w4.cell? ⟨b, (2 * n + 3) * 4 + 2, none⟩ = some (.int .u64 (tp f (2 * n + 3)).x2) := by have := rw0.c2 (2 * n + 3) (by omega); simpa using this
  have c33 : w4.cell? ⟨b, (2 * n + 3) * 4 + 3, none⟩ = some (.int .u64 (tp f (2 * n + 3)).x3) := by have := rw0.c3 (2 * n + 3) (by omega); simpa using this
  refine rr8 _ (w.heap.size + 1) b n m c (n + 2) (2 * n) (2 * n + 2) (2 * n + 3) (tp f 0) (tp f 1) (tp f (2 * n + 2)) (tp f (2 * n + 3)) (tp f) _ _ _ _ _ _ _ _ _ _ _ _ _ _ _ _ _ _ _ _ _ _ _ _ _ _ _ _ _ _ _ _ _ _ _ _ _ _ _ _ _ _ _ _ _ _ _ _ _ _ _ _ _ _ _ _ w4 nT tZ (by omega) CC.out (by omega) rfl rfl rfl rfl c00 c01 c02 c03 c10 c11 c12 c13 c20 c21 c22 c23 c30 c31 c32 c33 (hidden ?_)
  intro wy hby
  obtain ⟨cs, hcs⟩ : ∃ cs, tc (tp f 0) (tp f 1) (tp f (2 * n + 2)) (tp f (2 * n + 3)) (.slice (some ⟨b, 8, none⟩) n (c - 2)) (.slice (some ⟨b, (n + 2) * 4, none⟩) n (c - (n + 2))) = cs := ⟨_, rfl⟩
  have ls : cs.length = 18 := by rw [← hcs]; rfl
  have TH : wy.there (w.heap.size + 1) 0 cs.length := by rw [ls]; exact there_keepM tZ hby
  have GS := gb_setCells (w.heap.size + 1) cs 0 wy
  have LD := hidden (run_loadVar_mid (P := Tryd.prog) (wy.setCells (w.heap.size + 1) 0 cs) (w.heap.size + 1) 0 37 cs _ (World.rangeAt_setCells_same wy _ 0 _ TH) Tryd.underlying37 rfl (by rw [ls]; exact rtinfo))
  have BX := bl_trans M4.out.bel hby
  have BF := hidden (BX.grown GS BX.size (fun j hj => by obtain rfl := Option.some.inj hj; omega))
  have R1 := hidden ((rw0.keep hby).grow GS nT)
  have NN := hidden (show w.heap.size ≤ b from by omega)
  have HCS := hidden hcs
  rw [hcs]
  generalize wy.setCells (w.heap.size + 1) 0 cs = wz at *
  clear GS TH c00 c01 c02 c03 c10 c11 c12 c13 c20 c21 c22 c23 c30 c31 c32 c33 hby BX tZ rw0 hmm hnn hge hb3 hlt nT ls hcs
  go_wp2_with fail
  refine bodyPost_ret (v := .tuple #[.agg cs.toArray, .int .i64 0]) (results_tupM Tryd.results5 _ _ _ _ _ _ (by rfl) (by rfl) LD.out) rfl ?_
  exact ⟨b, c, by rw [HCS.out], NN.out, R1.out, BF.out⟩
end Go.Proofs.YtpblcnefihhhoaaDoor
namespace Go.Proofs.YtpblcnefihhhoaaDoor
open Go.RowKit
set_option linter.unusedVariables false
theorem eq4r (a b : E4) (w : World) : (Op.equalIn 10000 34 a.v b.v).run Tryd.prog w = .ok (a.same b) w := by
  have hi : Tryd.prog.info? 25 = some (Tryd.prog.info? 25).get! := by kernel_rfl
  have hc : Tryd.prog.cellsOf 25 = 1 := by kernel_rfl
  unfold E4.v
  rw [run_equalIn_array w 9999 _ _ (by kernel_rfl : Tryd.prog.underlying 34 = some (.array 4 25)) hi, hc]
  rw [eqItems_ints w (k := .u64) 9998 (by kernel_rfl) (by kernel_rfl) _ _ (fun i => [a.x0, a.x1, a.x2, a.x3].getD i 0) (fun i => [b.x0, b.x1, b.x2, b.x3].getD i 0)]
  · rw [show List.range 4 = [0, 1, 2, 3] from rfl]
    simp only [List.all_cons, List.all_nil, Bool.and_true]
    rfl
  · intro i hi
    have : i < 4 := List.mem_range.1 hi
    match i, this with
    | 0, _ => exact ⟨rfl, rfl⟩
    | 1, _ => exact ⟨rfl, rfl⟩
    | 2, _ => exact ⟨rfl, rfl⟩
    | 3, _ => exact ⟨rfl, rfl⟩
theorem eq4s (q : E4) (w : World) : (Op.equalIn 10000 34 (.agg #[.int .u64 q.x0, .int .u64 q.x1, .int .u64 q.x2, .int .u64 q.x3]) (.agg #[.int .u64 q.x0, .int .u64 q.x1, .int .u64 q.x2, .int .u64 q.x3])).run Tryd.prog w = .ok true w := (eq4r q q w).trans (by rw [E4.same_self])
set_option maxRecDepth 100000 in
set_option maxHeartbeats 4000000 in
theorem vis_any (q : E4) (w : World) : Calls Tryd.prog 6 #[q.v, q.v] w fun e w' => e = .returned (.bool true) ∧ Below w.heap.size w w' := by
  have hqq := eq4s q
  have B0 := hidden (bl_alloc2 w (.cells #[.int .u64 q.x0, .int .u64 q.x1, .int .u64 q.x2, .int .u64 q.x3] 27) (.cells #[.int .u64 q.x0, .int .u64 q.x1, .int .u64 q.x2, .int .u64 q.x3] 34))
  unfold E4.v
  go_enter Tryd.func6, Tryd.ntmps6
  go_wp2_with fail
  refine bodyPost_ret (v := .bool true) (by simp [results, Tryd.results6, go_sem]) rfl ⟨rfl, B0.out⟩
/-- scalars that lie from an offset on -/
structure Rlo (w : World) (b o n : Nat) (g : Nat → E4) : Prop where
  c0 : ∀ k, k < n → w.cell? ⟨b, o + k * 4, none⟩ = some (.int .u64 (g k).x0)
  c1 : ∀ k, k < n → w.cell? ⟨b, o + k * 4 + 1, none⟩ = some (.int .u64 (g k).x1)
  c2 : ∀ k, k < n → w.cell? ⟨b, o + k * 4 + 2, none⟩ = some (.int .u64 (g k).x2)
  c3 : ∀ k, k < n → w.cell? ⟨b, o + k * 4 + 3, none⟩ = some (.int .u64 (g k).x3)
theorem Rlo.keep {w1 w2 : World} {b o n : Nat} {g : Nat → E4} (h : Rlo w1 b o n g) (hb : Below w1.heap.size w1 w2) : Rlo w2 b o n g :=
  ⟨fun k hk => cell_keep (h.c0 k hk) hb, fun k hk => cell_keep (h.c1 k hk) hb, fun k hk => cell_keep (h.c2 k hk) hb, fun k hk => cell_keep (h.c3 k hk) hb⟩
theorem Rws.part {w : World} {b m : Nat} {g : Nat → E4} (h : Rws w b m g) (o n : Nat) (hn : o + n ≤ m) : Rlo w b (o * 4) n (fun k => g (o + k)) :=
  ⟨fun k hk => by have := h.c0 (o + k) (by omega); rwa [show (o + k) * 4 = o * 4 + k * 4 by omega] at this,
   fun k hk => by have := h.c1 (o + k) (by omega); rwa [show (o + k) * 4 + 1 = o * 4 + k * 4 + 1 by omega] at this,
   fun k hk => by have := h.c2 (o + k) (by omega); rwa [show (o + k) * 4 + 2 = o * 4 + k * 4 + 2 by omega] at this,
   fun k hk => by have := h.c3 (o + k) (by omega); rwa [show (o + k) * 4 + 3 = o * 4 + k * 4 + 3 by omega] at this⟩
set_option maxRecDepth 100000 in
set_option maxHeartbeats 4000000 in
theorem sameNums_nil (w : World) : Calls Tryd.prog 7 #[.slice none 0 0, .slice none 0 0] w fun e w' => e = .returned (.bool true) ∧ Below w.heap.size w w' := by
  go_enter Tryd.func7, Tryd.ntmps7
  go_wp2_with fail
  refine wp_loop_rounds 1 ?_
  rw [rounds_succ]
  go_wp2_with fail
  refine bodyPost_ret (v := .bool true) (by simp [results, Tryd.results7, go_sem]) rfl ⟨rfl, Below.refl _ _⟩
set_option maxRecDepth 100000 in
set_option maxHeartbeats 4000000 in
theorem sameNums_in (b1 o1 b2 o2 n c1 c2 : Nat) (g : Nat → E4) (w : World) (hn : n ≤ 1024) (h1 : Rlo w b1 o1 n g) (h2 : Rlo w b2 o2 n g) :
    Calls Tryd.prog 7 #[.slice (some ⟨b1, o1, none⟩) n c1, .slice (some ⟨b2, o2, none⟩) n c2] w fun e w' => e = .returned (.bool true) ∧ Below w.heap.size w w' := by
  have H1 := hidden h1
  have H2 := hidden h2
  have HN := hidden hn
  have nn0 : (0 : Int) ≤ (n : Int) := by omega
  clear h1 h2 hn
  go_enter Tryd.func7, Tryd.ntmps7
  go_wp2_with fail
  go_loopw [5] (fun iv w' => ∃ i : Nat, i ≤ n ∧ iv = .int .i64 i ∧ Hid (Below w.heap.size w w')) (fun i _ => n - (intOf i).toNat)
  case atStart => exact ⟨0, by omega, rfl, hidden (Below.refl _ _)⟩
  case round =>
    obtain ⟨i, hi, rfl, hbl⟩ := hrel
    by_cases hin : i < n
    · obtain ⟨u, hu⟩ : ∃ u, g i = u := ⟨_, rfl⟩
      have ii0 : (0 : Int) ≤ (i : Int) := by omega
      have ii1 : (i : Int) < (n : Int) := by omega
      have w9 : IntKind.i64.wrap ((i : Int) + 1) = (i : Int) + 1 := IntWalk.i64_in _ (by have := HN.out; omega)
      have hqq := eq4s u
      have BD := hidden (bl_trans hbl.out (bl_drew wr))
      have q1 := H1.out.keep BD.out
      have q2 := H2.out.keep BD.out
      have y0 := q1.c0 i hin
      have y1 := q1.c1 i hin
      have y2 := q1.c2 i hin
      have y3 := q1.c3 i hin
      have x0 := q2.c0 i hin
      have x1 := q2.c1 i hin
      have x2 := q2.c2 i hin
      have x3 := q2.c3 i hin
      simp only [hu] at y0 y1 y2 y3 x0 x1 x2 x3
      clear q1 q2 hu hbl hi
      go_upto_region 6 with fail
      go_region
      all_goals
        go_wp2_with fail
        go_roundw
        case rel => exact ⟨i + 1, by omega, by simp, BD⟩
        case measure => simp [intOf]; omega
    · have hii : n = i := by omega
      subst hii
      clear hin hi
      go_wp2_with fail
      refine bodyPost_ret (v := .bool true) (by simp [results, Tryd.results7, go_sem]) rfl ⟨rfl, hbl.out⟩
end Go.Proofs.YtpblcnefihhhoaaDoor
namespace Go.Proofs.YtpblcnefihhhoaaDoor
open Go.RowKit
set_option linter.unusedVariables false
theorem frozen_keep {w w' : World} {a : Addr} {f : Bool} (h : w.frozen? a = f) (hl : a.block < w.heap.size) (hb : Below w.heap.size w w') : w'.frozen? a = f := (hb.frozen (p := a) hl).trans h
/-- an element in a block of its own, that may be written -/
structure Bq (w0 w : World) (b : Nat) (z : E4) : Prop where
  ge : w0.heap.size ≤ b
  c0 : w.cell? ⟨b, 0, none⟩ = some (.int .u64 z.x0)
  c1 : w.cell? ⟨b, 1, none⟩ = some (.int .u64 z.x1)
  c2 : w.cell? ⟨b, 2, none⟩ = some (.int .u64 z.x2)
  c3 : w.cell? ⟨b, 3, none⟩ = some (.int .u64 z.x3)
  f0 : w.frozen? ⟨b, 0, none⟩ = false
  f1 : w.frozen? ⟨b, 1, none⟩ = false
  f2 : w.frozen? ⟨b, 2, none⟩ = false
  f3 : w.frozen? ⟨b, 3, none⟩ = false
def setq (w : World) (b o : Nat) (z : E4) : World := ((((w.setCell ⟨b, o, none⟩ (.int .u64 z.x0)).setCell ⟨b, o + 1, none⟩ (.int .u64 z.x1)).setCell ⟨b, o + 2, none⟩ (.int .u64 z.x2)).setCell ⟨b, o + 3, none⟩ (.int .u64 z.x3))
theorem setq_frozen (w : World) (b o : Nat) (z : E4) (a : Addr) : (setq w b o z).frozen? a = w.frozen? a := by unfold setq; simp only [World.frozen?_setCell]
theorem setq_size (w : World) (b o : Nat) (z : E4) : (setq w b o z).heap.size = w.heap.size := by unfold setq; simp
theorem setq_far (w : World) (b o : Nat) (z : E4) {a : Addr} (h : b ≠ a.block) : (setq w b o z).cell? a = w.cell? a := by
  unfold setq; rw [World.cell?_setCell_far _ _ _ _ h, World.cell?_setCell_far _ _ _ _ h, World.cell?_setCell_far _ _ _ _ h, World.cell?_setCell_far _ _ _ _ h]
theorem setq_ne (W : World) (b x k : Nat) (v : Value) (h : k ≠ x) : (W.setCell ⟨b, x, none⟩ v).cell? ⟨b, k, none⟩ = W.cell? ⟨b, k, none⟩ := World.cell?_setCell_other _ _ _ _ (fun e => h (by have := congrArg Addr.off e; simp only at this; omega))
theorem setq_in (w : World) (b o : Nat) (z : E4) {v0 : Value} {v1 : Value} {v2 : Value} {v3 : Value} (h0 : w.cell? ⟨b, o, none⟩ = some v0) (h1 : w.cell? ⟨b, o + 1, none⟩ = some v1) (h2 : w.cell? ⟨b, o + 2, none⟩ = some v2) (h3 : w.cell? ⟨b, o + 3, none⟩ = some v3) : (setq w b o z).cell? ⟨b, o, none⟩ = some (.int .u64 z.x0) ∧ (setq w b o z).cell? ⟨b, o + 1, none⟩ = some (.int .u64 z.x1) ∧ (setq w b o z).cell? ⟨b, o + 2, none⟩ = some (.int .u64 z.x2) ∧ (setq w b o z).cell? ⟨b, o + 3, none⟩ = some (.int .u64 z.x3) := by
  unfold setq
  refine ⟨?_, ?_, ?_, ?_⟩
  · rw [setq_ne _ _ _ _ _ (by omega), setq_ne _ _ _ _ _ (by omega), setq_ne _ _ _ _ _ (by omega)]; refine World.cell?_setCell_same (u := v0) _ _ _ ?_; exact h0
  · rw [setq_ne _ _ _ _ _ (by omega), setq_ne _ _ _ _ _ (by omega)]; refine World.cell?_setCell_same (u := v1) _ _ _ ?_; rw [setq_ne _ _ _ _ _ (by omega)]; exact h1
  · rw [setq_ne _ _ _ _ _ (by omega)]; refine World.cell?_setCell_same (u := v2) _ _ _ ?_; rw [setq_ne _ _ _ _ _ (by omega), setq_ne _ _ _ _ _ (by omega)]; exact h2
  · refine World.cell?_setCell_same (u := v3) _ _ _ ?_; rw [setq_ne _ _ _ _ _ (by omega), setq_ne _ _ _ _ _ (by omega), setq_ne _ _ _ _ _ (by omega)]; exact h3
theorem setq_bel {w0 w : World} {m b o : Nat} {z : E4} (h : Below m w0 w) (hb : m ≤ b) : Below m w0 (setq w b o z) := by
  unfold setq
  exact ((((h.setCell (p := ⟨b, o, none⟩) hb _).setCell (p := ⟨b, o + 1, none⟩) hb _).setCell (p := ⟨b, o + 2, none⟩) hb _).setCell (p := ⟨b, o + 3, none⟩) hb _)
theorem Bq.lt {w0 w : World} {b : Nat} {z : E4} (h : Bq w0 w b z) : b < w.heap.size := World.block_lt_of_cell? _ ⟨b, 0, none⟩ h.c0
theorem Bq.keep {w0 w w' : World} {b : Nat} {z : E4} (h : Bq w0 w b z) (hb : Below w.heap.size w w') : Bq w0 w' b z := ⟨h.ge, cell_keep h.c0 hb, cell_keep h.c1 hb, cell_keep h.c2 hb, cell_keep h.c3 hb, frozen_keep h.f0 h.lt hb, frozen_keep h.f1 h.lt hb, frozen_keep h.f2 h.lt hb, frozen_keep h.f3 h.lt hb⟩
theorem Bq.put {w0 w : World} {b : Nat} {z : E4} (h : Bq w0 w b z) (y : E4) : Bq w0 (setq w b 0 y) b y := by
  obtain ⟨e0, e1, e2, e3⟩ := setq_in w b 0 y h.c0 h.c1 h.c2 h.c3
  exact ⟨h.ge, e0, e1, e2, e3, by rw [setq_frozen]; exact h.f0, by rw [setq_frozen]; exact h.f1, by rw [setq_frozen]; exact h.f2, by rw [setq_frozen]; exact h.f3⟩
theorem Bq.far {w0 w : World} {b d o : Nat} {z y : E4} (h : Bq w0 w b z) (hn : d ≠ b) : Bq w0 (setq w d o y) b z :=
  ⟨h.ge, by rw [setq_far _ _ _ _ hn]; exact h.c0, by rw [setq_far _ _ _ _ hn]; exact h.c1, by rw [setq_far _ _ _ _ hn]; exact h.c2, by rw [setq_far _ _ _ _ hn]; exact h.c3, by rw [setq_frozen]; exact h.f0, by rw [setq_frozen]; exact h.f1, by rw [setq_frozen]; exact h.f2, by rw [setq_frozen]; exact h.f3⟩
theorem Bq.new {w0 w : World} (hb : Below w0.heap.size w0 w) (z : E4) (t : TypeId) : Bq w0 (w.alloc (.cells #[.int .u64 z.x0, .int .u64 z.x1, .int .u64 z.x2, .int .u64 z.x3] t)) w.heap.size z := ⟨hb.size, by go_simp, by go_simp, by go_simp, by go_simp, by go_simp, by go_simp, by go_simp, by go_simp⟩
theorem Bq.mono {w0 w1 w : World} {b : Nat} {z : E4} (h : Bq w1 w b z) (hs : w0.heap.size ≤ w1.heap.size) : Bq w0 w b z := ⟨Nat.le_trans hs h.ge, h.c0, h.c1, h.c2, h.c3, h.f0, h.f1, h.f2, h.f3⟩
theorem mq_Mul (a : E4) (w : World) : (method 249 27 (.agg #[.int .u64 a.x0, .int .u64 a.x1, .int .u64 a.x2, .int .u64 a.x3]) "Mul").run Tryd.prog w = .ok (37, .agg #[.int .u64 a.x0, .int .u64 a.x1, .int .u64 a.x2, .int .u64 a.x3]) w := by kernel_rfl
theorem mq_One (a : E4) (w : World) : (method 249 27 (.agg #[.int .u64 a.x0, .int .u64 a.x1, .int .u64 a.x2, .int .u64 a.x3]) "One").run Tryd.prog w = .ok (82, .agg #[.int .u64 a.x0, .int .u64 a.x1, .int .u64 a.x2, .int .u64 a.x3]) w := by kernel_rfl
theorem mq_Add (a : E4) (w : World) : (method 249 27 (.agg #[.int .u64 a.x0, .int .u64 a.x1, .int .u64 a.x2, .int .u64 a.x3]) "Add").run Tryd.prog w = .ok (51, .agg #[.int .u64 a.x0, .int .u64 a.x1, .int .u64 a.x2, .int .u64 a.x3]) w := by kernel_rfl
theorem Rws.farq {w : World} {b n : Nat} {g : Nat → E4} (h : Rws w b n g) {c : Nat} (hne : c ≠ b) (o : Nat) (s : E4) : Rws (setq w c o s) b n g := (((h.far hne o _).far hne (o + 1) _).far hne (o + 2) _).far hne (o + 3) _
theorem Rws.putq {w : World} {b n : Nat} {g : Nat → E4} (h : Rws w b n g) (k : Nat) (hk : k < n) (r : E4) : Rws (setq w b (k * 4) r) b n (fun j => if j = k then r else g j) := h.at k hk r
theorem ow_is (x : E4) (w : World) : Calls Tryd.prog 82 #[x.v] w fun e w' => e = .returned (lst 1).v ∧ Below w.heap.size w w' := fix (One_any x w) rfl
theorem pw_next (n : Int) (i : Nat) : lst ((lst (n ^ i)).n * n) = lst (n ^ (i + 1)) := by rw [lst_mul, Int.pow_succ]
set_option maxRecDepth 100000 in
set_option maxHeartbeats 8000000 in
theorem Powers_in (x : E4) (n : Nat) (w : World) (hT : Tb w) (hx : x.ok) (hn : n ≤ 4096) :
    Calls Tryd.prog 61 #[x.v, .int .i64 n] w fun e w' => ∃ b : Nat, e = .returned (.tuple #[.slice (some ⟨b, 0, none⟩) n n, .int .i64 0]) ∧ w.heap.size ≤ b ∧ Rws w' b n (fun k => lst (x.n ^ k)) ∧ Below w.heap.size w w' := by
  have HT := hidden hT
  have ON := hidden (fun w => ow_is x w)
  have MU := hidden (fun (i : Nat) w T => fix (Mul_any (lst (x.n ^ i)) x w T (lst_ok _) hx) (pw_next x.n i))
  simp only [E4.v] at ON MU
  have nn0 : ¬ (n : Int) < 0 := by omega
  have nn1 : ¬ (4096 : Int) < (n : Int) := by omega
  have nn2 : (0 : Int) ≤ (n : Int) := by omega
  have m1 := mq_One x
  obtain ⟨i0, hi, hz0, hz1, hz2⟩ := info_parts sinfo
  have hmk := fun w => run_make (P := Tryd.prog) w 28 27 i0 (.agg #[.int .u64 0, .int .u64 0, .int .u64 0, .int .u64 0]) (by kernel_rfl) hi hz0 .i64 .i64 (n : Int) (n : Int) (by omega) (Int.le_refl _) (by rw [hz2]; omega) (by omega)
  simp only [Int.toNat_natCast, hz1] at hmk
  have X0 := Bq.new (Below.refl _ w) x 27
  have B0 := bl_alloc w (.cells #[.int .u64 x.x0, .int .u64 x.x1, .int .u64 x.x2, .int .u64 x.x3] 27)
  have R0 := Rws.made (w.alloc (.cells #[.int .u64 x.x0, .int .u64 x.x1, .int .u64 x.x2, .int .u64 x.x3] 27)) n 27
  have B1 := hidden (bl_trans B0 (bl_alloc _ (.cells (madeCells #[.int .u64 0, .int .u64 0, .int .u64 0, .int .u64 0] (n * 4)) 27)))
  have X1 := hidden (X0.keep (bl_alloc _ (.cells (madeCells #[.int .u64 0, .int .u64 0, .int .u64 0, .int .u64 0] (n * 4)) 27)))
  rw [World.size_alloc] at R0
  have RR := hidden R0
  have HN := hidden hn
  clear hT hx hi hz0 hz1 hz2 X0 B0 R0 hn
  unfold E4.v
  go_enter Tryd.func61, Tryd.ntmps61
  go_upto_region 4 with fail
  generalize ((w.alloc (.cells #[.int .u64 x.x0, .int .u64 x.x1, .int .u64 x.x2, .int .u64 x.x3] 27)).alloc (.cells (madeCells #[.int .u64 0, .int .u64 0, .int .u64 0, .int .u64 0] (n * 4)) 27)) = wB at B1 X1 RR ⊢
  clear hmk
  obtain ⟨p, hp⟩ : ∃ p, lst 1 = p := ⟨_, rfl⟩
  rw [hp] at ON
  have HP := hidden hp
  clear hp
  have x0 := X1.out.c0; have x1 := X1.out.c1; have x2 := X1.out.c2; have x3 := X1.out.c3
  go_upto_region 5 with (first | (go_at_call 82; refine (ON.out _).mono ?_; rintro e w1 ⟨rfl, hb⟩; have BB := hidden (bl_trans B1.out (bl_trans hb (bl_alloc w1 (.cells #[.int .u64 p.x0, .int .u64 p.x1, .int .u64 p.x2, .int .u64 p.x3] 27)))); have X2 := hidden ((X1.out.keep hb).keep (bl_alloc w1 (.cells #[.int .u64 p.x0, .int .u64 p.x1, .int .u64 p.x2, .int .u64 p.x3] 27))); have R2' := hidden ((RR.out.keep hb).keep (bl_alloc w1 (.cells #[.int .u64 p.x0, .int .u64 p.x1, .int .u64 p.x2, .int .u64 p.x3] 27))); have T7 := hidden ((Bq.new (Below.refl _ w1) p 27).mono (w0 := w) (Nat.le_trans B1.out.size hb.size)); have hlt : w.heap.size + 1 < w1.heap.size := Rws.lt (RR.out.keep hb); clear hb))
  generalize w1.heap.size = T at T7 hlt ⊢
  generalize (w1.alloc (.cells #[.int .u64 p.x0, .int .u64 p.x1, .int .u64 p.x2, .int .u64 p.x3] 27)) = wC at BB X2 R2' T7 ⊢
  have T8 : Hid (Bq w wC T (lst (x.n ^ 0))) := hidden (by rw [Int.pow_zero, HP.out]; exact T7.out)
  have HLT := hidden hlt
  clear x0 x1 x2 x3 B1 X1 RR ON m1 T7 HP hlt
  go_wp2_with fail
  go_loopw [22] (fun kv w' => ∃ i : Nat, i ≤ n ∧ kv = .int .i64 i ∧ Hid (Below w.heap.size w w') ∧ Hid (Bq w w' w.heap.size x) ∧ Hid (Bq w w' T (lst (x.n ^ i))) ∧ Hid (Rws w' (w.heap.size + 1) n (fun k => if k < i then lst (x.n ^ k) else zero4))) (fun k _ => n - (intOf k).toNat)
  case atStart => exact ⟨0, by omega, rfl, BB, X2, T8, hidden (R2'.out.congr (fun k _ => (if_neg (by omega)).symm))⟩
  case round =>
    clear BB X2 R2' T8
    obtain ⟨i, hi, rfl, hB, hX, hP, hR⟩ := hrel
    by_cases hin : i < n
    · have ii0 : (0 : Int) ≤ (i : Int) := by omega
      have ii1 : (i : Int) < (n : Int) := by omega
      have w9 : IntKind.i64.wrap ((i : Int) + 1) = (i : Int) + 1 := IntWalk.i64_in _ (by have := HN.out; omega)
      have M := hidden (MU.out i)
      obtain ⟨u, hu⟩ : ∃ u, lst (x.n ^ i) = u := ⟨_, rfl⟩
      obtain ⟨v, hv⟩ : ∃ v, lst (x.n ^ (i + 1)) = v := ⟨_, rfl⟩
      have HU := hidden hu; have HV := hidden hv
      rw [hu, hv] at M
      rw [hu] at hP
      have mM := mq_Mul u
      have l0 := hR.out.c0 i hin; have l1 := hR.out.c1 i hin; have l2 := hR.out.c2 i hin; have l3 := hR.out.c3 i hin
      have g0 := hR.out.fr (i * 4) (by omega); have g1 := hR.out.fr (i * 4 + 1) (by omega); have g2 := hR.out.fr (i * 4 + 2) (by omega); have g3 := hR.out.fr (i * 4 + 3) (by omega)
      have p0 := hP.out.c0; have p1 := hP.out.c1; have p2 := hP.out.c2; have p3 := hP.out.c3
      have NR := hidden (hR.out.putq i hin u)
      have NX := hidden (hX.out.far (d := w.heap.size + 1) (o := i * 4) (y := u) (by omega))
      have NT := hidden (hP.out.far (d := w.heap.size + 1) (o := i * 4) (y := u) (by have := HLT.out; omega))
      have NB := hidden (setq_bel (o := i * 4) (z := u) hB.out (show w.heap.size ≤ w.heap.size + 1 by omega))
      unfold setq at NR NX NT NB
      clear hR hP hX hB hu hv hi
      go_upto_region 9 with fail
      clear p0 p1 p2 p3 l0 l1 l2 l3 g0 g1 g2 g3
      generalize World.setCell _ _ _ = wD at NR NX NT NB ⊢
      have p0 := NT.out.c0; have p1 := NT.out.c1; have p2 := NT.out.c2; have p3 := NT.out.c3
      have y0 := NX.out.c0; have y1 := NX.out.c1; have y2 := NX.out.c2; have y3 := NX.out.c3
      go_wp2_with (first | (go_at_call 37; refine (M.out _ (HT.out.keep NB.out)).mono ?_; rintro e wa ⟨rfl, ha⟩; have P3 := NT.out.keep ha; have q0 := P3.c0; have q1 := P3.c1; have q2 := P3.c2; have q3 := P3.c3; have f0 := P3.f0; have f1 := P3.f1; have f2 := P3.f2; have f3 := P3.f3; have HBA := hidden ha; clear ha P3))
      have YX := hidden ((NX.out.keep HBA.out).far (d := T) (o := 0) (y := v) (by have := HLT.out; omega))
      have YR := hidden ((NR.out.keep HBA.out).farq (c := T) (by have := HLT.out; omega) 0 v)
      have YT := hidden ((NT.out.keep HBA.out).put v)
      have YB := hidden (setq_bel (o := 0) (z := v) (bl_trans NB.out HBA.out) NT.out.ge)
      unfold setq at YX YR YT YB
      go_roundw
      case rel =>
        refine ⟨i + 1, by omega, by simp, YB, YX, hidden (by rw [HV.out]; exact YT.out), hidden (YR.out.congr (fun k _ => ?_))⟩
        by_cases h1 : k = i
        · subst h1; rw [if_pos rfl, if_pos (by omega), HU.out]
        · rw [if_neg h1]
          by_cases h2 : k < i
          · rw [if_pos h2, if_pos (by omega)]
          · rw [if_neg h2, if_neg (by omega)]
      case measure => simp [intOf]; omega
    · have hii : n = i := by omega
      subst hii
      clear hin hi
      have RF := hidden (hR.out.congr (f := fun k => lst (x.n ^ k)) (fun k hk => if_pos hk))
      clear hR
      go_wp2_with fail
      refine bodyPost_ret (v := .tuple #[.slice (some ⟨w.heap.size + 1, 0, none⟩) n n, .int .i64 0]) (by simp [results, Tryd.results61, go_sem]) rfl ⟨_, rfl, by omega, RF.out, hB.out⟩
/-- a sum of scalars -/
def sn (g : Nat → E4) : Nat → Int
  | 0 => 0
  | n + 1 => sn g n + (g n).n
theorem sn_next (g : Nat → E4) (i : Nat) : lst ((lst (sn g i)).n + (g i).n) = lst (sn g (i + 1)) := by rw [lst_add]; rfl
set_option maxRecDepth 100000 in
set_option maxHeartbeats 8000000 in
theorem Sum_in (b o n c : Nat) (g : Nat → E4) (w : World) (hT : Tb w) (hg : ∀ k, k < n → (g k).ok) (hn : n ≤ 4096) (hr : Rlo w b o n g) :
    Calls Tryd.prog 38 #[.slice (some ⟨b, o, none⟩) n c] w fun e w' => e = .returned (lst (sn g n)).v ∧ Below w.heap.size w w' := by
  have HT := hidden hT
  have HR := hidden hr
  have HG := hidden hg
  have HN := hidden hn
  have AD := hidden (fun (i : Nat) (hi : i < n) w T => fix (Add_any (lst (sn g i)) (g i) w T (lst_ok _) (hg i hi)) (sn_next g i))
  simp only [E4.v] at AD
  have Z0 := Bq.new (Below.refl _ w) zero4 27
  have B0 := bl_alloc w (.cells #[.int .u64 0, .int .u64 0, .int .u64 0, .int .u64 0] 27)
  have Z1 := hidden (Z0.keep (bl_alloc _ (.cells #[.int .u64 0, .int .u64 0, .int .u64 0, .int .u64 0] 27)))
  have S1 := Bq.new (w0 := w) (w := w.alloc (.cells #[.int .u64 0, .int .u64 0, .int .u64 0, .int .u64 0] 27)) B0 zero4 27
  have B1 := hidden (bl_trans B0 (bl_alloc _ (.cells #[.int .u64 0, .int .u64 0, .int .u64 0, .int .u64 0] 27)))
  rw [World.size_alloc] at S1
  have S2 := hidden S1
  clear hT hg hn hr Z0 B0 S1
  unfold E4.v
  go_enter Tryd.func38, Tryd.ntmps38
  go_wp2_with fail
  unfold zero4 at Z1 S2
  generalize (w.alloc (.cells #[.int .u64 0, .int .u64 0, .int .u64 0, .int .u64 0] 27)).alloc (.cells #[.int .u64 0, .int .u64 0, .int .u64 0, .int .u64 0] 27) = wB at Z1 S2 B1 ⊢
  have S3 : Hid (Bq w wB (w.heap.size + 1) (lst (sn g 0))) := hidden (by have := S2.out; rw [show sn g 0 = 0 from rfl, zero_lst]; exact this)
  clear S2
  go_loopw [8] (fun kv w' => ∃ i : Nat, i ≤ n ∧ kv = .int .i64 i ∧ Hid (Below w.heap.size w w') ∧ Hid (Bq w w' w.heap.size zero4) ∧ Hid (Bq w w' (w.heap.size + 1) (lst (sn g i)))) (fun k _ => n - (intOf k).toNat)
  case atStart => exact ⟨0, by omega, rfl, B1, Z1, S3⟩
  case round =>
    clear B1 Z1 S3
    obtain ⟨i, hi, rfl, hB, hZ, hS⟩ := hrel
    by_cases hin : i < n
    · have ii0 : (0 : Int) ≤ (i : Int) := by omega
      have ii1 : (i : Int) < (n : Int) := by omega
      have w9 : IntKind.i64.wrap ((i : Int) + 1) = (i : Int) + 1 := IntWalk.i64_in _ (by have := HN.out; omega)
      have M := hidden (AD.out i hin)
      obtain ⟨u, hu⟩ : ∃ u, lst (sn g i) = u := ⟨_, rfl⟩
      obtain ⟨v, hv⟩ : ∃ v, lst (sn g (i + 1)) = v := ⟨_, rfl⟩
      obtain ⟨x, hx⟩ : ∃ x, g i = x := ⟨_, rfl⟩
      have HV := hidden hv
      rw [hu, hv, hx] at M
      rw [hu] at hS
      have mM := mq_Add u
      have q1 := HR.out.keep hB.out
      have l0 := q1.c0 i hin; have l1 := q1.c1 i hin; have l2 := q1.c2 i hin; have l3 := q1.c3 i hin
      simp only [hx] at l0 l1 l2 l3
      have LA := bl_alloc wr (.cells #[.int .u64 x.x0, .int .u64 x.x1, .int .u64 x.x2, .int .u64 x.x3] 27)
      have NX := hidden (Bq.new (w0 := w) (w := wr) hB.out x 27)
      have NS := hidden (hS.out.keep LA)
      have NZ := hidden (hZ.out.keep LA)
      have NB := hidden (bl_trans hB.out LA)
      have LT : w.heap.size + 1 < wr.heap.size := hS.out.lt
      clear hS hZ hu hv hx hi q1 LA
      go_upto_region 5 with fail
      clear l0 l1 l2 l3
      generalize wr.heap.size = X at NX LT ⊢
      generalize wr.alloc (.cells #[.int .u64 x.x0, .int .u64 x.x1, .int .u64 x.x2, .int .u64 x.x3] 27) = wD at NX NS NZ NB ⊢
      have p0 := NS.out.c0; have p1 := NS.out.c1; have p2 := NS.out.c2; have p3 := NS.out.c3
      have y0 := NX.out.c0; have y1 := NX.out.c1; have y2 := NX.out.c2; have y3 := NX.out.c3
      go_wp2_with (first | (go_at_call 51; refine (M.out _ (HT.out.keep NB.out)).mono ?_; rintro e wa ⟨rfl, ha⟩; have P3 := NS.out.keep ha; have q0 := P3.c0; have q1 := P3.c1; have q2 := P3.c2; have q3 := P3.c3; have f0 := P3.f0; have f1 := P3.f1; have f2 := P3.f2; have f3 := P3.f3; have HBA := hidden ha; clear ha P3))
      have YZ := hidden ((NZ.out.keep HBA.out).far (d := w.heap.size + 1) (o := 0) (y := v) (by omega))
      have YT := hidden ((NS.out.keep HBA.out).put v)
      have YB := hidden (setq_bel (o := 0) (z := v) (bl_trans NB.out HBA.out) NS.out.ge)
      unfold setq at YZ YT YB
      go_roundw
      case rel => exact ⟨i + 1, by omega, by simp, YB, YZ, hidden (by rw [HV.out]; exact YT.out)⟩
      case measure => simp [intOf]; omega
    · have hii : n = i := by omega
      subst hii
      clear hin hi
      obtain ⟨u, hu⟩ : ∃ u, lst (sn g n) = u := ⟨_, rfl⟩
      rw [hu] at hS
      have HU := hidden hu
      have p0 := hS.out.c0; have p1 := hS.out.c1; have p2 := hS.out.c2; have p3 := hS.out.c3
      have z0 := hZ.out.c0; have z1 := hZ.out.c1; have z2 := hZ.out.c2; have z3 := hZ.out.c3
      have f0 := hZ.out.f0; have f1 := hZ.out.f1; have f2 := hZ.out.f2; have f3 := hZ.out.f3
      have YB := hidden (setq_bel (o := 0) (z := u) hB.out (Nat.le_refl _))
      unfold setq at YB
      clear hu hS
      go_wp2_with fail
      refine bodyPost_ret (v := .agg #[.int .u64 u.x0, .int .u64 u.x1, .int .u64 u.x2, .int .u64 u.x3]) (by simp [results, Tryd.results38, go_sem, z0, z1, z2, z3]) rfl ⟨by rw [HU.out], YB.out⟩
end Go.Proofs.YtpblcnefihhhoaaDoor
