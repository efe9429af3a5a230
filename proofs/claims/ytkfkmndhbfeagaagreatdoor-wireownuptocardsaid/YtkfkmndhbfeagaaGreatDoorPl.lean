import Derived.Test.YtkfkmndhbfeagaaGreatDoorPk
namespace Go.Proofs.YtkfkmndhbfeagaaGreatDoor
open Go.RowKit
set_option linter.unusedVariables false
theorem Dm.slot0 {w0 : World} {g q B7 bL bR B2 k : Nat} {zp : List Value} {fl fr : Nat → E4} {bs : List UInt8} {e : Int} {w : World} {a0 a1 a2 a3 a4 a5 a6 a7 a8 : E4} {LV RV : Value} (D : Dn w0 g q B7 bL bR B2) (h : Dm w0 g q B7 bL bR B2 k (pcv a0 a1 a2 a3 a4 a5 a6 a7 a8 LV RV) zp fl fr bs e w) (z : E4) :
    Dm w0 g q B7 bL bR B2 k (pcv z a1 a2 a3 a4 a5 a6 a7 a8 LV RV) zp fl fr bs e (w.setCells B7 0 [.int .u64 z.x0, .int .u64 z.x1, .int .u64 z.x2, .int .u64 z.x3]) ∧ w.there B7 0 ([.int .u64 z.x0, .int .u64 z.x1, .int .u64 z.x2, .int .u64 z.x3] : List Value).toArray.size :=
  Dm.p7 D h 0 [.int .u64 z.x0, .int .u64 z.x1, .int .u64 z.x2, .int .u64 z.x3] ((pcv a0 a1 a2 a3 a4 a5 a6 a7 a8 LV RV).take 0) ((pcv a0 a1 a2 a3 a4 a5 a6 a7 a8 LV RV).drop 4) ⟨[.int .u64 a0.x0, .int .u64 a0.x1, .int .u64 a0.x2, .int .u64 a0.x3], rfl, rfl⟩ rfl
theorem Dm.slot1 {w0 : World} {g q B7 bL bR B2 k : Nat} {zp : List Value} {fl fr : Nat → E4} {bs : List UInt8} {e : Int} {w : World} {a0 a1 a2 a3 a4 a5 a6 a7 a8 : E4} {LV RV : Value} (D : Dn w0 g q B7 bL bR B2) (h : Dm w0 g q B7 bL bR B2 k (pcv a0 a1 a2 a3 a4 a5 a6 a7 a8 LV RV) zp fl fr bs e w) (z : E4) :
    Dm w0 g q B7 bL bR B2 k (pcv a0 z a2 a3 a4 a5 a6 a7 a8 LV RV) zp fl fr bs e (w.setCells B7 4 [.int .u64 z.x0, .int .u64 z.x1, .int .u64 z.x2, .int .u64 z.x3]) ∧ w.there B7 4 ([.int .u64 z.x0, .int .u64 z.x1, .int .u64 z.x2, .int .u64 z.x3] : List Value).toArray.size :=
  Dm.p7 D h 4 [.int .u64 z.x0, .int .u64 z.x1, .int .u64 z.x2, .int .u64 z.x3] ((pcv a0 a1 a2 a3 a4 a5 a6 a7 a8 LV RV).take 4) ((pcv a0 a1 a2 a3 a4 a5 a6 a7 a8 LV RV).drop 8) ⟨[.int .u64 a1.x0, .int .u64 a1.x1, .int .u64 a1.x2, .int .u64 a1.x3], rfl, rfl⟩ rfl
theorem Dm.slot2 {w0 : World} {g q B7 bL bR B2 k : Nat} {zp : List Value} {fl fr : Nat → E4} {bs : List UInt8} {e : Int} {w : World} {a0 a1 a2 a3 a4 a5 a6 a7 a8 : E4} {LV RV : Value} (D : Dn w0 g q B7 bL bR B2) (h : Dm w0 g q B7 bL bR B2 k (pcv a0 a1 a2 a3 a4 a5 a6 a7 a8 LV RV) zp fl fr bs e w) (z : E4) :
    Dm w0 g q B7 bL bR B2 k (pcv a0 a1 z a3 a4 a5 a6 a7 a8 LV RV) zp fl fr bs e (w.setCells B7 8 [.int .u64 z.x0, .int .u64 z.x1, .int .u64 z.x2, .int .u64 z.x3]) ∧ w.there B7 8 ([.int .u64 z.x0, .int .u64 z.x1, .int .u64 z.x2, .int .u64 z.x3] : List Value).toArray.size :=
  Dm.p7 D h 8 [.int .u64 z.x0, .int .u64 z.x1, .int .u64 z.x2, .int .u64 z.x3] ((pcv a0 a1 a2 a3 a4 a5 a6 a7 a8 LV RV).take 8) ((pcv a0 a1 a2 a3 a4 a5 a6 a7 a8 LV RV).drop 12) ⟨[.int .u64 a2.x0, .int .u64 a2.x1, .int .u64 a2.x2, .int .u64 a2.x3], rfl, rfl⟩ rfl
theorem Dm.slot3 {w0 : World} {g q B7 bL bR B2 k : Nat} {zp : List Value} {fl fr : Nat → E4} {bs : List UInt8} {e : Int} {w : World} {a0 a1 a2 a3 a4 a5 a6 a7 a8 : E4} {LV RV : Value} (D : Dn w0 g q B7 bL bR B2) (h : Dm w0 g q B7 bL bR B2 k (pcv a0 a1 a2 a3 a4 a5 a6 a7 a8 LV RV) zp fl fr bs e w) (z : E4) :
    Dm w0 g q B7 bL bR B2 k (pcv a0 a1 a2 z a4 a5 a6 a7 a8 LV RV) zp fl fr bs e (w.setCells B7 12 [.int .u64 z.x0, .int .u64 z.x1, .int .u64 z.x2, .int .u64 z.x3]) ∧ w.there B7 12 ([.int .u64 z.x0, .int .u64 z.x1, .int .u64 z.x2, .int .u64 z.x3] : List Value).toArray.size :=
  Dm.p7 D h 12 [.int .u64 z.x0, .int .u64 z.x1, .int .u64 z.x2, .int .u64 z.x3] ((pcv a0 a1 a2 a3 a4 a5 a6 a7 a8 LV RV).take 12) ((pcv a0 a1 a2 a3 a4 a5 a6 a7 a8 LV RV).drop 16) ⟨[.int .u64 a3.x0, .int .u64 a3.x1, .int .u64 a3.x2, .int .u64 a3.x3], rfl, rfl⟩ rfl
theorem Dm.slot4 {w0 : World} {g q B7 bL bR B2 k : Nat} {zp : List Value} {fl fr : Nat → E4} {bs : List UInt8} {e : Int} {w : World} {a0 a1 a2 a3 a4 a5 a6 a7 a8 : E4} {LV RV : Value} (D : Dn w0 g q B7 bL bR B2) (h : Dm w0 g q B7 bL bR B2 k (pcv a0 a1 a2 a3 a4 a5 a6 a7 a8 LV RV) zp fl fr bs e w) (z : E4) :
    Dm w0 g q B7 bL bR B2 k (pcv a0 a1 a2 a3 z a5 a6 a7 a8 LV RV) zp fl fr bs e (w.setCells B7 16 [.int .u64 z.x0, .int .u64 z.x1, .int .u64 z.x2, .int .u64 z.x3]) ∧ w.there B7 16 ([.int .u64 z.x0, .int .u64 z.x1, .int .u64 z.x2, .int .u64 z.x3] : List Value).toArray.size :=
  Dm.p7 D h 16 [.int .u64 z.x0, .int .u64 z.x1, .int .u64 z.x2, .int .u64 z.x3] ((pcv a0 a1 a2 a3 a4 a5 a6 a7 a8 LV RV).take 16) ((pcv a0 a1 a2 a3 a4 a5 a6 a7 a8 LV RV).drop 20) ⟨[.int .u64 a4.x0, .int .u64 a4.x1, .int .u64 a4.x2, .int .u64 a4.x3], rfl, rfl⟩ rfl
theorem Dm.slot5 {w0 : World} {g q B7 bL bR B2 k : Nat} {zp : List Value} {fl fr : Nat → E4} {bs : List UInt8} {e : Int} {w : World} {a0 a1 a2 a3 a4 a5 a6 a7 a8 : E4} {LV RV : Value} (D : Dn w0 g q B7 bL bR B2) (h : Dm w0 g q B7 bL bR B2 k (pcv a0 a1 a2 a3 a4 a5 a6 a7 a8 LV RV) zp fl fr bs e w) (z : E4) :
    Dm w0 g q B7 bL bR B2 k (pcv a0 a1 a2 a3 a4 z a6 a7 a8 LV RV) zp fl fr bs e (w.setCells B7 20 [.int .u64 z.x0, .int .u64 z.x1, .int .u64 z.x2, .int .u64 z.x3]) ∧ w.there B7 20 ([.int .u64 z.x0, .int .u64 z.x1, .int .u64 z.x2, .int .u64 z.x3] : List Value).toArray.size :=
  Dm.p7 D h 20 [.int .u64 z.x0, .int .u64 z.x1, .int .u64 z.x2, .int .u64 z.x3] ((pcv a0 a1 a2 a3 a4 a5 a6 a7 a8 LV RV).take 20) ((pcv a0 a1 a2 a3 a4 a5 a6 a7 a8 LV RV).drop 24) ⟨[.int .u64 a5.x0, .int .u64 a5.x1, .int .u64 a5.x2, .int .u64 a5.x3], rfl, rfl⟩ rfl
theorem Dm.slot6 {w0 : World} {g q B7 bL bR B2 k : Nat} {zp : List Value} {fl fr : Nat → E4} {bs : List UInt8} {e : Int} {w : World} {a0 a1 a2 a3 a4 a5 a6 a7 a8 : E4} {LV RV : Value} (D : Dn w0 g q B7 bL bR B2) (h : Dm w0 g q B7 bL bR B2 k (pcv a0 a1 a2 a3 a4 a5 a6 a7 a8 LV RV) zp fl fr bs e w) (z : E4) :
    Dm w0 g q B7 bL bR B2 k (pcv a0 a1 a2 a3 a4 a5 z a7 a8 LV RV) zp fl fr bs e (w.setCells B7 24 [.int .u64 z.x0, .int .u64 z.x1, .int .u64 z.x2, .int .u64 z.x3]) ∧ w.there B7 24 ([.int .u64 z.x0, .int .u64 z.x1, .int .u64 z.x2, .int .u64 z.x3] : List Value).toArray.size :=
  Dm.p7 D h 24 [.int .u64 z.x0, .int .u64 z.x1, .int .u64 z.x2, .int .u64 z.x3] ((pcv a0 a1 a2 a3 a4 a5 a6 a7 a8 LV RV).take 24) ((pcv a0 a1 a2 a3 a4 a5 a6 a7 a8 LV RV).drop 28) ⟨[.int .u64 a6.x0, .int .u64 a6.x1, .int .u64 a6.x2, .int .u64 a6.x3], rfl, rfl⟩ rfl
theorem Dm.slot7 {w0 : World} {g q B7 bL bR B2 k : Nat} {zp : List Value} {fl fr : Nat → E4} {bs : List UInt8} {e : Int} {w : World} {a0 a1 a2 a3 a4 a5 a6 a7 a8 : E4} {LV RV : Value} (D : Dn w0 g q B7 bL bR B2) (h : Dm w0 g q B7 bL bR B2 k (pcv a0 a1 a2 a3 a4 a5 a6 a7 a8 LV RV) zp fl fr bs e w) (z : E4) :
    Dm w0 g q B7 bL bR B2 k (pcv a0 a1 a2 a3 a4 a5 a6 z a8 LV RV) zp fl fr bs e (w.setCells B7 30 [.int .u64 z.x0, .int .u64 z.x1, .int .u64 z.x2, .int .u64 z.x3]) ∧ w.there B7 30 ([.int .u64 z.x0, .int .u64 z.x1, .int .u64 z.x2, .int .u64 z.x3] : List Value).toArray.size :=
  Dm.p7 D h 30 [.int .u64 z.x0, .int .u64 z.x1, .int .u64 z.x2, .int .u64 z.x3] ((pcv a0 a1 a2 a3 a4 a5 a6 a7 a8 LV RV).take 30) ((pcv a0 a1 a2 a3 a4 a5 a6 a7 a8 LV RV).drop 34) ⟨[.int .u64 a7.x0, .int .u64 a7.x1, .int .u64 a7.x2, .int .u64 a7.x3], rfl, rfl⟩ rfl
theorem Dm.slot8 {w0 : World} {g q B7 bL bR B2 k : Nat} {zp : List Value} {fl fr : Nat → E4} {bs : List UInt8} {e : Int} {w : World} {a0 a1 a2 a3 a4 a5 a6 a7 a8 : E4} {LV RV : Value} (D : Dn w0 g q B7 bL bR B2) (h : Dm w0 g q B7 bL bR B2 k (pcv a0 a1 a2 a3 a4 a5 a6 a7 a8 LV RV) zp fl fr bs e w) (z : E4) :
    Dm w0 g q B7 bL bR B2 k (pcv a0 a1 a2 a3 a4 a5 a6 a7 z LV RV) zp fl fr bs e (w.setCells B7 34 [.int .u64 z.x0, .int .u64 z.x1, .int .u64 z.x2, .int .u64 z.x3]) ∧ w.there B7 34 ([.int .u64 z.x0, .int .u64 z.x1, .int .u64 z.x2, .int .u64 z.x3] : List Value).toArray.size :=
  Dm.p7 D h 34 [.int .u64 z.x0, .int .u64 z.x1, .int .u64 z.x2, .int .u64 z.x3] ((pcv a0 a1 a2 a3 a4 a5 a6 a7 a8 LV RV).take 34) ((pcv a0 a1 a2 a3 a4 a5 a6 a7 a8 LV RV).drop 38) ⟨[.int .u64 a8.x0, .int .u64 a8.x1, .int .u64 a8.x2, .int .u64 a8.x3], rfl, rfl⟩ rfl
theorem wpList_allocP {ops : Array Oper} {rest : List Oper} {o : Oper} {a : Act} {w : World} {Q : Exit → Act → World → Prop} (hg : o.guard = none) (ho : o.op = .alloc 55) (h : wpList Tryz.prog ops Q rest (a.put o.dst (.pointer (some ⟨w.heap.size, 0, none⟩))) (w.alloc (.cells (pcv zero4 zero4 zero4 zero4 zero4 zero4 zero4 zero4 zero4 (.slice none 0 0) (.slice none 0 0)).toArray 55))) : wpList Tryz.prog ops Q (o :: rest) a w :=
  wpList_plain hg fun K hK => wp_allocP ho (hK _ _ h)
theorem wpList_buildP {ops : Array Oper} {rest : List Oper} {o : Oper} {a : Act} {w : World} {Q : Exit → Act → World → Prop} (hg : o.guard = none) (ho : o.op = .build 55 #[]) (h : wpList Tryz.prog ops Q rest (a.put o.dst (.agg (pcv zero4 zero4 zero4 zero4 zero4 zero4 zero4 zero4 zero4 (.slice none 0 0) (.slice none 0 0)).toArray)) w) : wpList Tryz.prog ops Q (o :: rest) a w := by
  have e : Tryz.prog.built 55 ((#[] : Array (Nat × Operand)).map fun (i, x) => (i, a.eval x)).toList = some (pcv zero4 zero4 zero4 zero4 zero4 zero4 zero4 zero4 zero4 (.slice none 0 0) (.slice none 0 0)).toArray := by kernel_rfl
  exact wpList_build hg 55 #[] ho (by rw [e]; rfl) (by rw [e]; exact h)
set_option maxRecDepth 100000 in
set_option maxHeartbeats 8000000 in
theorem dec_no (P : Option Addr) (c : Nat) (l : List UInt8) (w : World) (hl : l.length ≤ 2 ^ 62) (hk : ∀ k : Nat, k ≤ 10 → l.length ≠ 32 * (9 + 2 * k)) :
    Calls Tryz.prog 8 #[.slice P l.length c] w fun e w' => e = .returned (.tuple #[.agg (pcv zero4 zero4 zero4 zero4 zero4 zero4 zero4 zero4 zero4 (.slice none 0 0) (.slice none 0 0)).toArray, .int .i64 2]) ∧ Below w.heap.size w w' := by
  have M0 := hidden ((Mw.start w).new (pcv zero4 zero4 zero4 zero4 zero4 zero4 zero4 zero4 zero4 (.slice none 0 0) (.slice none 0 0)) 55)
  have TH := hidden (M0.out.ther (pcv zero4 zero4 zero4 zero4 zero4 zero4 zero4 zero4 zero4 (.slice none 0 0) (.slice none 0 0)) (c := w.heap.size) (o := pcv zero4 zero4 zero4 zero4 zero4 zero4 zero4 zero4 zero4 (.slice none 0 0) (.slice none 0 0)) (by simp) rfl)
  have M1 := hidden (M0.out.set (M := []) (pcv zero4 zero4 zero4 zero4 zero4 zero4 zero4 zero4 zero4 (.slice none 0 0) (.slice none 0 0)) (c := w.heap.size) (o := pcv zero4 zero4 zero4 zero4 zero4 zero4 zero4 zero4 zero4 (.slice none 0 0) (.slice none 0 0)) (by simp) rfl (by simp))
  have RO : Hid (∀ x, Calls Tryz.prog 29 #[.int .i64 (l.length : Int)] x fun e w' => e = .returned (.tuple #[.int .i64 0, .bool false]) ∧ w' = x) := hidden (fun x => (roundsOf_any l.length x hl).mono fun e w' ⟨h1, h2⟩ => by
    rcases h1 with ⟨k, h3, h4, _⟩ | ⟨_, h5⟩
    · exact absurd h4 (hk k h3)
    · exact ⟨h5, h2⟩)
  have I2 := hidden (pcv_i2 zero4 zero4 zero4 zero4 zero4 zero4 zero4 zero4 zero4 (.slice none 0 0) (.slice none 0 0))
  have I1 := hidden (pcv_i zero4 zero4 zero4 zero4 zero4 zero4 zero4 zero4 zero4 (.slice none 0 0) (.slice none 0 0))
  have O2 := hidden (pcv_one zero4 zero4 zero4 zero4 zero4 zero4 zero4 zero4 zero4 none none 0 0 0 0)
  have UP : Hid (Tryz.prog.underlying 55 = _) := hidden Tryz.underlying55
  have LD := hidden (M1.out.var (c := w.heap.size) (ds := pcv zero4 zero4 zero4 zero4 zero4 zero4 zero4 zero4 zero4 (.slice none 0 0) (.slice none 0 0)) (by simp) UP.out rfl I1.out)
  clear hl hk M0
  generalize hZ : pcv zero4 zero4 zero4 zero4 zero4 zero4 zero4 zero4 zero4 (.slice none 0 0) (.slice none 0 0) = zp at TH M1 I2 I1 O2 LD ⊢
  have HZ := hidden hZ
  clear hZ
  go_enter Tryz.func8, Tryz.ntmps8
  go_wp2_with (first | (refine wpList_allocP rfl rfl ?_; rw [HZ.out]) | (refine wpList_buildP rfl rfl ?_; rw [HZ.out]) | (go_at_call 29; refine (RO.out _).mono ?_; rintro e wq ⟨rfl, rfl⟩; clear RO) | refine wpList_storeL rfl 55 _ _ rfl rfl w.heap.size 0 zp (by rfl) (by rfl) TH.out I2.out O2.out ?_)
  refine bodyPost_ret (v := .tuple #[.agg zp.toArray, .int .i64 2]) (results_pairM Tryz.results8 _ _ _ _ _ _ (by rfl) (by rfl) LD.out) rfl ⟨rfl, M1.out.bel⟩
end Go.Proofs.YtkfkmndhbfeagaaGreatDoor
