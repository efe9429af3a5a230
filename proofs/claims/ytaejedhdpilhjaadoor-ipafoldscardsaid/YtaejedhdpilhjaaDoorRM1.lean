import Derived.RangeFuncNested
import Derived.RangeFuncBound
import Derived.RangeFuncCalls
import Derived.RangeFuncLeaves
import Derived.Test.YtaejedhdpilhjaaDoorProg
import Derived.Test.YtaejedhdpilhjaaDoorJM2
import Derived.Shelf.Abstract
import Derived.Shelf.RegionOpen
import Derived.WalkKit
import Derived.OwnWalkIn
import Derived.TacticsInMore
import Derived.LoopNIn
import Derived.LoopIn
namespace Go.Proofs.YtaejedhdpilhjaaDoor
namespace Rp
open Go.RowKit
set_option linter.unusedVariables false
variable {F : Fence} {n : Nat} {P : Program}
/-- what is said stays so, whatever becomes of the blocks from lo up to hi -/
def Abi {β : Type} (lo hi : Nat) (I : β → World → Prop) : Prop := ∀ (s : β) (A B : World) (row : Option Nat), I s A → A.grownBy B row → (∀ r, row = some r → lo ≤ r ∧ r < hi) → I s B
/-- an iterator with m blocks of its own that it makes ahead of its first round: all x in turn, and nobody breaks off -/
def Gives {α : Type} (F : Fence) (n : Nat) (P : Program) (g : Nat) (lb : Array Value) (encs : α → Array Value) (Kp : Nat → World → World → Prop) (Ok : Nat → List α → α → World → Prop) (S : List α → Prop) (N m : Nat) (w : World) : Prop :=
  ∀ (l : Nat) (J : List α → World → Prop) (W : World), Below w.heap.size w W → w.heap.size + 2 ≤ W.heap.size → Abi W.heap.size (W.heap.size + m) J →
    (∀ pre x V, J pre V → Ok W.heap.size pre x V → pre.length < N → W.heap.size + m ≤ V.heap.size → YieldAt F (n - 1) P l (encs x) V fun e V' => e = .returned (.bool true) ∧ J (pre ++ [x]) V' ∧ Kp W.heap.size V V') →
    J [] W → CallsIn F n P g (#[.func (.yield l) #[] #[]] ++ lb) W fun e V => (∃ v, e = .returned v) ∧ ∃ xs, S xs ∧ J xs V
/-- a round keeps the two blocks of the loop's book, and what the iterator asks for -/
structure Kb (Kp : Nat → World → World → Prop) (b : Nat) (A B : World) : Prop where
  sz : A.heap.size ≤ B.heap.size
  b0 : B.heap[b]? = A.heap[b]?
  b1 : B.heap[b + 1]? = A.heap[b + 1]?
  kp : Kp (b + 2) A B
/-- how a round's body ends -/
def endP {α : Type} (Kp : Nat → World → World → Prop) (b : Nat) (I : List α → World → Prop) (xs : List α) (A : World) : Exit → Act → World → Prop
  | .normal, _, B => Kb Kp b A B ∧ I xs B
  | _, _, _ => False
theorem grown_put (A : World) (r : Nat) (o : Obj) : A.grownBy (A.putObj r o) (some r) :=
  ⟨rfl, rfl, rfl, by simp [World.putObj], fun k hk h => World.putObj_heap_other (fun e => h (by rw [e]))⟩
theorem grown_new (A : World) (o : Obj) : A.grownBy (A.alloc o) none := World.grownBy_alloc A o none
theorem Abi.put {β : Type} {lo hi r : Nat} {I : β → World → Prop} {s : β} {A : World} (h : Abi lo hi I) (o : Obj) (hs : I s A) (h1 : lo ≤ r) (h2 : r < hi) : I s (A.putObj r o) :=
  h s A _ (some r) hs (grown_put A r o) (fun k e => by obtain rfl := Option.some.inj e; exact ⟨h1, h2⟩)
theorem Abi.new {β : Type} {lo hi : Nat} {I : β → World → Prop} {s : β} {A : World} (h : Abi lo hi I) (o : Obj) (hs : I s A) : I s (A.alloc o) :=
  h s A _ none hs (grown_new A o) (fun k e => by cases e)
theorem range_own {α : Type} {g : Operand} {ps : Array Tmp} {assign body : Code} {Q : Exit → Act → World → Prop} {a : Act} {w : World}
    (hro : F.round = none) (h1 : 1 ≤ n) {gf : Nat} {lb : Array Value} (hg : a.eval g = .func (.func gf) #[] lb) (hFg : F.fn gf) (eg : ∀ args v, (callFunc gf args).run P v = .ok (.enter gf args) v)
    {encs : α → Array Value} {Kp : Nat → World → World → Prop} {Ok : Nat → List α → α → World → Prop} {S : List α → Prop} {N m : Nat} {w0 : World} (hseq : Gives F (n - 1) P gf lb encs Kp Ok S N m w0) (hb0 : Below w0.heap.size w0 w) (hps : ∀ x, (encs x).size = ps.size)
    (hKt : ∀ {A B C : World}, Kp (w.heap.size + 2) A B → Kp (w.heap.size + 2) B C → Kp (w.heap.size + 2) A C) (hKb : ∀ (A : World) (o : Obj), Kp (w.heap.size + 2) A (A.putObj (w.heap.size + 1) o))
    (I : List α → World → Prop) (hI : Abi w.heap.size (w.heap.size + 2 + m) I) (h0 : I [] w) (Ax : List α → α → Act → World → Prop) (hAx : ∀ pre x a', Abi w.heap.size (w.heap.size + 2 + m) (fun (_ : Unit) V => Ax pre x a' V))
    (hassign : ∀ (l : Nat) (pre : List α) (x : α) (V : World) (K : Act → World → Prop), I pre V → Ok (w.heap.size + 2) pre x V → w.heap.size + 2 + m ≤ V.heap.size → (∀ a' V', Kb Kp w.heap.size V V' → I pre V' → Ax pre x a' V' → K a' V') →
      assign.wpIn (F.inRound l) (n - 1 - 1) P (Exit.then K (fun _ _ _ => False)) { tmps := (ps.zip (encs x)).foldl (fun t (p, v) => t.setIfInBounds p v) a.tmps, defers := [] } V)
    (hbody : ∀ (l : Nat) (pre : List α) (x : α) (a' : Act) (V : World), I pre V → Ax pre x a' V → pre.length < N → w.heap.size + 2 + m ≤ V.heap.size → body.wpIn (F.inRound l) (n - 1 - 1) P (endP Kp w.heap.size I (pre ++ [x]) V) a' V)
    (hdone : ∀ (xs : List α) (V : World), S xs → I xs V → V.heap[w.heap.size]? = some (.deferred (some [])) → Q .normal { a with defers := { target := .collected w.heap.size, args := #[] } :: a.defers } V) :
    (Code.rangeFunc g ps assign body).wpIn F n P Q a w := by
  refine wpIn_rangeFunc fun fn hfn => ?_
  obtain ⟨b, hb⟩ : ∃ b, w.heap.size = b := ⟨_, rfl⟩
  obtain ⟨rc, hrc⟩ : ∃ rc : LoopState → Loop, rc = fun st => { state := st, pending := none, fn, tmps := a.tmps, params := ps, assign, body, defers := w.heap.size } := ⟨_, rfl⟩
  obtain ⟨v1, hv1⟩ : ∃ v1, w.alloc (.deferred (some [])) = v1 := ⟨_, rfl⟩
  obtain ⟨v2, hv2⟩ : ∃ v2, v1.alloc (.loop (rc .ready)) = v2 := ⟨_, rfl⟩
  have s1 : v1.heap.size = b + 1 := by rw [← hv1, World.size_alloc, hb]
  have s2 : v2.heap.size = b + 2 := by rw [← hv2, World.size_alloc, s1]
  have k0 : v2.heap[b]? = some (.deferred (some [])) := by
    rw [← hv2, (grown_new v1 _).block b (by omega) (by simp), ← hv1, ← hb]
    exact World.alloc_heap_new w _
  have k1 : v2.heap[b + 1]? = some (.loop (rc .ready)) := by
    rw [← hv2, ← s1]
    exact World.alloc_heap_new v1 _
  have i2 : I [] v2 := by rw [← hv2, ← hv1]; exact hI.new _ (hI.new _ h0)
  have b2 : Below w0.heap.size w0 v2 := by
    rw [← hv2, ← hv1]
    exact hb0.trans ((((Below.refl _ w).alloc (Nat.le_refl _) _).alloc (by simp) _).mono hb0.size)
  refine ⟨b + 1, [{ target := .collected b, args := #[] }], v2, { target := .fn (.func gf) lb, args := #[.func (.yield (b + 1)) #[] #[]] }, v2, gf, #[.func (.yield (b + 1)) #[] #[]] ++ lb, v2, ?_, ?_, ?_, ?_, fun _ => h1, ?_⟩
  · rw [hro, ← hv2, ← hv1, hrc, ← hb]; exact run_enterLoop_outer _ _ _ _ _
  · simp only [resolve, hg]
    simp [go_sem]
  · intro f' hf'
    simp [Target.leads] at hf'
    subst hf'
    exact hFg
  · simp [invoke, go_sem, eg]
  rw [hb] at hI hAx hassign hbody hdone hKt hKb
  refine (hseq (b + 1) (fun pre V => I pre V ∧ V.heap[b]? = some (.deferred (some [])) ∧ V.heap[b + 1]? = some (.loop (rc .ready))) v2 b2 (by rw [s2, ← hb]; exact Nat.add_le_add_right hb0.size 2) ?_ ?_ ⟨i2, k0, k1⟩).mono ?_
  · intro s A B row hs hgr hr
    rw [s2] at hr
    have lt := (Array.getElem?_eq_some_iff.1 hs.2.2).1
    refine ⟨hI s A B row hs.1 hgr (fun r e => ⟨by have := (hr r e).1; omega, (hr r e).2⟩), ?_, ?_⟩
    · rw [hgr.block b (by omega) (fun e => by have := (hr b e.symm).1; omega)]; exact hs.2.1
    · rw [hgr.block (b + 1) lt (fun e => by have := (hr (b + 1) e.symm).1; omega)]; exact hs.2.2
  · rintro pre x V ⟨hi, hd, hl⟩ hok hlen hsz
    rw [s2] at hsz hok
    have hy := run_yield (P := P) (args := encs x) hl (by rw [hrc]; exact hps x)
    rw [hrc] at hy
    refine ⟨fn, _, assign, body, hy, roundIn_of_wpIn hfn (hassign _ pre x V _ hi hok hsz ?_)⟩
    intro a' U hk hiU hax
    have hdU := hk.b0.trans hd
    have hlU := hk.b1.trans hl
    have ltU := (Array.getElem?_eq_some_iff.1 hlU).1
    have hrd : (rc .ready).state = .ready := by rw [hrc]
    refine ⟨_, run_beginRound hlU hrd, ?_⟩
    obtain ⟨ob, hob⟩ : ∃ ob : Obj, ob = .loop { rc .ready with state := .busy } := ⟨_, rfl⟩
    rw [← hob]
    have hlB : (U.putObj (b + 1) ob).heap[b + 1]? = some ob := World.putObj_heap_same ltU
    have hdB : (U.putObj (b + 1) ob).heap[b]? = some (.deferred (some [])) := (World.putObj_heap_other (by omega)).trans hdU
    have hszB : b + 2 + m ≤ (U.putObj (b + 1) ob).heap.size := by
      rw [World.putObj_size]
      have := hk.sz
      omega
    refine wpIn_mono (hbody (b + 1) pre x a' (U.putObj (b + 1) ob) (hI.put ob hiU (by omega) (by omega)) ((hAx pre x a').put (s := ()) ob hax (by omega) (by omega)) hlen hszB) ?_
    rintro e a3 V3 hp
    cases e with
    | normal =>
      obtain ⟨hk3, hi3⟩ := hp
      have hl3 : V3.heap[b + 1]? = some (.loop { rc .ready with state := .busy }) := by rw [hk3.b1, hlB, hob]
      have hd3 := hk3.b0.trans hdB
      have hend := run_endRound (P := P) none hl3
      have lt3 := (Array.getElem?_eq_some_iff.1 hl3).1
      have e1 : ({ ({ rc .ready with state := .busy } : Loop) with state := if (none : Option Code).isNone then .ready else .done, pending := none } : Loop) = rc .ready := by rw [hrc]; rfl
      rw [e1] at hend
      refine ⟨_, _, hend, rfl, ⟨hI.put _ hi3 (by omega) (by omega), (World.putObj_heap_other (by omega)).trans hd3, World.putObj_heap_same lt3⟩, ?_⟩
      rw [s2]
      exact hKt hk.kp (hKt (hKb U ob) (hKt hk3.kp (hKb V3 _)))
    | ret => exact hp.elim
    | exit id => exact hp.elim
    | goto t => exact hp.elim
    | panic c => exact hp.elim
    | outgrown => exact hp.elim
  · rintro e V ⟨⟨v, rfl⟩, xs, hS, hi, hd, hl⟩
    have hend := run_endLoop (P := P) hl (by rw [hrc]; simp)
    have hp : (rc .ready).pending = none := by rw [hrc]
    rw [hp] at hend
    exact ⟨none, _, hend, hdone xs _ hS (hI.put _ hi (by omega) (by omega)) ((World.putObj_heap_other (by omega)).trans hd)⟩
end Rp
end Go.Proofs.YtaejedhdpilhjaaDoor
namespace Go.Proofs.YtaejedhdpilhjaaDoor
namespace Rp
open Go.RowKit
set_option linter.unusedVariables false
/-- all blocks but those of ex stay -/
structure Kq (ex : Nat → Prop) (A B : World) : Prop where
  sz : A.heap.size ≤ B.heap.size
  blk : ∀ k, k < A.heap.size → ¬ ex k → B.heap[k]? = A.heap[k]?
theorem Kq.trans {ex : Nat → Prop} {A B C : World} (h : Kq ex A B) (k : Kq ex B C) : Kq ex A C := ⟨Nat.le_trans h.sz k.sz, fun i hi he => (k.blk i (Nat.lt_of_lt_of_le hi h.sz) he).trans (h.blk i hi he)⟩
theorem Kq.mono {ex ex' : Nat → Prop} {A B : World} (h : Kq ex A B) (hm : ∀ k, ex k → ex' k) : Kq ex' A B := ⟨h.sz, fun k hk he => h.blk k hk (fun x => he (hm k x))⟩
theorem Kq.refl (ex : Nat → Prop) (A : World) : Kq ex A A := ⟨Nat.le_refl _, fun _ _ _ => rfl⟩
theorem Kq.below {ex : Nat → Prop} {A B : World} (h : Below A.heap.size A B) : Kq ex A B := ⟨h.size, fun k hk _ => h.block k hk⟩
theorem Kq.grown {ex : Nat → Prop} {A B : World} {r : Nat} (h : A.grownBy B (some r)) (he : ex r) : Kq ex A B := ⟨h.size, fun k hk hn => h.block k hk (fun e => hn (by rw [Option.some.inj e]; exact he))⟩
theorem Kq.cell {ex : Nat → Prop} {A B : World} (h : Kq ex A B) {a : Addr} {v : Value} (hc : A.cell? a = some v) (he : ¬ ex a.block) : B.cell? a = some v := by
  rw [World.cell?_of_block (h.blk a.block (World.block_lt_of_cell? A a hc) he)]
  exact hc
theorem Kq.frz {ex : Nat → Prop} {A B : World} (h : Kq ex A B) {a : Addr} (hl : a.block < A.heap.size) (he : ¬ ex a.block) : B.frozen? a = A.frozen? a := World.frozen?_of_block (h.blk a.block hl he)
theorem Kq.rl {ex : Nat → Prop} {A B : World} (h : Kq ex A B) {b o n : Nat} {g : Nat → E4} (hr : Rl A b o n g) (he : ¬ ex b) : Rl B b o n g :=
  ⟨fun k hk => h.cell (hr.c0 k hk) he, fun k hk => h.cell (hr.c1 k hk) he, fun k hk => h.cell (hr.c2 k hk) he, fun k hk => h.cell (hr.c3 k hk) he⟩
theorem Kq.range {ex : Nat → Prop} {A B : World} (h : Kq ex A B) {b o : Nat} {cs : List Value} (hr : A.rangeAt b o cs) (he : ¬ ex b) : B.rangeAt b o cs := fun j u hu => h.cell (hr j u hu) he
theorem Kq.there {ex : Nat → Prop} {A B : World} (h : Kq ex A B) {b o n : Nat} (hr : A.there b o n) (he : ¬ ex b) : B.there b o n := fun j hj => by
  obtain ⟨h1, h2⟩ := hr j hj
  obtain ⟨u, hu⟩ := Option.isSome_iff_exists.1 h1
  have hl := World.block_lt_of_cell? A _ hu
  exact ⟨by rw [h.cell hu he]; rfl, (h.frz hl he).trans h2⟩
theorem Kq.tb {ex : Nat → Prop} {A B : World} (h : Kq ex A B) (hT : Tb A) (he : ¬ ex 0) : Tb B := by
  obtain ⟨a0, a1, a2, a3, a4, a5, a6, a7, a8, a9, a10, a11⟩ := hT
  exact ⟨h.cell a0 he, h.cell a1 he, h.cell a2 he, h.cell a3 he, h.cell a4 he, h.cell a5 he, h.cell a6 he, h.cell a7 he, h.cell a8 he, h.cell a9 he, h.cell a10 he, h.cell a11 he⟩
/-- g, folded so often -/
def gf (u : Nat → E4) (k : Nat) (f : Nat → E4) : Nat → Nat → E4
  | 0 => f
  | t + 1 => bd (iv (u t).n) (u t) (2 ^ (k - (t + 1))) (gf u k f t)
/-- h, folded so often -/
def hf (u : Nat → E4) (k : Nat) (f : Nat → E4) : Nat → Nat → E4
  | 0 => f
  | t + 1 => bd (u t) (iv (u t).n) (2 ^ (k - (t + 1))) (hf u k f t)
def pf (u l r : Nat → E4) (p : E4) : Nat → E4
  | 0 => p
  | t + 1 => fp (pf u l r p t) (l t) (r t) (u t)
/-- a statement as a value -/
structure Sx where
  p : E4
  q : E4
  n : Nat
  g : Nat
  gc : Nat
  h : Nat
  hc : Nat
def Sx.cs (x : Sx) : List Value := sc x.p x.q (.slice (some ⟨x.g, 0, none⟩) x.n x.gc) (.slice (some ⟨x.h, 0, none⟩) x.n x.hc)
def Sx.v (x : Sx) : Value := .agg x.cs.toArray
/-- two lists of so many -/
structure Tw (V : World) (x : Sx) (F G : Nat → E4) : Prop where
  op : x.p.ok
  oq : x.q.ok
  cg : x.n ≤ x.gc
  ch : x.n ≤ x.hc
  rg : Rl V x.g 0 x.n F
  rh : Rl V x.h 0 x.n G
  og : ∀ k, k < x.n → (F k).ok
  oh : ∀ k, k < x.n → (G k).ok
theorem Tw.kq {ex : Nat → Prop} {A B : World} {x : Sx} {F G : Nat → E4} (h : Tw A x F G) (k : Kq ex A B) (eg : ¬ ex x.g) (eh : ¬ ex x.h) : Tw B x F G := ⟨h.op, h.oq, h.cg, h.ch, k.rl h.rg eg, k.rl h.rh eh, h.og, h.oh⟩
end Rp
end Go.Proofs.YtaejedhdpilhjaaDoor
namespace Go.Proofs.YtaejedhdpilhjaaDoor
namespace Rp
open Go.RowKit
set_option linter.unusedVariables false
theorem bl_drewR (w : World) : Below w.heap.size w w.drew := ⟨rfl, rfl, rfl, Nat.le_refl _, fun _ _ => rfl⟩
theorem wp_storeE {P : Program} {op : Oper} {a : Act} {w : World} {K : Act → World → Prop} {Q : Exit → Act → World → Prop} (ty : TypeId) (x y : Operand) (ho : op.op = .store ty x y) (b o : Nat) (cs : List Value) (hx : a.eval x = .pointer (some ⟨b, o, none⟩)) (hy : a.eval y = .agg cs.toArray) (ht : w.there b o cs.length) (hi : (P.info? ty).map (·.size) = some cs.length) (h1 : cs.toArray.all (·.oneCell') = true) (hd : op.dst = none)
    (h : ∀ w', w' = w.setCells b o cs → K a w') : op.wp P a w K Q := by
  refine wp_store_mid ty x y ho b o cs.toArray hx hy (by simpa using ht) (by simpa using hi) h1 ?_
  have := h _ rfl
  simpa [hd, Act.put] using this
theorem sinfo (p q : E4) (G H : Value) : (Tryd.prog.info? 35).map (·.size) = some (sc p q G H).length := by kernel_rfl
theorem sone (p q : E4) (P1 P2 : Option Addr) (n1 c1 n2 c2 : Nat) : (sc p q (.slice P1 n1 c1) (.slice P2 n2 c2)).toArray.all (·.oneCell') = true := by simp [sc, Value.oneCell']
def fo5o : Array Oper := #[{ dst := some 20, op := Op.load 35 (Operand.tmp 5), type := 35, pos := "rounds.go:71", after := #[], guard := none },
  { dst := some 21, op := Op.fieldAddr 31 (Operand.tmp 3) 0, type := 0, pos := "rounds.go:71", after := #[], guard := none },
  { dst := some 22, op := Op.load 29 (Operand.tmp 21), type := 29, pos := "rounds.go:71", after := #[{ on := 1, ground := Ground.data }], guard := none },
  { dst := some 23, op := Op.move (Operand.tmp 6), type := 3, pos := "rounds.go:71", after := #[], guard := none },
  { dst := some 24, op := Op.indexAddr 29 (Operand.tmp 22) (Operand.tmp 23), type := 0, pos := "rounds.go:71", after := #[{ on := 2, ground := Ground.data }, { on := 3, ground := Ground.data }], guard := none },
  { dst := some 25, op := Op.load 33 (Operand.tmp 24), type := 33, pos := "rounds.go:71", after := #[{ on := 4, ground := Ground.data }], guard := none },
  { dst := some 26, op := Op.fieldAddr 31 (Operand.tmp 3) 1, type := 0, pos := "rounds.go:71", after := #[], guard := none },
  { dst := some 27, op := Op.load 29 (Operand.tmp 26), type := 29, pos := "rounds.go:71", after := #[{ on := 6, ground := Ground.data }], guard := none },
  { dst := some 28, op := Op.move (Operand.tmp 6), type := 3, pos := "rounds.go:71", after := #[], guard := none },
  { dst := some 29, op := Op.indexAddr 29 (Operand.tmp 27) (Operand.tmp 28), type := 0, pos := "rounds.go:71", after := #[{ on := 7, ground := Ground.data }, { on := 8, ground := Ground.data }], guard := none },
  { dst := some 30, op := Op.load 33 (Operand.tmp 29), type := 33, pos := "rounds.go:71", after := #[{ on := 9, ground := Ground.data }], guard := none },
  { dst := some 31, op := Op.load 26 (Operand.tmp 7), type := 26, pos := "rounds.go:71", after := #[], guard := none },
  { dst := some 32, op := Op.call { callee := Callee.value (Operand.func 36), args := #[Operand.tmp 20, Operand.tmp 25, Operand.tmp 30, Operand.tmp 31], argTypes := #[35, 33, 33, 26] }, type := 35, pos := "rounds.go:71", after := #[{ on := 0, ground := Ground.data }, { on := 5, ground := Ground.data }, { on := 10, ground := Ground.data }, { on := 11, ground := Ground.data }], guard := none },
  { dst := none, op := Op.store 35 (Operand.tmp 5) (Operand.tmp 32), type := 0, pos := "rounds.go:71", after := #[{ on := 12, ground := Ground.data }, { on := 12, ground := Ground.chain }, { on := 0, ground := Ground.phase }, { on := 1, ground := Ground.phase }, { on := 2, ground := Ground.phase }, { on := 3, ground := Ground.phase }, { on := 4, ground := Ground.phase }, { on := 5, ground := Ground.phase }, { on := 6, ground := Ground.phase }, { on := 7, ground := Ground.phase }, { on := 8, ground := Ground.phase }, { on := 9, ground := Ground.phase }, { on := 10, ground := Ground.phase }, { on := 11, ground := Ground.phase }, { on := 12, ground := Ground.phase }], guard := none }]
set_option maxRecDepth 100000 in
set_option maxHeartbeats 16000000 in
theorem fo5 (Q : Exit → Act → World → Prop) (Bx N t Uq lb lc rb rc k h g gc g2 hc : Nat) (p q l r u : E4) (R1 R2 : World → Nat → Prop) (u0 u1 u2 u4 u8 u9 u10 u11 u12 u13 u14 u15 u16 u17 u18 u19 u20 u21 u22 u23 u24 u25 u26 u27 u28 u29 u30 u31 u32 u33 u34 u35 u36 : Value) (W : World)
    (nx : Bx ≠ N) (nl : lb ≠ N) (nr : rb ≠ N) (nu : Uq ≠ N) (t0 : (0 : Int) ≤ (t : Int)) (t1 : (t : Int) < (k : Int)) (rn : W.rangeAt N 0 (sc p q (.slice (some ⟨g, 0, none⟩) (2 * h) gc) (.slice (some ⟨g2, 0, none⟩) (2 * h) hc))) (th : W.there N 0 10)
    (x0 : W.cell? ⟨Bx, 0, none⟩ = some (.slice (some ⟨lb, 0, none⟩) k lc)) (x1 : W.cell? ⟨Bx, 1, none⟩ = some (.slice (some ⟨rb, 0, none⟩) k rc))
    (a0 : W.cell? ⟨lb, t * 4, none⟩ = some (.int .u64 l.x0)) (a1 : W.cell? ⟨lb, t * 4 + 1, none⟩ = some (.int .u64 l.x1)) (a2 : W.cell? ⟨lb, t * 4 + 2, none⟩ = some (.int .u64 l.x2)) (a3 : W.cell? ⟨lb, t * 4 + 3, none⟩ = some (.int .u64 l.x3)) (b0 : W.cell? ⟨rb, t * 4, none⟩ = some (.int .u64 r.x0)) (b1 : W.cell? ⟨rb, t * 4 + 1, none⟩ = some (.int .u64 r.x1)) (b2 : W.cell? ⟨rb, t * 4 + 2, none⟩ = some (.int .u64 r.x2)) (b3 : W.cell? ⟨rb, t * 4 + 3, none⟩ = some (.int .u64 r.x3)) (c0 : W.cell? ⟨Uq, 0, none⟩ = some (.int .u64 u.x0)) (c1 : W.cell? ⟨Uq, 1, none⟩ = some (.int .u64 u.x1)) (c2 : W.cell? ⟨Uq, 2, none⟩ = some (.int .u64 u.x2)) (c3 : W.cell? ⟨Uq, 3, none⟩ = some (.int .u64 u.x3))
    (C12 : Hid (∀ y, W.grownBy y (some N) → Calls Tryd.prog 36 #[.agg (sc p q (.slice (some ⟨g, 0, none⟩) (2 * h) gc) (.slice (some ⟨g2, 0, none⟩) (2 * h) hc)).toArray, .agg #[.int .u64 l.x0, .int .u64 l.x1, .int .u64 l.x2, .int .u64 l.x3], .agg #[.int .u64 r.x0, .int .u64 r.x1, .int .u64 r.x2, .int .u64 r.x3], .agg #[.int .u64 u.x0, .int .u64 u.x1, .int .u64 u.x2, .int .u64 u.x3]] y fun e w' => ∃ n1 n2 : Nat, e = .returned (.agg (sc (fp p l r u) q (.slice (some ⟨n1, 0, none⟩) h h) (.slice (some ⟨n2, 0, none⟩) h h)).toArray) ∧ y.heap.size ≤ n1 ∧ y.heap.size ≤ n2 ∧ R1 w' n1 ∧ R2 w' n2 ∧ Below y.heap.size y w'))
    (HQ : Hid (∀ (n1 n2 : Nat) (wz : World), W.heap.size ≤ n1 → W.heap.size ≤ n2 → (∃ wy, Below W.heap.size W wy ∧ R1 wy n1 ∧ R2 wy n2 ∧ wy.there N 0 10 ∧ wz = wy.setCells N 0 (sc (fp p l r u) q (.slice (some ⟨n1, 0, none⟩) h h) (.slice (some ⟨n2, 0, none⟩) h h))) → Q .normal ⟨#[u0, u1, u2, .pointer (some ⟨Bx, 0, none⟩), u4, .pointer (some ⟨N, 0, none⟩), .int .i64 (t : Int), .pointer (some ⟨Uq, 0, none⟩), u8, u9, u10, u11, u12, u13, u14, u15, u16, u17, u18, u19, .agg (sc p q (.slice (some ⟨g, 0, none⟩) (2 * h) gc) (.slice (some ⟨g2, 0, none⟩) (2 * h) hc)).toArray, .pointer (some ⟨Bx, 0, none⟩), .slice (some ⟨lb, 0, none⟩) k lc, .int .i64 (t : Int), .pointer (some ⟨lb, t * 4, none⟩), .agg #[.int .u64 l.x0, .int .u64 l.x1, .int .u64 l.x2, .int .u64 l.x3], .pointer (some ⟨Bx, 1, none⟩), .slice (some ⟨rb, 0, none⟩) k rc, .int .i64 (t : Int), .pointer (some ⟨rb, t * 4, none⟩), .agg #[.int .u64 r.x0, .int .u64 r.x1, .int .u64 r.x2, .int .u64 r.x3], .agg #[.int .u64 u.x0, .int .u64 u.x1, .int .u64 u.x2, .int .u64 u.x3], .agg (sc (fp p l r u) q (.slice (some ⟨n1, 0, none⟩) h h) (.slice (some ⟨n2, 0, none⟩) h h)).toArray, u33, u34, u35, u36], []⟩ wz)) : (Code.region 5 fo5o true).wp Tryd.prog Q ⟨#[u0, u1, u2, .pointer (some ⟨Bx, 0, none⟩), u4, .pointer (some ⟨N, 0, none⟩), .int .i64 (t : Int), .pointer (some ⟨Uq, 0, none⟩), u8, u9, u10, u11, u12, u13, u14, u15, u16, u17, u18, u19, u20, u21, u22, u23, u24, u25, u26, u27, u28, u29, u30, u31, u32, u33, u34, u35, u36], []⟩ W := by
  have TH := hidden (there_keepM th (bl_drewR W))
  have RN := hidden (range_keepM rn (bl_drewR W))
  have BB := hidden (bl_drewR W)
  clear th rn
  unfold fo5o
  refine wp_region_noPanic ?_
  refine wp_region_held_drew (S := fun x => W.grownBy x (some N)) (by kernel_rfl) (gbI (bl_drewR W) _) (fun hH0 => ?_)
  refine wpAnyH_take (i := 1) (oi := { dst := some 21, op := Op.fieldAddr 31 (Operand.tmp 3) 0, type := 0, pos := "rounds.go:71", after := #[], guard := none }) (v := .pointer (some ⟨Bx, 0, none⟩)) rfl (by kernel_rfl) (by kernel_rfl) (by kernel_rfl) (fun _ _ _ h => h) (Or.inl ⟨by rfl, fun w0 hSw => ?_⟩) hH0 ?_
  · (clear hSw; go_simp)
  simp only [Act.put, List.setIfInBounds_toArray, List.set_cons_zero, List.set_cons_succ]
  refine wpAnyH_take (i := 3) (oi := { dst := some 23, op := Op.move (Operand.tmp 6), type := 3, pos := "rounds.go:71", after := #[], guard := none }) (v := .int .i64 (t : Int)) rfl (by kernel_rfl) (by kernel_rfl) (by kernel_rfl) (fun _ _ _ h => h) (Or.inl ⟨by rfl, fun w0 hSw => ?_⟩) hH0 ?_
  · (clear hSw; go_simp)
  simp only [Act.put, List.setIfInBounds_toArray, List.set_cons_zero, List.set_cons_succ]
  refine wpAnyH_take (i := 6) (oi := { dst := some 26, op := Op.fieldAddr 31 (Operand.tmp 3) 1, type := 0, pos := "rounds.go:71", after := #[], guard := none }) (v := .pointer (some ⟨Bx, 1, none⟩)) rfl (by kernel_rfl) (by kernel_rfl) (by kernel_rfl) (fun _ _ _ h => h) (Or.inl ⟨by rfl, fun w0 hSw => ?_⟩) hH0 ?_
  · (clear hSw; go_simp)
  simp only [Act.put, List.setIfInBounds_toArray, List.set_cons_zero, List.set_cons_succ]
  refine wpAnyH_take (i := 8) (oi := { dst := some 28, op := Op.move (Operand.tmp 6), type := 3, pos := "rounds.go:71", after := #[], guard := none }) (v := .int .i64 (t : Int)) rfl (by kernel_rfl) (by kernel_rfl) (by kernel_rfl) (fun _ _ _ h => h) (Or.inl ⟨by rfl, fun w0 hSw => ?_⟩) hH0 ?_
  · (clear hSw; go_simp)
  simp only [Act.put, List.setIfInBounds_toArray, List.set_cons_zero, List.set_cons_succ]
  refine wpAnyH_take (i := 11) (oi := { dst := some 31, op := Op.load 26 (Operand.tmp 7), type := 26, pos := "rounds.go:71", after := #[], guard := none }) (v := .agg #[.int .u64 u.x0, .int .u64 u.x1, .int .u64 u.x2, .int .u64 u.x3]) rfl (by kernel_rfl) (by kernel_rfl) (by kernel_rfl) (fun _ _ _ h => h) (Or.inl ⟨by rfl, fun w0 hSw => ?_⟩) hH0 ?_
  · (have hS : W.grownBy w0 (some N) := hSw; have a0 := hS.cell c0 (fun e => nu (Option.some.inj e)); have a1 := hS.cell c1 (fun e => nu (Option.some.inj e)); have a2 := hS.cell c2 (fun e => nu (Option.some.inj e)); have a3 := hS.cell c3 (fun e => nu (Option.some.inj e)); clear hS hSw; go_simp)
  simp only [Act.put, List.setIfInBounds_toArray, List.set_cons_zero, List.set_cons_succ]
  refine wpAnyH_take (i := 2) (oi := { dst := some 22, op := Op.load 29 (Operand.tmp 21), type := 29, pos := "rounds.go:71", after := #[{ on := 1, ground := Ground.data }], guard := none }) (v := .slice (some ⟨lb, 0, none⟩) k lc) rfl (by kernel_rfl) (by kernel_rfl) (by kernel_rfl) (fun _ _ _ h => h) (Or.inl ⟨by rfl, fun w0 hSw => ?_⟩) hH0 ?_
  · (have hS : W.grownBy w0 (some N) := hSw; have a0 := hS.cell x0 (fun e => nx (Option.some.inj e)); clear hS hSw; go_simp)
  simp only [Act.put, List.setIfInBounds_toArray, List.set_cons_zero, List.set_cons_succ]
  refine wpAnyH_take (i := 7) (oi := { dst := some 27, op := Op.load 29 (Operand.tmp 26), type := 29, pos := "rounds.go:71", after := #[{ on := 6, ground := Ground.data }], guard := none }) (v := .slice (some ⟨rb, 0, none⟩) k rc) rfl (by kernel_rfl) (by kernel_rfl) (by kernel_rfl) (fun _ _ _ h => h) (Or.inl ⟨by rfl, fun w0 hSw => ?_⟩) hH0 ?_
  · (have hS : W.grownBy w0 (some N) := hSw; have a0 := hS.cell x1 (fun e => nx (Option.some.inj e)); clear hS hSw; go_simp)
  simp only [Act.put, List.setIfInBounds_toArray, List.set_cons_zero, List.set_cons_succ]
  refine wpAnyH_take (i := 4) (oi := { dst := some 24, op := Op.indexAddr 29 (Operand.tmp 22) (Operand.tmp 23), type := 0, pos := "rounds.go:71", after := #[{ on := 2, ground := Ground.data }, { on := 3, ground := Ground.data }], guard := none }) (v := .pointer (some ⟨lb, t * 4, none⟩)) rfl (by kernel_rfl) (by kernel_rfl) (by kernel_rfl) (fun _ _ _ h => h) (Or.inl ⟨by rfl, fun w0 hSw => ?_⟩) hH0 ?_
  · (clear hSw; go_simp)
  simp only [Act.put, List.setIfInBounds_toArray, List.set_cons_zero, List.set_cons_succ]
  refine wpAnyH_take (i := 9) (oi := { dst := some 29, op := Op.indexAddr 29 (Operand.tmp 27) (Operand.tmp 28), type := 0, pos := "rounds.go:71", after := #[{ on := 7, ground := Ground.data }, { on := 8, ground := Ground.data }], guard := none }) (v := .pointer (some ⟨rb, t * 4, none⟩)) rfl (by kernel_rfl) (by kernel_rfl) (by kernel_rfl) (fun _ _ _ h => h) (Or.inl ⟨by rfl, fun w0 hSw => ?_⟩) hH0 ?_
  · (clear hSw; go_simp)
  simp only [Act.put, List.setIfInBounds_toArray, List.set_cons_zero, List.set_cons_succ]
  refine wpAnyH_take (i := 5) (oi := { dst := some 25, op := Op.load 33 (Operand.tmp 24), type := 33, pos := "rounds.go:71", after := #[{ on := 4, ground := Ground.data }], guard := none }) (v := .agg #[.int .u64 l.x0, .int .u64 l.x1, .int .u64 l.x2, .int .u64 l.x3]) rfl (by kernel_rfl) (by kernel_rfl) (by kernel_rfl) (fun _ _ _ h => h) (Or.inl ⟨by rfl, fun w0 hSw => ?_⟩) hH0 ?_
  · (have hS : W.grownBy w0 (some N) := hSw; have a0 := hS.cell a0 (fun e => nl (Option.some.inj e)); have a1 := hS.cell a1 (fun e => nl (Option.some.inj e)); have a2 := hS.cell a2 (fun e => nl (Option.some.inj e)); have a3 := hS.cell a3 (fun e => nl (Option.some.inj e)); clear hS hSw; go_simp)
  simp only [Act.put, List.setIfInBounds_toArray, List.set_cons_zero, List.set_cons_succ]
  refine wpAnyH_take (i := 10) (oi := { dst := some 30, op := Op.load 33 (Operand.tmp 29), type := 33, pos := "rounds.go:71", after := #[{ on := 9, ground := Ground.data }], guard := none }) (v := .agg #[.int .u64 r.x0, .int .u64 r.x1, .int .u64 r.x2, .int .u64 r.x3]) rfl (by kernel_rfl) (by kernel_rfl) (by kernel_rfl) (fun _ _ _ h => h) (Or.inl ⟨by rfl, fun w0 hSw => ?_⟩) hH0 ?_
  · (have hS : W.grownBy w0 (some N) := hSw; have a0 := hS.cell b0 (fun e => nr (Option.some.inj e)); have a1 := hS.cell b1 (fun e => nr (Option.some.inj e)); have a2 := hS.cell b2 (fun e => nr (Option.some.inj e)); have a3 := hS.cell b3 (fun e => nr (Option.some.inj e)); clear hS hSw; go_simp)
  simp only [Act.put, List.setIfInBounds_toArray, List.set_cons_zero, List.set_cons_succ]
  refine wpAnyH_ready (rs := [0]) (by kernel_rfl) (by simp) ?_
  refine AllReadyH.cons (o := { dst := some 20, op := Op.load 35 (Operand.tmp 5), type := 35, pos := "rounds.go:71", after := #[], guard := none }) rfl (fun K hK => ?_) AllReadyH.nil
  have HH := hidden hH0
  clear hH0
  refine wp_load_mid 35 _ rfl N 0 rfl (sc p q (.slice (some ⟨g, 0, none⟩) (2 * h) gc) (.slice (some ⟨g2, 0, none⟩) (2 * h) hc)) _ RN.out Tryd.underlying35 rfl (sinfo _ _ _ _) ?_
  simp only [Act.put, List.setIfInBounds_toArray, List.set_cons_zero, List.set_cons_succ]
  have SN := HH
  clear HH
  refine hK.out _ _ SN.out (fun hH1 => ?_)
  clear hK K SN
  refine wpAnyH_ready (rs := [12]) (by kernel_rfl) (by simp) ?_
  refine AllReadyH.cons (o := { dst := some 32, op := Op.call { callee := Callee.value (Operand.func 36), args := #[Operand.tmp 20, Operand.tmp 25, Operand.tmp 30, Operand.tmp 31], argTypes := #[35, 33, 33, 26] }, type := 35, pos := "rounds.go:71", after := #[{ on := 0, ground := Ground.data }, { on := 5, ground := Ground.data }, { on := 10, ground := Ground.data }, { on := 11, ground := Ground.data }], guard := none }) rfl (fun K hK => ?_) AllReadyH.nil
  have HH := hidden hH1
  clear hH1
  go_simp
  refine (C12.out _ HH.out).mono ?_
  rintro e wn2 ⟨n1, n2, rfl, ge1, ge2, r1, r2, hb⟩
  have RA := hidden (And.intro (Nat.le_trans HH.out.size ge1) (And.intro (Nat.le_trans HH.out.size ge2) (And.intro r1 r2)))
  have SN := hidden (HH.out.trans (gbI hb _))
  replace TH := hidden (there_keepM TH.out hb)
  replace BB := hidden (bl_trans BB.out hb)
  clear HH C12 ge1 ge2 r1 r2 hb RN
  go_wp2_with fail
  refine hK.out _ _ SN.out (fun hH2 => ?_)
  clear hK K SN
  refine wpAnyH_ready (rs := [13]) (by kernel_rfl) (by simp) ?_
  refine AllReadyH.cons (o := { dst := none, op := Op.store 35 (Operand.tmp 5) (Operand.tmp 32), type := 0, pos := "rounds.go:71", after := #[{ on := 12, ground := Ground.data }, { on := 12, ground := Ground.chain }, { on := 0, ground := Ground.phase }, { on := 1, ground := Ground.phase }, { on := 2, ground := Ground.phase }, { on := 3, ground := Ground.phase }, { on := 4, ground := Ground.phase }, { on := 5, ground := Ground.phase }, { on := 6, ground := Ground.phase }, { on := 7, ground := Ground.phase }, { on := 8, ground := Ground.phase }, { on := 9, ground := Ground.phase }, { on := 10, ground := Ground.phase }, { on := 11, ground := Ground.phase }, { on := 12, ground := Ground.phase }], guard := none }) rfl (fun K hK => ?_) AllReadyH.nil
  have HH := hidden hH2
  clear hH2
  refine wp_storeE 35 _ _ rfl N 0 (sc (fp p l r u) q (.slice (some ⟨n1, 0, none⟩) h h) (.slice (some ⟨n2, 0, none⟩) h h)) (by rfl) (by rfl) TH.out (sinfo _ _ _ _) (sone _ _ _ _ _ _ _ _) rfl (fun wn3 hw => ?_)
  have SN := hidden (HH.out.trans (gb_setCells N (sc (fp p l r u) q (.slice (some ⟨n1, 0, none⟩) h h) (.slice (some ⟨n2, 0, none⟩) h h)) 0 _))
  have FE := hidden ((⟨_, BB.out, RA.out.2.2.1, RA.out.2.2.2, TH.out, hw⟩ : ∃ wy, Below W.heap.size W wy ∧ R1 wy n1 ∧ R2 wy n2 ∧ wy.there N 0 10 ∧ _ = wy.setCells N 0 (sc (fp p l r u) q (.slice (some ⟨n1, 0, none⟩) h h) (.slice (some ⟨n2, 0, none⟩) h h))))
  rw [← hw] at SN
  clear HH hw
  refine hK.out _ _ SN.out (fun hH3 => ?_)
  clear hK K SN
  have HH := hidden hH3
  have FQ := hidden (HQ.out n1 n2 _ RA.out.1 RA.out.2.1 FE.out)
  refine wpAnyH_done (by kernel_rfl) ?_ _
  refine NoPanic.normal ?_
  exact FQ.out
end Rp
end Go.Proofs.YtaejedhdpilhjaaDoor
namespace Go.Proofs.YtaejedhdpilhjaaDoor
namespace Rp
open Go.RowKit Go.Shelf
set_option linter.unusedVariables false
def z10 : List Value := [.int .u64 0, .int .u64 0, .int .u64 0, .int .u64 0, .int .u64 0, .int .u64 0, .int .u64 0, .int .u64 0, .slice none 0 0, .slice none 0 0]
theorem place {W : World} {u fl fr fg fh : Nat → E4} {k : Nat} (x0 : Sx) (tw : Tw W x0 fg fh) (n0 : x0.n = 2 ^ k) : (Tw W x0 (gf u k fg 0) (hf u k fh 0) ∧ x0.n = 2 ^ (k - 0) ∧ x0.p = pf u fl fr x0.p 0 ∧ x0.q = x0.q ∧ ((x0.g = x0.g ∧ x0.h = x0.h) ∨ (W.heap.size + 1 ≤ x0.g ∧ W.heap.size + 1 ≤ x0.h))) := ⟨tw, n0, rfl, rfl, .inl ⟨rfl, rfl⟩⟩
attribute [local go_sem] Oper.semAt_some
theorem okx_kq {A B : World} {ex : Nat → Prop} {x : Sx} {u fl fr fg fh : Nat → E4} {k t : Nat} {x0 : Sx} {W : World} (h : (Tw A x (gf u k fg t) (hf u k fh t) ∧ x.n = 2 ^ (k - t) ∧ x.p = pf u fl fr x0.p t ∧ x.q = x0.q ∧ ((x.g = x0.g ∧ x.h = x0.h) ∨ (W.heap.size + 1 ≤ x.g ∧ W.heap.size + 1 ≤ x.h)))) (hk : Kq ex A B) (h1 : ¬ ex x.g) (h2 : ¬ ex x.h) : (Tw B x (gf u k fg t) (hf u k fh t) ∧ x.n = 2 ^ (k - t) ∧ x.p = pf u fl fr x0.p t ∧ x.q = x0.q ∧ ((x.g = x0.g ∧ x.h = x0.h) ∨ (W.heap.size + 1 ≤ x.g ∧ W.heap.size + 1 ≤ x.h))) := ⟨h.1.kq hk h1 h2, h.2⟩
theorem rl_gbR {w w' : World} {b o n c : Nat} {g : Nat → E4} (h : Rl w b o n g) (hg : w.grownBy w' (some c)) (hne : b ≠ c) : Rl w' b o n g :=
  ⟨fun k hk => hg.cell (h.c0 k hk) (fun e => hne (Option.some.inj e)), fun k hk => hg.cell (h.c1 k hk) (fun e => hne (Option.some.inj e)), fun k hk => hg.cell (h.c2 k hk) (fun e => hne (Option.some.inj e)), fun k hk => hg.cell (h.c3 k hk) (fun e => hne (Option.some.inj e))⟩
theorem rws_rl {w : World} {b n : Nat} {g : Nat → E4} (h : Rws w b n g) : Rl w b 0 n g :=
  ⟨fun k hk => by rw [Nat.zero_add]; exact h.c0 k hk, fun k hk => by rw [Nat.zero_add]; exact h.c1 k hk, fun k hk => by rw [Nat.zero_add]; exact h.c2 k hk, fun k hk => by rw [Nat.zero_add]; exact h.c3 k hk⟩
theorem fp_ok (p l r u : E4) : (fp p l r u).ok := lst_ok _
theorem bd_ok (x y : E4) (h : Nat) (f : Nat → E4) (i : Nat) : (bd x y h f i).ok := lst_ok _
theorem inLoad {F : Fence} {n : Nat} {P : Program} {ops : Array Oper} {rest : List Oper} {o : Oper} {a : Act} {w : World} {Q : Exit → Act → World → Prop} (hgd : o.guard = none) (ty : TypeId) (x : Operand) (ho : o.op = .load ty x)
    (b off : Nat) (hx : a.eval x = .pointer (some ⟨b, off, none⟩)) (cs : List Value) (d : TypeDesc) (hc : w.rangeAt b off cs) (hu : P.underlying ty = some d) (hd : d.isRow = true) (hi : (P.info? ty).map (·.size) = some cs.length)
    (h : wpListIn F n P ops Q rest (a.put o.dst (.agg cs.toArray)) w) : wpListIn F n P ops Q (o :: rest) a w := by
  refine wpListIn_plain hgd fun K hK => ?_
  unfold Oper.wpIn
  refine ⟨?_, ?_⟩
  · simp [Oper.about, ho]
  · rw [Oper.semAt_plain F _ _ (by rw [ho]; intro c hc'; cases hc')]
    simp only [execOp, ho, hx, Instr.loadAt, Instr.sureAddr, Sem.run_bind, Sem.run_pure, Result.andThen_ok, run_loadVar_mid w b off ty cs d hc hu hd hi]
    exact hK _ _ h
set_option maxRecDepth 100000 in
set_option maxHeartbeats 16000000 in
theorem folds1_in (ex : Nat → Prop) (l Bs Bu Bx k ub uc lb lc rb rc : Nat) (up : Option Addr) (u fl fr fg fh : Nat → E4) (x0 : Sx) (J : List Sx → World → Prop) (W : World) (hk : k ≤ 10)
    (hY : ∀ (pre : List Sx) (x : Sx) (V : World), J pre V → (Tw V x (gf u k fg pre.length) (hf u k fh pre.length) ∧ x.n = 2 ^ (k - pre.length) ∧ x.p = pf u fl fr x0.p pre.length ∧ x.q = x0.q ∧ ((x.g = x0.g ∧ x.h = x0.h) ∨ (W.heap.size + 1 ≤ x.g ∧ W.heap.size + 1 ≤ x.h))) → pre.length < k + 1 → W.heap.size + 1 ≤ V.heap.size → YieldAt Fence.wide (2 - 1) Tryd.prog l #[x.v] V fun e V' => e = .returned (.bool true) ∧ J (pre ++ [x]) V' ∧ Kq ex V V')
    (hJ : Abi W.heap.size (W.heap.size + 1) J) (h0 : J [] W) (hT : Tb W) (hs : W.rangeAt Bs 0 x0.cs) (hu0 : W.cell? ⟨Bu, 0, none⟩ = some (.slice up k uc)) (hup : 0 < k → up = some ⟨ub, 0, none⟩) (hur : Rl W ub 0 k u) (uok : ∀ t, t < k → (u t).ok)
    (hx0 : W.cell? ⟨Bx, 0, none⟩ = some (.slice (some ⟨lb, 0, none⟩) k lc)) (hx1 : W.cell? ⟨Bx, 1, none⟩ = some (.slice (some ⟨rb, 0, none⟩) k rc)) (hl : Rl W lb 0 k fl) (hr : Rl W rb 0 k fr) (lok : ∀ t, t < k → (fl t).ok) (rok : ∀ t, t < k → (fr t).ok)
    (tw : Tw W x0 fg fh) (n0 : x0.n = 2 ^ k) (e1 : ¬ ex Bx) (e2 : ¬ ex ub) (e3 : ¬ ex lb) (e4 : ¬ ex rb) (e5 : ¬ ex 0) (e6 : ¬ ex x0.g) (e7 : ¬ ex x0.h) (e8 : ∀ j, ex j → j < W.heap.size) :
    CallsIn Fence.wide 2 Tryd.prog 35 #[.func (.yield l) #[] #[], .pointer (some ⟨Bs, 0, none⟩), .pointer (some ⟨Bu, 0, none⟩), .pointer (some ⟨Bx, 0, none⟩)] W fun e V => (∃ v, e = .returned v) ∧ ∃ xs : List Sx, xs.length = k + 1 ∧ J xs V := by
  refine callsIn_wide.2 ?_
  obtain ⟨C, hC⟩ : ∃ C, C = x0.cs := ⟨_, rfl⟩
  have HS : Hid (W.rangeAt Bs 0 C) := hidden (by rw [hC]; exact hs)
  have I0 : Hid ((Tryd.prog.info? 35).map (·.size) = some C.length) := hidden (by rw [hC]; exact sinfo _ _ _ _)
  have I1 : Hid ((Tryd.prog.info? 35).map (·.size) = some C.toArray.size) := hidden (by rw [hC]; exact sinfo _ _ _ _)
  have O0 : Hid (C.toArray.all (·.oneCell') = true) := hidden (by rw [hC]; exact sone _ _ _ _ _ _ _ _)
  have T0 : Hid ((W.alloc (.cells #[.int .u64 0, .int .u64 0, .int .u64 0, .int .u64 0, .int .u64 0, .int .u64 0, .int .u64 0, .int .u64 0, .slice none 0 0, .slice none 0 0] 35)).there W.heap.size 0 C.toArray.size) := hidden (by rw [hC]; exact there_newM W z10 35)
  have B0 := hidden (bl_alloc W (.cells #[.int .u64 0, .int .u64 0, .int .u64 0, .int .u64 0, .int .u64 0, .int .u64 0, .int .u64 0, .int .u64 0, .slice none 0 0, .slice none 0 0] 35))
  have PG := hidden (place x0 tw n0 (W := W) (u := u) (k := k) (fg := fg) (fh := fh) (fl := fl) (fr := fr))
  have HC := hidden hC
  clear hs hC
  go_enter Tryd.func35, Tryd.ntmps35
  go_upto_region 1 with (first | (refine wpList_load_mid rfl 35 _ rfl Bs 0 rfl C _ HS.out Tryd.underlying35 rfl I0.out ?_) | (refine wpList_store_mid rfl 35 _ _ rfl W.heap.size 0 C.toArray rfl rfl T0.out I1.out O0.out ?_))
  have W1e : ∃ W1, (W.alloc (.cells #[.int .u64 0, .int .u64 0, .int .u64 0, .int .u64 0, .int .u64 0, .int .u64 0, .int .u64 0, .int .u64 0, .slice none 0 0, .slice none 0 0] 35)).setCells W.heap.size 0 C.toArray.toList = W1 := ⟨_, rfl⟩
  obtain ⟨W1, hW1⟩ := W1e
  have RN : Hid (W1.rangeAt W.heap.size 0 C) := hidden (by rw [← hW1]; exact World.rangeAt_setCells_same _ _ _ _ (by simpa using T0.out))
  have TN : Hid (W1.there W.heap.size 0 10) := hidden (by rw [← hW1]; exact World.there_setCells (by have := T0.out; rw [HC.out] at this; exact this) _ _ _)
  have B1 : Hid (Below W.heap.size W W1) := hidden (by rw [← hW1]; exact below_setCellsM _ _ _ B0.out (Nat.le_refl _))
  have S1 : Hid (W.heap.size + 1 ≤ W1.heap.size) := hidden (by rw [← hW1, size_setCellsM, World.size_alloc]; exact Nat.le_refl _)
  have J1 : Hid (J [] W1) := hidden (hJ [] W W1 none h0 (gbI B1.out none) (fun r e => by cases e))
  rw [hW1]
  simp only [Act.put]
  obtain ⟨N, hN⟩ : ∃ N, N = W.heap.size := ⟨_, rfl⟩
  rw [← hN] at RN TN S1
  rw [← hN]
  have HN := hidden hN
  have c0 := cell_keep hu0 B1.out
  have HY := hidden hY
  have HJ := hidden hJ
  have HT := hidden (hT.keep B1.out)
  have HUP := hidden hup
  have HUR := hidden (hur.keep B1.out)
  have UOK := hidden uok
  have X0 := hidden (cell_keep hx0 B1.out)
  have X1 := hidden (cell_keep hx1 B1.out)
  have HL := hidden (hl.keep B1.out)
  have HR := hidden (hr.keep B1.out)
  have LOK := hidden lok
  have ROK := hidden rok
  have KK := hidden hk
  have EX := hidden (And.intro e1 (And.intro e2 (And.intro e3 (And.intro e4 (And.intro e5 (And.intro e6 e7))))))
  have E8 := hidden e8
  have LTS : Hid (Bx < N ∧ (0 < k → lb < N) ∧ (0 < k → rb < N) ∧ (0 < k → ub < N) ∧ 0 < N ∧ x0.g < N ∧ x0.h < N) := hidden (by
    have np : 0 < x0.n := by rw [n0]; exact Nat.pow_pos (by omega)
    rw [hN]
    exact ⟨World.block_lt_of_cell? _ _ hx0, fun h => World.block_lt_of_cell? _ _ (hl.c0 0 h), fun h => World.block_lt_of_cell? _ _ (hr.c0 0 h), fun h => World.block_lt_of_cell? _ _ (hur.c0 0 h), World.block_lt_of_cell? _ _ hT.1, World.block_lt_of_cell? _ _ (tw.rg.c0 0 np), World.block_lt_of_cell? _ _ (tw.rh.c0 0 np)⟩)
  have R0 : Hid (∃ (pre : List Sx) (x : Sx), pre.length = 0 ∧ J pre W1 ∧ W1.rangeAt N 0 x.cs ∧ W1.there N 0 10 ∧ (Tw W1 x (gf u k fg 0) (hf u k fh 0) ∧ x.n = 2 ^ (k - 0) ∧ x.p = pf u fl fr x0.p 0 ∧ x.q = x0.q ∧ ((x.g = x0.g ∧ x.h = x0.h) ∨ (W.heap.size + 1 ≤ x.g ∧ W.heap.size + 1 ≤ x.h))) ∧ Kq (fun j => ex j ∨ j = N) W1 W1 ∧ N + 1 ≤ W1.heap.size) := hidden ⟨[], x0, rfl, J1.out, by rw [← HC.out]; exact RN.out, TN.out, ⟨⟨tw.op, tw.oq, tw.cg, tw.ch, tw.rg.keep B1.out, tw.rh.keep B1.out, tw.og, tw.oh⟩, PG.out.2⟩, Kq.refl _ _, S1.out⟩
  clear hY hJ h0 hT hu0 hup hur uok hx0 hx1 hl hr lok rok tw hk e1 e2 e3 e4 e5 e6 e7 e8 hW1 HS I0 I1 O0 T0 B0 PG J1 RN TN hN
  go_wp2_with fail
  go_loopw [11] (fun iv V => ∃ t : Nat, t ≤ k ∧ iv = .int .i64 (t : Int) ∧ Hid (∃ (pre : List Sx) (x : Sx), pre.length = t ∧ J pre V ∧ V.rangeAt N 0 x.cs ∧ V.there N 0 10 ∧ (Tw V x (gf u k fg t) (hf u k fh t) ∧ x.n = 2 ^ (k - t) ∧ x.p = pf u fl fr x0.p t ∧ x.q = x0.q ∧ ((x.g = x0.g ∧ x.h = x0.h) ∨ (W.heap.size + 1 ≤ x.g ∧ W.heap.size + 1 ≤ x.h))) ∧ Kq (fun j => ex j ∨ j = N) W1 V ∧ N + 1 ≤ V.heap.size)) (fun i _ => k - (intOf i).toNat)
  case atStart => exact ⟨0, by omega, rfl, R0⟩
  case round =>
    clear R0 c0
    obtain ⟨t, ht, rfl, hR⟩ := hrel
    by_cases htk : t < k
    · obtain ⟨pre, x, hpl, hJp, hrn, htn, hok, hkq, hsz⟩ := hR.out
      have t0 : (0 : Int) ≤ (t : Int) := by omega
      have t1 : (t : Int) < (k : Int) := by omega
      have w9 : IntKind.i64.wrap ((t : Int) + 1) = (t : Int) + 1 := IntWalk.i64_in _ (by have := KK.out; omega)
      have hue := HUP.out (by omega)
      subst hue
      have nub : ¬ (fun j => ex j ∨ j = N) ub := fun h => by
        rcases h with h | h
        · exact EX.out.2.1 h
        · have := LTS.out.2.2.2.1 (by omega); omega
      have ru := hkq.rl HUR.out nub
      have q0 := ru.c0 t htk
      have q1 := ru.c1 t htk
      have q2 := ru.c2 t htk
      have q3 := ru.c3 t htk
      simp only [Nat.zero_add] at q0 q1 q2 q3
      obtain ⟨y, hy⟩ : ∃ y, y = u t := ⟨_, rfl⟩
      rw [← hy] at q0 q1 q2 q3
      have HYU := hidden hy
      have JP := hidden hJp
      have RN := hidden hrn
      have TN := hidden htn
      have OKK := hidden hok
      have KQ := hidden hkq
      have SZ := hidden hsz
      have PL := hidden hpl
      clear hR hy hJp hrn htn hok hkq hsz hpl ru nub
      go_upto_region 4 with fail
      have BA := bl_alloc wr (.cells #[.int .u64 y.x0, .int .u64 y.x1, .int .u64 y.x2, .int .u64 y.x3] 26)
      have u0 : (wr.alloc (.cells #[.int .u64 y.x0, .int .u64 y.x1, .int .u64 y.x2, .int .u64 y.x3] 26)).rangeAt wr.heap.size 0 [.int .u64 y.x0, .int .u64 y.x1, .int .u64 y.x2, .int .u64 y.x3] := range_newM wr _ _
      have uS : wr.heap.size < (wr.alloc (.cells #[.int .u64 y.x0, .int .u64 y.x1, .int .u64 y.x2, .int .u64 y.x3] 26)).heap.size := by simp
      obtain ⟨Uq, hUq⟩ : ∃ Uq, Uq = wr.heap.size := ⟨_, rfl⟩
      rw [← hUq] at u0 uS
      rw [← hUq]
      have UU := hidden u0
      have US := hidden uS
      have UN : Hid (N < Uq) := hidden (by rw [hUq]; have := SZ.out; omega)
      generalize hV2 : wr.alloc (.cells #[.int .u64 y.x0, .int .u64 y.x1, .int .u64 y.x2, .int .u64 y.x3] 26) = V2 at *
      have J2 := HJ.out pre wr V2 none JP.out (gbI BA none) (fun r e => by cases e)
      have R2 := hidden (range_keepM RN.out BA)
      have T2 := hidden (there_keepM TN.out BA)
      have K2 := hidden (KQ.out.trans (Kq.below BA))
      have O2 := hidden (okx_kq OKK.out (Kq.below (ex := fun _ => False) BA) (fun h => h) (fun h => h))
      have Z2 : Hid (N + 1 ≤ V2.heap.size) := hidden (Nat.le_trans SZ.out BA.size)
      obtain ⟨fn, tmps, assign, body, hy4, hR4⟩ := HY.out pre x V2 J2 (by rw [PL.out]; exact O2.out) (by rw [PL.out]; omega) (by rw [← HN.out]; exact Z2.out)
      obtain ⟨D, hD⟩ : ∃ D, D = x.cs := ⟨_, rfl⟩
      have hy5 : (Instr.yield l #[.agg D.toArray]).run Tryd.prog V2 = .ok (.round l fn tmps assign body) V2 := by rw [hD]; exact hy4
      have HD := hidden hD
      have RD : Hid (V2.rangeAt N 0 D) := hidden (by rw [hD]; exact R2.out)
      have ID : Hid ((Tryd.prog.info? 35).map (·.size) = some D.length) := hidden (by rw [hD]; exact sinfo _ _ _ _)
      have HR4 := hidden hR4
      clear hy4 hD hR4 BA u0 uS J2 hV2 hUq JP RN TN OKK KQ q0 q1 q2 q3 SZ
      refine (wpIn_wide (n := 2)).1 ?_
      gi_wp2_with (first | (refine inLoad rfl 35 _ rfl N 0 rfl D _ RD.out Tryd.underlying35 rfl ID.out ?_))
      refine HR4.out.mono ?_
      rintro e V3 ⟨rfl, hJ3, hk3⟩
      have J3 := hidden hJ3
      have Q3 := hidden hk3
      clear hJ3 hk3 HR4 hy5
      gi_wp2
      go_upto_region 5 with fail
      have nexN : ¬ ex N := fun h => by have := E8.out N h; have := HN.out; omega
      have nexU : ¬ ex Uq := fun h => by have := E8.out Uq h; have := HN.out; have := UN.out; omega
      have big : ∀ j, N + 1 ≤ j → ¬ ex j := fun j hj h => by have := E8.out j h; have := HN.out; omega
      have sml : ∀ j, j < N → ¬ ex j → ¬ (ex j ∨ j = N) := fun j hj he h => by
        rcases h with h | h
        · exact he h
        · omega
      have K3 := hidden (K2.out.trans (Q3.out.mono (fun _ h => Or.inl h)))
      have nxg : ¬ ex x.g := by
        rcases O2.out.2.2.2.2 with h | h
        · rw [h.1]; exact EX.out.2.2.2.2.2.1
        · exact big _ (by rw [HN.out]; exact h.1)
      have nxh : ¬ ex x.h := by
        rcases O2.out.2.2.2.2 with h | h
        · rw [h.2]; exact EX.out.2.2.2.2.2.2
        · exact big _ (by rw [HN.out]; exact h.2)
      have O3 := okx_kq O2.out Q3.out nxg nxh
      have gN : x.g ≠ N := by
        rcases O2.out.2.2.2.2 with h | h
        · rw [h.1]; have := LTS.out.2.2.2.2.2.1; omega
        · have := h.1; have := HN.out; omega
      have hNe : x.h ≠ N := by
        rcases O2.out.2.2.2.2 with h | h
        · rw [h.2]; have := LTS.out.2.2.2.2.2.2; omega
        · have := h.2; have := HN.out; omega
      have kp : 0 < k := by omega
      have lbN := LTS.out.2.1 kp
      have rbN := LTS.out.2.2.1 kp
      have rl3 := K3.out.rl HL.out (sml lb lbN EX.out.2.2.1)
      have rr3 := K3.out.rl HR.out (sml rb rbN EX.out.2.2.2.1)
      have a0 := rl3.c0 t htk
      have a1 := rl3.c1 t htk
      have a2 := rl3.c2 t htk
      have a3 := rl3.c3 t htk
      have b0 := rr3.c0 t htk
      have b1 := rr3.c1 t htk
      have b2 := rr3.c2 t htk
      have b3 := rr3.c3 t htk
      simp only [Nat.zero_add] at a0 a1 a2 a3 b0 b1 b2 b3
      have uq := Q3.out.range UU.out nexU
      have c0 := uq 0 _ rfl
      have c1 := uq 1 _ rfl
      have c2 := uq 2 _ rfl
      have c3 := uq 3 _ rfl
      simp only [Nat.zero_add] at c0 c1 c2 c3
      have T3 := K3.out.tb HT.out (sml _ LTS.out.2.2.2.2.1 EX.out.2.2.2.2.1)
      obtain ⟨h, hh⟩ : ∃ h, h = 2 ^ (k - (t + 1)) := ⟨_, rfl⟩
      have xn : x.n = 2 * h := by rw [O3.2.1, hh, show k - t = (k - (t + 1)) + 1 by omega, Nat.pow_succ]; omega
      have hp : 0 < h := by rw [hh]; exact Nat.pow_pos (by omega)
      have hb20 : h ≤ 1048576 := by
        rw [hh]
        refine Nat.le_trans (Nat.pow_le_pow_right (by omega) (show k - (t + 1) ≤ 10 by have := KK.out; omega)) (by decide)
      have rn3 : V3.rangeAt N 0 (sc x.p x.q (.slice (some ⟨x.g, 0, none⟩) (2 * h) x.gc) (.slice (some ⟨x.h, 0, none⟩) (2 * h) x.hc)) := by
        have := Q3.out.range RD.out nexN
        rw [HD.out, Sx.cs, xn] at this
        exact this
      have tn3 := Q3.out.there T2.out nexN
      have tw3 := O3.1
      have cg := tw3.cg
      have ch := tw3.ch
      have rg := tw3.rg
      have rh := tw3.rh
      have og := tw3.og
      have oh := tw3.oh
      rw [xn] at cg ch rg rh og oh
      have V3s : N + 1 ≤ V3.heap.size := Nat.le_trans Z2.out Q3.out.sz
      have yok : y.ok := by rw [HYU.out]; exact UOK.out t htk
      refine fo5 _ Bx N t Uq lb lc rb rc k h x.g x.gc x.h x.hc x.p x.q (fl t) (fr t) y (fun v m => Rws v m h (bd (iv y.n) y h (gf u k fg t))) (fun v m => Rws v m h (bd y (iv y.n) h (hf u k fh t))) _ _ _ _ _ _ _ _ _ _ _ _ _ _ _ _ _ _ _ _ _ _ _ _ _ _ _ _ _ _ _ _ _ V3 (by have := LTS.out.1; omega) (by omega) (by omega) (by have := UN.out; omega) t0 t1 rn3 tn3 (K3.out.cell X0.out (sml _ LTS.out.1 EX.out.1)) (K3.out.cell X1.out (sml _ LTS.out.1 EX.out.1)) a0 a1 a2 a3 b0 b1 b2 b3 c0 c1 c2 c3 (hidden fun v hv => fold_any x.p x.q (fl t) (fr t) y x.g 0 x.gc x.h 0 x.hc h (gf u k fg t) (hf u k fh t) v (T3.keep0 hv (by have := LTS.out.2.2.2.2.1; omega)) tw3.op tw3.oq (LOK.out t htk) (ROK.out t htk) yok og oh hp hb20 cg ch (rl_gbR rg hv gN) (rl_gbR rh hv hNe)) (hidden ?_)
      rintro n1 n2 wz g1 g2 ⟨wy, hby, r1, r2, hth, hwz⟩
      have gs := gb_setCells N (sc (fp x.p (fl t) (fr t) y) x.q (.slice (some ⟨n1, 0, none⟩) h h) (.slice (some ⟨n2, 0, none⟩) h h)) 0 wy
      have rs := World.rangeAt_setCells_same wy N 0 (sc (fp x.p (fl t) (fr t) y) x.q (.slice (some ⟨n1, 0, none⟩) h h) (.slice (some ⟨n2, 0, none⟩) h h)) hth
      have ts := World.there_setCells hth N 0 (sc (fp x.p (fl t) (fr t) y) x.q (.slice (some ⟨n1, 0, none⟩) h h) (.slice (some ⟨n2, 0, none⟩) h h))
      rw [← hwz] at gs rs ts
      have NXT : Hid (∃ (pre : List Sx) (x : Sx), pre.length = (t + 1) ∧ J pre wz ∧ wz.rangeAt N 0 x.cs ∧ wz.there N 0 10 ∧ (Tw wz x (gf u k fg (t + 1)) (hf u k fh (t + 1)) ∧ x.n = 2 ^ (k - (t + 1)) ∧ x.p = pf u fl fr x0.p (t + 1) ∧ x.q = x0.q ∧ ((x.g = x0.g ∧ x.h = x0.h) ∨ (W.heap.size + 1 ≤ x.g ∧ W.heap.size + 1 ≤ x.h))) ∧ Kq (fun j => ex j ∨ j = N) W1 wz ∧ N + 1 ≤ wz.heap.size) := hidden ⟨pre ++ [x], ⟨fp x.p (fl t) (fr t) y, x.q, h, n1, h, n2, h⟩, by rw [List.length_append, PL.out]; rfl, HJ.out _ wy wz (some N) (HJ.out _ V3 wy none J3.out (gbI hby none) (fun r e => by cases e)) gs (fun r e => by obtain rfl := Option.some.inj e; rw [← HN.out]; exact ⟨Nat.le_refl _, Nat.lt_succ_self _⟩), rs, ts,
        ⟨⟨fp_ok _ _ _ _, tw3.oq, Nat.le_refl _, Nat.le_refl _, by rw [gf, ← HYU.out, ← hh]; exact ((r1.grow gs (by omega)).rl), by rw [hf, ← HYU.out, ← hh]; exact ((r2.grow gs (by omega)).rl), fun j hj => by rw [gf]; exact bd_ok _ _ _ _ _, fun j hj => by rw [hf]; exact bd_ok _ _ _ _ _⟩, hh, by rw [pf, ← O3.2.2.1, ← HYU.out], O3.2.2.2.1, .inr ⟨by rw [← HN.out]; exact Nat.le_trans V3s g1, by rw [← HN.out]; exact Nat.le_trans V3s g2⟩⟩,
        K3.out.trans ((Kq.below hby).trans (Kq.grown gs (Or.inr rfl))), Nat.le_trans V3s (Nat.le_trans hby.size gs.size)⟩
      clear gs rs ts hwz r1 r2 hth hby g1 g2
      go_wp2_with fail
      go_roundw
      case rel => exact ⟨t + 1, by omega, by go_num, NXT⟩
      case measure => simp [intOf]; omega
    · obtain rfl : t = k := by omega
      have lq : ¬ (t : Int) < (t : Int) := by omega
      obtain ⟨pre, x, hpl, hJp, hrn, htn, hok, hkq, hsz⟩ := hR.out
      obtain ⟨fn, tmps, assign, body, hy4, hR4⟩ := HY.out pre x wr hJp (by rw [hpl]; exact hok) (by rw [hpl]; omega) (by rw [← HN.out]; exact hsz)
      obtain ⟨D, hD⟩ : ∃ D, D = x.cs := ⟨_, rfl⟩
      have hy5 : (Instr.yield l #[.agg D.toArray]).run Tryd.prog wr = .ok (.round l fn tmps assign body) wr := by rw [hD]; exact hy4
      have RD : Hid (wr.rangeAt N 0 D) := hidden (by rw [hD]; exact hrn)
      have ID : Hid ((Tryd.prog.info? 35).map (·.size) = some D.length) := hidden (by rw [hD]; exact sinfo _ _ _ _)
      have HR4 := hidden hR4
      have PL := hidden hpl
      clear hy4 hD hR4 hR hJp hrn htn hok hkq hsz hpl
      go_upto_region 7 with fail
      refine (wpIn_wide (n := 2)).1 ?_
      gi_wp2_with (first | (refine inLoad rfl 35 _ rfl N 0 rfl D _ RD.out Tryd.underlying35 rfl ID.out ?_))
      refine HR4.out.mono ?_
      rintro e V3 ⟨rfl, hJ3, hk3⟩
      have J3 := hidden hJ3
      have L3 : Hid ((pre ++ [x]).length = t + 1) := hidden (by rw [List.length_append, PL.out]; rfl)
      clear hJ3 hk3 HR4 hy5
      gi_wp2
      go_end0
      exact ⟨⟨_, rfl⟩, _, L3.out, J3.out⟩
/-- folds, as the law of the range asks it -/
theorem folds1_gives (ex : Nat → Prop) (Bs Bu Bx k ub uc lb lc rb rc : Nat) (up : Option Addr) (u fl fr fg fh : Nat → E4) (x0 : Sx) (w : World) (hk : k ≤ 10)
    (hT : Tb w) (hs : w.rangeAt Bs 0 x0.cs) (hu0 : w.cell? ⟨Bu, 0, none⟩ = some (.slice up k uc)) (hup : 0 < k → up = some ⟨ub, 0, none⟩) (hur : Rl w ub 0 k u) (uok : ∀ t, t < k → (u t).ok)
    (hx0 : w.cell? ⟨Bx, 0, none⟩ = some (.slice (some ⟨lb, 0, none⟩) k lc)) (hx1 : w.cell? ⟨Bx, 1, none⟩ = some (.slice (some ⟨rb, 0, none⟩) k rc)) (hl : Rl w lb 0 k fl) (hr : Rl w rb 0 k fr) (lok : ∀ t, t < k → (fl t).ok) (rok : ∀ t, t < k → (fr t).ok)
    (tw : Tw w x0 fg fh) (n0 : x0.n = 2 ^ k) (e1 : ¬ ex Bx) (e2 : ¬ ex ub) (e3 : ¬ ex lb) (e4 : ¬ ex rb) (e5 : ¬ ex 0) (e6 : ¬ ex x0.g) (e7 : ¬ ex x0.h) (e5b : 0 < w.heap.size) (e8 : ∀ j, ex j → j < w.heap.size) (kb : ub < w.heap.size ∧ lb < w.heap.size ∧ rb < w.heap.size) (gb : x0.g < w.heap.size ∧ x0.h < w.heap.size) :
    Gives (α := Sx) Fence.wide 2 Tryd.prog 35 #[.pointer (some ⟨Bs, 0, none⟩), .pointer (some ⟨Bu, 0, none⟩), .pointer (some ⟨Bx, 0, none⟩)] (fun x => #[x.v]) (fun b => Kq (fun j => ex j ∨ j + 1 = b))
      (fun b pre x V => Tw V x (gf u k fg pre.length) (hf u k fh pre.length) ∧ x.n = 2 ^ (k - pre.length) ∧ x.p = pf u fl fr x0.p pre.length ∧ x.q = x0.q ∧ ((x.g = x0.g ∧ x.h = x0.h) ∨ (b + 1 ≤ x.g ∧ b + 1 ≤ x.h))) (fun xs => xs.length = k + 1) (k + 1) 1 w := by
  intro l J W hW h2 hJ hY h0
  have nx : ∀ j, ¬ ex j → j < w.heap.size → ¬ (ex j ∨ j + 1 = W.heap.size) := fun j h hl h' => h'.elim h (fun e => by omega)
  have b1 : Bx < w.heap.size := World.block_lt_of_cell? w _ hx0
  exact folds1_in (fun j => ex j ∨ j + 1 = W.heap.size) l Bs Bu Bx k ub uc lb lc rb rc up u fl fr fg fh x0 J W hk hY hJ h0 (hT.keep hW) (range_keepM hs hW) (cell_keep hu0 hW) hup (hur.keep hW) uok (cell_keep hx0 hW) (cell_keep hx1 hW) (hl.keep hW) (hr.keep hW) lok rok ⟨tw.op, tw.oq, tw.cg, tw.ch, tw.rg.keep hW, tw.rh.keep hW, tw.og, tw.oh⟩ n0 (nx _ e1 b1) (nx _ e2 kb.1) (nx _ e3 kb.2.1) (nx _ e4 kb.2.2) (nx _ e5 e5b) (nx _ e6 gb.1) (nx _ e7 gb.2) (fun j hj => hj.elim (fun h => Nat.lt_of_lt_of_le (e8 j h) hW.size) (fun h => by omega))
end Rp
end Go.Proofs.YtaejedhdpilhjaaDoor
