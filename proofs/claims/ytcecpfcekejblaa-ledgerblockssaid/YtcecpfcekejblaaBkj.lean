import Derived.Test.YtcecpfcekejblaaBki
import Derived.Laws.MakeOwn
namespace Go.Proofs.Ytcecpfcekejblaa
open Go.RowKit
set_option linter.unusedVariables false
theorem okh_nat {h : Int} (hh : okh h) : ∃ m : Nat, h = (m : Int) := ⟨h.toNat, by have := hh.1; omega⟩
theorem block_any (h : Int) (par : List UInt8) (pa : Array Value) (hpa : pa = (cb par).toArray) (l0 : par.length = 64) (mint : List UInt8) (pm : Option Addr) (cm : Nat) (ps : List (List UInt8)) (P : Option Addr) (cn : Nat) (q : Nat → Option Addr) (c : Nat → Nat) (w : World) (hM : By w pm cm mint) (hP : Pt w P ps q c) : Calls Try.prog 5 #[.agg pa, .int .i64 h, .slice pm mint.length cm, .slice P ps.length cn] w fun e w' => ∃ v E F, e = .returned (.tuple #[v, .int .i64 E]) ∧ An h par mint ps E F ∧ w'.ownsRow w.heap.size 5 1 v F.length (cb F) ∧ Below w.heap.size w w' := by
  by_cases hh : okh h
  · by_cases hl : okl mint ps
    · obtain ⟨m, rfl⟩ := okh_nat hh
      refine (block_ok m par pa hpa l0 mint pm cm ps P cn q c w hM hP hh hl).mono ?_
      rintro e w' ⟨v, rfl, ho, hb⟩
      exact ⟨v, 0, _, rfl, .inr (.inr ⟨hh, hl, rfl, rfl⟩), ho, hb⟩
    · refine (block_bad2 h par pa hpa l0 mint pm cm ps P cn q c w hM hP hh hl).mono ?_
      rintro e w' ⟨rfl, hb⟩
      exact ⟨_, 2, [], rfl, .inr (.inl ⟨hh, hl, rfl, rfl⟩), World.ownsRow_nil _ _ _ _, hb⟩
  · refine (block_bad1 h par pa hpa l0 mint pm cm ps P cn q c w hM hP hh).mono ?_
    rintro e w' ⟨rfl, hb⟩
    exact ⟨_, 186, [], rfl, .inl ⟨hh, rfl, rfl⟩, World.ownsRow_nil _ _ _ _, hb⟩
theorem rblock_any (h : Int) (par : List UInt8) (pa : Array Value) (hpa : pa = (cb par).toArray) (l0 : par.length = 64) (mint : List UInt8) (pm : Option Addr) (cm : Nat) (ps : List (List UInt8)) (P : Option Addr) (cn : Nat) (q : Nat → Option Addr) (c : Nat → Nat) (w : World) (hM : By w pm cm mint) (hP : Pt w P ps q c) : Calls Try.prog 6 #[.agg pa, .int .i64 h, .slice pm mint.length cm, .slice P ps.length cn] w fun e w' => ∃ v E F, e = .returned (.tuple #[v, .int .i64 E]) ∧ An h par mint ps E F ∧ w'.ownsRow w.heap.size 5 1 v F.length (cb F) ∧ Below w.heap.size w w' := by
  by_cases hh : okh h
  · by_cases hl : ps.length ≤ 32 ∧ mint.length ≤ 1048576
    · obtain ⟨m, rfl⟩ := okh_nat hh
      exact rblock_go m par pa hpa l0 mint pm cm ps P cn q c w hM hP hh hl
    · refine (rblock_bad2 h par pa hpa l0 mint pm cm ps P cn q c w hM hP hh hl).mono ?_
      rintro e w' ⟨rfl, hb⟩
      exact ⟨_, 2, [], rfl, .inr (.inl ⟨hh, fun x => hl ⟨x.1, x.2.1⟩, rfl, rfl⟩), World.ownsRow_nil _ _ _ _, hb⟩
  · refine (rblock_bad1 h par pa hpa l0 mint pm cm ps P cn q c w hM hP hh).mono ?_
    rintro e w' ⟨rfl, hb⟩
    exact ⟨_, 186, [], rfl, .inl ⟨hh, rfl, rfl⟩, World.ownsRow_nil _ _ _ _, hb⟩
theorem An.len {h : Int} {par mint : List UInt8} {ps : List (List UInt8)} {E : Int} {F : List UInt8} (l0 : par.length = 64) (a : An h par mint ps E F) : F.length ≤ 2 ^ 40 := by
  rcases a with ⟨_, _, rfl⟩ | ⟨_, _, _, rfl⟩ | ⟨_, y, _, rfl⟩
  · simp
  · simp
  · exact (bps_len l0 y).2
theorem made_nil (n : Nat) : madeCells (Value.slice none 0 0).cells (n * 1) = (List.replicate n (Value.slice none 0 0)).toArray := by
  refine Array.ext (by simp [madeCells]) fun i h1 h2 => ?_
  simp [madeCells, Value.cells, Nat.mod_one]
theorem wpList_makeV {w : World} {ops : Array Oper} {rest : List Oper} {o : Oper} {a : Act} {Q : Exit → Act → World → Prop} (hgd : o.guard = none) (x : Operand)
    (ho : o.op = .makeSlice 25 x x) (n base : Nat) (hx : a.eval x = .int .i64 (n : Int)) (hn : n ≤ 5864062014804) (hb : base ≤ w.heap.size)
    (h : ∀ w', w'.ownsRow base 24 1 (.slice (some ⟨w.heap.size, 0, none⟩) n n) n (List.replicate n (.slice none 0 0)) → Below w.heap.size w w' → w'.heap.size = w.heap.size + 1 → wpList Try.prog ops Q rest (a.put o.dst (.slice (some ⟨w.heap.size, 0, none⟩) n n)) w') : wpList Try.prog ops Q (o :: rest) a w := by
  refine wpList_plain hgd fun K hK => ?_
  have h1 : Try.prog.underlying 25 = some (.slice 24) := by kernel_rfl
  have hi : Try.prog.info? 24 = some (Try.prog.info? 24).get! := by kernel_rfl
  have hz : (Try.prog.info? 24).get!.zero = some (.slice none 0 0) := by kernel_rfl
  have hs : (Try.prog.info? 24).get!.size = 1 := by kernel_rfl
  have hy : (Try.prog.info? 24).get!.bytes = 24 := by kernel_rfl
  have hr := run_make (P := Try.prog) w 25 24 _ _ h1 hi hz .i64 .i64 n n (by omega) (Int.le_refl _) (by rw [hy]; omega) (by omega)
  simp only [Int.toNat_natCast, hs, made_nil] at hr
  unfold Oper.wp execOp
  simp only [ho, hx, Sem.run_bind, Sem.run_pure, Result.andThen_ok, hr]
  refine hK _ _ (h _ ⟨by simp, .inr ⟨w.heap.size, n, _, rfl, hb, heap_alloc_new w _, Nat.le_refl _, by unfold maxLen; omega, by simp, by simp⟩⟩ (bl_alloc w _) (World.size_alloc _ _))
/-- with the marks behind -/
def wm (ps : List (List UInt8)) : List (List UInt8) := ps.map (· ++ mk8)
theorem wm_len (ps : List (List UInt8)) : (wm ps).length = ps.length := by simp [wm]
theorem wm_get (ps : List (List UInt8)) (i : Nat) (hi : i < ps.length) : (wm ps).getD i [] = ps.getD i [] ++ mk8 := by simp [wm, List.getElem?_eq_getElem hi]
theorem wm_next (ps : List (List UInt8)) (i : Nat) (hi : i < ps.length) : wm (ps.take (i + 1)) = wm (ps.take i) ++ [ps.getD i [] ++ mk8] := by
  unfold wm
  rw [List.take_succ_eq_append_getElem hi, List.map_append]
  simp [List.getElem?_eq_getElem hi]
/-- no list is longer than it has room -/
def Cq (vs : List Value) : Prop := ∀ v ∈ vs, ∃ P m d, v = Value.slice P m d ∧ m ≤ d
theorem Cq.snoc {vs : List Value} {P : Option Addr} {m d : Nat} (h : Cq vs) (hm : m ≤ d) : Cq (vs ++ [.slice P m d]) := fun v hv => by
  rcases List.mem_append.1 hv with h1 | h1
  · exact h v h1
  · rw [List.mem_singleton] at h1
    exact ⟨P, m, d, h1, hm⟩
/-- the room of one -/
theorem row_at {w : World} {vs : List Value} {ps : List (List UInt8)} (h : Lv w vs (wm ps)) (hc : Cq vs) (i : Nat) (hi : i < ps.length) : ∃ b d : Nat, vs[i]? = some (.slice (some ⟨b, 0, none⟩) ((ps.getD i []).length + 3) d) ∧ (ps.getD i []).length + 3 ≤ d ∧ By w (some ⟨b, 0, none⟩) d (ps.getD i [] ++ mk8) := by
  obtain ⟨b, d, e1, e2⟩ := h.get i (by rw [wm_len]; exact hi)
  rw [wm_get ps i hi] at e1 e2
  have e3 : (ps.getD i [] ++ mk8).length = (ps.getD i []).length + 3 := by simp [mk8]
  rw [e3] at e1
  refine ⟨b, d, e1, ?_, e2⟩
  obtain ⟨P, m, d', hv, hm⟩ := hc _ (List.mem_of_getElem? e1)
  simp only [Value.slice.injEq] at hv
  obtain ⟨_, rfl, rfl⟩ := hv
  exact hm
end Go.Proofs.Ytcecpfcekejblaa
