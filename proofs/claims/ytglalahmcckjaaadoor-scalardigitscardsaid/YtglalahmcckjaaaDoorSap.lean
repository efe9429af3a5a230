import Derived.Test.YtglalahmcckjaaaDoorScy
import Derived.Laws.AppendOwn
import Derived.Laws.OwnMore
import Derived.OwnWalk
import Derived.Maps.AppendAt
namespace Go.Proofs.YtglalahmcckjaaaDoor
open Go.RowKit

theorem addr_add (g j : Nat) : (⟨g, 0, none⟩ : Addr).add j = ⟨g, j, none⟩ := by unfold Addr.add; split <;> simp_all
theorem intinfo : (Tryd.prog.info? 3).map (fun i => (i.zero, i.size, i.bytes)) = some (some (.int .i64 0), 1, 8) := by kernel_rfl
/-- a slice that is one's own, or a full one -/
def More (w : World) (base : Nat) (e : TypeId) (v : Value) (n : Nat) (xs : List Value) : Prop :=
  w.ownsRow base e 1 v n xs ∨ (∃ g, v = .slice (some ⟨g, 0, none⟩) n n ∧ xs.length = n ∧ ∀ j u, xs[j]? = some u → w.cell? ((⟨g, 0, none⟩ : Addr).add j) = some u)
theorem More.alloc {w : World} {base : Nat} {e : TypeId} {v : Value} {n : Nat} {xs : List Value} (h : More w base e v n xs) (o : Obj) : More (w.alloc o) base e v n xs := by
  rcases h with h | ⟨g, hv, hl, hc⟩
  · exact Or.inl (h.alloc o)
  · exact Or.inr ⟨g, hv, hl, fun j u hu => by have := hc j u hu; rw [addr_add] at this ⊢; exact cell_keep this (bl_alloc w o)⟩
theorem below_grown {w w' : World} {row : Option Nat} {base : Nat} (hg : w.grownBy w' row) (hb : base ≤ w.heap.size) (hr : ∀ k, row = some k → base ≤ k) : Below base w w' :=
  ⟨hg.os, hg.tape, hg.output, hg.size, fun k hk => hg.block k (by omega) (fun e => by have := hr k e.symm; omega)⟩
theorem run_append_more {P : Program} (w : World) (base : Nat) (t ty e : TypeId) (i : TypeInfo) (z : Value) (bytes : Nat) (ht : P.underlying t = some (.slice e)) (hi : P.info? e = some i) (hz : i.zero = some z)
    (hsize : i.size = 1) (hby : i.bytes = bytes) (hzs : z.cells.size = 1) (v : Value) (n : Nat) (xs : List Value) (hm : More w base e v n xs)
    (a : Addr) (u : Value) (hc : w.cell? (a.add 0) = some u) (h1 : u.oneCell' = true) (h63 : n + 1 ≤ maxLen) (hbytes : (n + 1) * bytes ≤ 140737488355328) (hbase : base ≤ w.heap.size) :
    ∃ v' w', (Builtin.append_ #[t, t] ty #[v, .slice (some a) 1 1]).run P w = .ok v' w' ∧ w'.ownsRow base e 1 v' (n + 1) (xs ++ [u]) ∧ Below base w w' := by
  have hnews : ∀ j y, [u][j]? = some y → w.cell? (a.add j) = some y := by
    intro j y hj
    match j, hj with
    | 0, hj => simp at hj; rw [← hj]; exact hc
  rcases hm with hown | ⟨g, rfl, hl, hcs⟩
  · obtain ⟨v', w', hr, ho, hg, _⟩ := run_append_own (P := P) w base t ty e i z 1 bytes ht hi hz hsize hby hzs (by omega) v n xs hown a 1 1 [u] rfl hnews (fun y hy => by simp at hy; subst hy; exact h1) h63 hbytes hbase
    exact ⟨v', w', hr, ho, below_grown hg hbase (fun k hk => (hown.lt k hk).1)⟩
  · subst hby
    have hr := run_append_grow (P := P) w t ty e i z ht hi hz ⟨g, 0, none⟩ n n xs (by rw [hsize]; omega) hcs a 1 1 [u] (by rw [hsize]; rfl) hnews (by omega) (by simp only [maxLen] at h63; omega) (growslice_fits (by omega) hbytes)
    have hge := grownCap_ge w (n + 1) n e
    have hcm : grownCap w (n + 1) n e ≤ maxLen := grownCap_le_maxLen w (n + 1) n e h63
    refine ⟨_, _, hr, ⟨by simp [hl], .inr ⟨w.heap.size, _, _, rfl, hbase, heap_alloc_new w.drew _, hge, hcm, ?_, ?_⟩⟩, ⟨rfl, rfl, rfl, by simp, fun k hk => heap_alloc_old w.drew _ (show k < w.heap.size by omega)⟩⟩
    · simp only [Array.size_append, List.size_toArray, size_zeroCells, hzs, hl, List.length_cons, List.length_nil]
      omega
    · simp only [Array.toList_append, List.append_assoc]
      rw [← List.append_assoc, show (n + 1) * 1 = (xs ++ [u]).length by simp [hl]]
      exact List.take_left
theorem wpList_append_more {P : Program} (w : World) {ops : Array Oper} {rest : List Oper} {o : Oper} {a : Act} {Q : Exit → Act → World → Prop} (hgd : o.guard = none) (s x : Operand) (t : TypeId)
    (ho : o.op = .call { callee := .builtin .append, args := #[s, x], argTypes := #[t, t] })
    (base : Nat) (e : TypeId) (i : TypeInfo) (z : Value) (bytes : Nat) (ht : P.underlying t = some (.slice e)) (hi : P.info? e = some i) (hz : i.zero = some z)
    (hsize : i.size = 1) (hby : i.bytes = bytes) (hzs : z.cells.size = 1) (v : Value) (n : Nat) (xs : List Value) (hs : a.eval s = v) (hm : More w base e v n xs)
    (ad : Addr) (u : Value) (hx : a.eval x = .slice (some ad) 1 1) (hc : w.cell? (ad.add 0) = some u) (h1 : u.oneCell' = true) (h63 : n + 1 ≤ maxLen) (hbytes : (n + 1) * bytes ≤ 140737488355328) (hbase : base ≤ w.heap.size)
    (h : ∀ v' w', w'.ownsRow base e 1 v' (n + 1) (xs ++ [u]) → Below base w w' → wpList P ops Q rest (a.put o.dst v') w') : wpList P ops Q (o :: rest) a w := by
  refine wpList_plain hgd fun K hK => ?_
  obtain ⟨v', w', hr, h2, h3⟩ := run_append_more (P := P) w base t o.type e i z bytes ht hi hz hsize hby hzs v n xs hm ad u hc h1 h63 hbytes hbase
  unfold Oper.wp execOp
  simp only [ho, resolve, invoke, builtin, Sem.run_bind, Sem.run_pure, Result.andThen_ok, List.map_toArray, List.map_cons, List.map_nil, hs, hx, hr]
  exact hK _ _ (h v' w' h2 h3)

def mki (i j : Nat) : Int := 100000 * ((i : Int) + 1) + j
/-- marks as far as one has come -/
def gm (g : Nat → Nat → Int) (i k : Nat) (a j : Nat) : Int := if a < i then mki a j else if a = i ∧ j < k then mki a j else g a j
structure ApW (w0 : World) (B n : Nat) (p : Nat → Option Addr) (b : Nat → Nat) (g : Nat → Nat → Int) (w : World) : Prop where
  bel : Below w0.heap.size w0 w
  cB : ∀ i, i < 3 → w.cell? ⟨B, i, none⟩ = some (.slice (p i) n n)
  rows : 0 < n → ∀ i, i < 3 → Rwi w (b i) n (g i)
/-- three slices of their own -/
structure Ap3 (w0 : World) (B n : Nat) (p : Nat → Option Addr) (b : Nat → Nat) : Prop where
  n0 : n < 1000
  hp : 0 < n → ∀ i, i < 3 → p i = some ⟨b i, 0, none⟩
  hz : n = 0 → ∀ i, i < 3 → p i = none
  hd : 0 < n → ∀ i j, i < 3 → j < 3 → i ≠ j → b i ≠ b j
  hB : 0 < n → ∀ i, i < 3 → b i ≠ B
  h0 : 0 < n → ∀ i, i < 3 → w0.heap.size ≤ b i
theorem ApW.keep {w0 : World} {B n : Nat} {p : Nat → Option Addr} {b : Nat → Nat} {g : Nat → Nat → Int} {w1 w2 : World} (h : ApW w0 B n p b g w1) (hb : Below w1.heap.size w1 w2) : ApW w0 B n p b g w2 :=
  ⟨bl_trans h.bel hb, fun i hi => cell_keep (h.cB i hi) hb, fun hn i hi => (h.rows hn i hi).keep hb⟩
theorem ApW.congr {w0 : World} {B n : Nat} {p : Nat → Option Addr} {b : Nat → Nat} {g f : Nat → Nat → Int} {w : World} (h : ApW w0 B n p b g w) (e : ∀ i, i < 3 → ∀ j, j < n → g i j = f i j) : ApW w0 B n p b f w :=
  ⟨h.bel, h.cB, fun hn i hi => (h.rows hn i hi).congr (e i hi)⟩
theorem ApW.put {w0 : World} {B n i k : Nat} {p : Nat → Option Addr} {b : Nat → Nat} {g : Nat → Nat → Int} {w : World} (h : ApW w0 B n p b (gm g i k) w) (A : Ap3 w0 B n p b) (hi : i < 3) (hk : k < n) : ApW w0 B n p b (gm g i (k + 1)) (w.setCell ⟨b i, k, none⟩ (.int .i64 (mki i k))) := by
  refine ⟨h.bel.setCell (A.h0 (by omega) i hi) _, fun j hj => (World.cell?_setCell_far w _ _ _ (A.hB (by omega) i hi)).trans (h.cB j hj), fun hn j hj => ?_⟩
  by_cases hji : j = i
  · subst hji
    refine ((h.rows hn j hj).at k hk (mki j k)).congr fun x _ => ?_
    unfold gm
    by_cases hx : x = k
    · subst hx
      rw [if_pos rfl, if_neg (by omega), if_pos (by omega)]
    · rw [if_neg hx, if_neg (Nat.lt_irrefl j)]
      by_cases hlt : x < k
      · rw [if_pos ⟨rfl, hlt⟩, if_neg (Nat.lt_irrefl j), if_pos ⟨rfl, by omega⟩]
      · rw [if_neg (by omega), if_neg (Nat.lt_irrefl j), if_neg (by omega)]
  · refine ((h.rows hn j hj).far (A.hd hn i j hi hj (fun e => hji e.symm)) k _).congr fun x _ => ?_
    unfold gm
    by_cases hlt : j < i
    · rw [if_pos hlt, if_pos hlt]
    · rw [if_neg hlt, if_neg hlt, if_neg (by omega), if_neg (by omega)]
theorem gm_next (g : Nat → Nat → Int) (n i : Nat) : ∀ a, a < 3 → ∀ j, j < n → gm g i n a j = gm g (i + 1) 0 a j := by
  intro a _ j hj
  unfold gm
  by_cases h : a < i
  · rw [if_pos h, if_pos (by omega)]
  · by_cases h2 : a = i
    · rw [if_neg h, if_pos ⟨h2, hj⟩, if_pos (by omega)]
    · rw [if_neg h, if_neg (by omega), if_neg (by omega), if_neg (by omega)]
theorem gm_zero (g : Nat → Nat → Int) (a j : Nat) : gm g 0 0 a j = g a j := by
  unfold gm
  rw [if_neg (by omega), if_neg (by omega)]
theorem gm_three (g : Nat → Nat → Int) : ∀ a, a < 3 → ∀ j, gm g 3 0 a j = mki a j := by
  intro a ha j
  unfold gm
  rw [if_pos ha]

theorem more_start {w0 : World} {B n i : Nat} {p : Nat → Option Addr} {b : Nat → Nat} {g : Nat → Nat → Int} {w : World} (h : ApW w0 B n p b g w) (A : Ap3 w0 B n p b) (hi : i < 3) :
    More w w.heap.size 3 (.slice (p i) n n) n ((List.range n).map (fun j => Value.int .i64 (g i j))) := by
  by_cases hn : n = 0
  · subst hn
    rw [A.hz rfl i hi]
    exact Or.inl (World.ownsRow_nil _ _ _ _)
  · refine Or.inr ⟨b i, by rw [A.hp (by omega) i hi], by simp, fun j u hu => ?_⟩
    rw [addr_add]
    have hj : j < n := by
      have := List.getElem?_eq_some_iff.1 hu
      obtain ⟨h1, _⟩ := this
      simpa using h1
    rw [(h.rows (by omega) i hi).c j hj]
    simp [hj] at hu
    rw [← hu]
theorem bl_trans2 {n : Nat} {w1 w2 w3 : World} {o : Obj} (h1 : Below n w1 w2) (h2 : Below n (w2.alloc o) w3) (hn : n ≤ w2.heap.size) : Below n w1 w3 := by
  have h3 := (bl_alloc w2 o)
  exact ⟨h2.os.trans h1.os, h2.tape.trans h1.tape, h2.output.trans h1.output, Nat.le_trans h1.size (Nat.le_trans h3.size h2.size), fun k hk => (h2.block k hk).trans ((h3.block k (by omega)).trans (h1.block k hk))⟩

set_option maxRecDepth 100000 in
set_option maxHeartbeats 16000000 in
theorem apartInts_any (w0 w : World) (B n : Nat) (p : Nat → Option Addr) (b : Nat → Nat) (g : Nat → Nat → Int) (hA : Ap3 w0 B n p b) (hW : ApW w0 B n p b g w) :
    Calls Tryd.prog 31 #[.slice (some ⟨B, 0, none⟩) 3 3] w fun e w' => e = .returned (.bool true) ∧ Below w0.heap.size w0 w' := by
  have A3 := hidden hA
  have W0 := hidden (hW.congr (f := gm g 0 0) (fun i _ j _ => (gm_zero g i j).symm))
  have nn0 : (0 : Int) ≤ (n : Int) := by omega
  have nn1 : (n : Int) < 1000 := by have := hA.n0; omega
  obtain ⟨i0, hi, hz0, hz1, hz2⟩ := info_parts intinfo
  have HI := hidden hi
  have HZ0 := hidden hz0
  have HZ1 := hidden hz1
  have HZ2 := hidden hz2
  clear hA hW hi hz0 hz1 hz2
  go_enter Tryd.func31, Tryd.ntmps31
  go_wp2_with fail
  go_loopw [3] (fun iv w' => ∃ i : Nat, i ≤ 3 ∧ iv = .int .i64 i ∧ Hid (ApW w0 B n p b (gm g i 0) w')) (fun i _ => 3 - (intOf i).toNat)
  case atStart => exact ⟨0, by omega, rfl, W0⟩
  case round =>
    obtain ⟨i, hi, rfl, hw⟩ := hrel
    clear W0
    by_cases hi3 : i < 3
    · have ii0 : (0 : Int) ≤ (i : Int) := by omega
      have ii1 : (i : Int) < 3 := by omega
      have wi1 : IntKind.i64.wrap ((i : Int) + 1) = (i : Int) + 1 := IntWalk.i64_in _ (by omega)
      have wi2 : IntKind.i64.wrap (100000 * ((i : Int) + 1)) = 100000 * ((i : Int) + 1) := IntWalk.i64_in _ (by omega)
      go_wp2_with fail
      go_loopw [4] (fun kv w' => ∃ k : Nat, k ≤ n ∧ kv = .int .i64 k ∧ Hid (ApW w0 B n p b (gm g i k) w')) (fun k _ => n - (intOf k).toNat)
      case atStart => exact ⟨0, by omega, rfl, hw⟩
      case round =>
        clear hw
        obtain ⟨k, hk, rfl, hw⟩ := hrel
        have cB := hw.out.cB i hi3
        by_cases hkn : k < n
        · have kk0 : (0 : Int) ≤ (k : Int) := by omega
          have kk1 : (k : Int) < (n : Int) := by omega
          have hr := hw.out.rows (by omega) i hi3
          have cr := hr.c k hkn
          have fr := hr.fr k hkn
          have NX := hidden (hw.out.put A3.out hi3 hkn)
          have wk : IntKind.i64.wrap (100000 * ((i : Int) + 1) + (k : Int)) = mki i k := IntWalk.i64_in _ (by omega)
          rw [A3.out.hp (by omega) i hi3] at cB
          clear hr hw
          generalize mki i k = v at *
          generalize b i = bi at *
          go_wp2_with fail
          go_roundw
          case rel => exact ⟨k + 1, by omega, by go_num, NX⟩
          case measure => simp [intOf]; omega
        · have hkk : k = n := by omega
          subst hkk
          have lq : ¬ (k : Int) < (k : Int) := by omega
          have NX := hidden (hw.out.congr (gm_next g k i))
          clear hw
          generalize p i = pi at *
          go_wp2_with fail
          go_roundw
          case rel => exact ⟨i + 1, by omega, by go_num, NX⟩
          case measure => simp [intOf]; omega
    · have hii : i = 3 := by omega
      subst hii
      have W1 := hidden (hw.out.congr (f := mki) (fun a ha j _ => gm_three g a ha j))
      clear hw
      rw [show ((3 : Nat) : Int) = 3 from rfl]
      go_wp2_with fail
      go_loopw [5] (fun iv w' => ∃ i : Nat, i ≤ 3 ∧ iv = .int .i64 i ∧ Hid (ApW w0 B n p b mki w')) (fun i _ => 3 - (intOf i).toNat)
      case atStart => exact ⟨0, by omega, rfl, W1⟩
      case round =>
        clear W1
        obtain ⟨i, hi, rfl, hw⟩ := hrel
        by_cases hi3 : i < 3
        · have ii0 : (0 : Int) ≤ (i : Int) := by omega
          have ii1 : (i : Int) < 3 := by omega
          have cB := hw.out.cB i hi3
          have MO := hidden (more_start hw.out A3.out hi3)
          generalize p i = pi at *
          generalize (List.range n).map (fun j => Value.int .i64 (mki i j)) = xs at *
          generalize wr = ws at *
          go_wp2_with fail
          clear cB
          go_loopw [6, 7] (fun v kv w' => ∃ k : Nat, k ≤ 64 ∧ kv = .int .i64 k ∧ Hid (More w' ws.heap.size 3 v (n + k) (xs ++ List.replicate k (.int .i64 7))) ∧ Hid (0 < k → w'.ownsRow ws.heap.size 3 1 v (n + k) (xs ++ List.replicate k (.int .i64 7))) ∧ Hid (Below ws.heap.size ws w')) (fun _ k _ => 64 - (intOf k).toNat)
          case atStart => exact ⟨0, by omega, rfl, hidden (by simpa using MO.out), hidden (fun h => absurd h (by omega)), hidden (Below.refl _ _)⟩
          case round =>
            clear MO
            obtain ⟨k, hk, rfl, hmo, hox, hbl⟩ := hrel
            have hsz := hbl.out.size
            by_cases hk64 : k < 64
            · have kk0 : (0 : Int) ≤ (k : Int) := by omega
              have kk1 : (k : Int) < 64 := by omega
              have hn9 := A3.out.n0
              go_wp2_with (first | (at_builtin; refine wpList_append_more _ rfl _ _ 46 rfl ws.heap.size 3 i0 (.int .i64 0) 8 Tryd.underlying46 HI.out HZ0.out HZ1.out HZ2.out rfl _ _ _ rfl (hmo.out.alloc _) ⟨wr.heap.size, 0, none⟩ (.int .i64 7) rfl (cell_one_new _ _ _ 0 _ rfl) rfl (by unfold maxLen; omega) (by omega) (by simp; omega) ?_; intro v' w3 hown hb3; have HO := hidden hown; have HB := hidden (bl_trans2 hbl.out hb3 (by omega)); clear hown hb3))
              go_roundw
              case rel => exact ⟨k + 1, by omega, by go_num, hidden (Or.inl (by rw [List.replicate_succ', ← List.append_assoc]; exact HO.out)), hidden (fun _ => by rw [List.replicate_succ', ← List.append_assoc]; exact HO.out), HB⟩
              case measure => simp [intOf]; omega
            · have hkk : k = 64 := by omega
              subst hkk
              have hn9 := A3.out.n0
              have how := hox.out (by omega)
              rcases how.2 with ⟨_, h0⟩ | ⟨gg, cap, cur, rfl, hg, _, hnc, _, _, _⟩
              · omega
              have hlen := how.1
              have c8 := how.cellAt (n + 63) (by omega)
              obtain ⟨u, hu⟩ : ∃ u, (xs ++ List.replicate 64 (.int .i64 7))[n + 63]? = some u := ⟨_, List.getElem?_eq_getElem (by omega)⟩
              rw [hu] at c8
              have f8 := how.frozenAt (n + 63)
              have NX : Hid (ApW w0 B n p b mki (wr.setCell ⟨gg, n + 63, none⟩ (.int .i64 8))) := hidden (hw.out.keep (hbl.out.setCell hg _))
              have l0 : ((n + 64 : Nat) : Int) = (n : Int) + 64 := by omega
              have l1 : IntKind.i64.wrap ((n : Int) + 64 - 1) = (n : Int) + 63 := by rw [show (n : Int) + 64 - 1 = (n : Int) + 63 by omega]; exact IntWalk.i64_in _ (by omega)
              have l2 : ((n : Int) + 63).toNat = n + 63 := by omega
              have l3 : (0 : Int) ≤ (n : Int) + 63 := by omega
              have l4 : (n : Int) + 63 < (n : Int) + 64 := by omega
              clear how hox hmo hbl hlen hu
              go_wp2_with fail
              go_roundw
              case rel => exact ⟨i + 1, by omega, by go_num, NX⟩
              case measure => simp [intOf]; omega
        · have hii : i = 3 := by omega
          subst hii
          rw [show ((3 : Nat) : Int) = 3 from rfl]
          go_wp2_with fail
          go_loopw [8] (fun iv w' => ∃ i : Nat, i ≤ 3 ∧ iv = .int .i64 i ∧ Hid (ApW w0 B n p b mki w')) (fun i _ => 3 - (intOf i).toNat)
          case atStart => exact ⟨0, by omega, rfl, hw⟩
          case round =>
            clear hw
            obtain ⟨i, hi, rfl, hw⟩ := hrel
            by_cases hi3 : i < 3
            · have ii0 : (0 : Int) ≤ (i : Int) := by omega
              have ii1 : (i : Int) < 3 := by omega
              have wi1 : IntKind.i64.wrap ((i : Int) + 1) = (i : Int) + 1 := IntWalk.i64_in _ (by omega)
              have wi2 : IntKind.i64.wrap (100000 * ((i : Int) + 1)) = 100000 * ((i : Int) + 1) := IntWalk.i64_in _ (by omega)
              go_wp2_with fail
              go_loopw [9] (fun kv w' => ∃ k : Nat, k ≤ n ∧ kv = .int .i64 k ∧ Hid (ApW w0 B n p b mki w')) (fun k _ => n - (intOf k).toNat)
              case atStart => exact ⟨0, by omega, rfl, hw⟩
              case round =>
                clear hw
                obtain ⟨k, hk, rfl, hw⟩ := hrel
                have cB := hw.out.cB i hi3
                by_cases hkn : k < n
                · have kk0 : (0 : Int) ≤ (k : Int) := by omega
                  have kk1 : (k : Int) < (n : Int) := by omega
                  have cr := (hw.out.rows (by omega) i hi3).c k hkn
                  have wk : IntKind.i64.wrap (100000 * ((i : Int) + 1) + (k : Int)) = mki i k := IntWalk.i64_in _ (by omega)
                  rw [A3.out.hp (by omega) i hi3] at cB
                  generalize mki i k = v at *
                  generalize b i = bi at *
                  go_wp2_with fail
                  go_roundw
                  case rel => exact ⟨k + 1, by omega, by go_num, hw⟩
                  case measure => simp [intOf]; omega
                · have hkk : k = n := by omega
                  subst hkk
                  have lq : ¬ (k : Int) < (k : Int) := by omega
                  generalize p i = pi at *
                  go_wp2_with fail
                  go_roundw
                  case rel => exact ⟨i + 1, by omega, by go_num, hw⟩
                  case measure => simp [intOf]; omega
            · have hii : i = 3 := by omega
              subst hii
              rw [show ((3 : Nat) : Int) = 3 from rfl]
              go_wp2_with fail
              go_ret
              exact ⟨rfl, hw.out.bel⟩
end Go.Proofs.YtglalahmcckjaaaDoor
