import Derived.Test.YtapieajkmpnmoaaGreatDoorBM1
namespace Go.Proofs.YtapieajkmpnmoaaGreatDoor
open Go.RowKit
set_option linter.unusedVariables false
theorem rowIs_own {w : World} {b L B : Nat} {t : TypeId} {f : Nat → Value} (h : w.rowIs b t (L * 5) f) (hB : B ≤ b) (hL : L ≤ 64) : w.ownsRow B t 5 (.slice (some ⟨b, 0, none⟩) L L) L ((List.range (L * 5)).map f) := by
  obtain ⟨c, h1, h2, h3⟩ := h
  refine ⟨by simp, .inr ⟨b, L, c, rfl, hB, h1, Nat.le_refl _, by unfold maxLen; omega, h2, ?_⟩⟩
  rw [← h2, ← Array.length_toList, List.take_length]
  refine List.ext_getElem? (fun i => ?_)
  by_cases hi : i < L * 5
  · rw [Array.getElem?_toList, h3 i hi, List.getElem?_map, Array.length_toList, h2, List.getElem?_range hi]; rfl
  · rw [Array.getElem?_toList, Array.getElem?_eq_none (by omega), List.getElem?_eq_none (by rw [List.length_map, List.length_range, Array.length_toList]; omega)]
theorem rowIs_news {w : World} {b L : Nat} {t : TypeId} {f : Nat → Value} (h : w.rowIs b t L f) : ∀ j u, ((List.range L).map f)[j]? = some u → w.cell? ((⟨b, 0, none⟩ : Addr).add j) = some u := fun j u hu => by
  have hj : j < L := by have := (List.getElem?_eq_some_iff.1 hu).1; simpa using this
  rw [List.getElem?_map, List.getElem?_range hj] at hu
  rw [addr_add, h.cell hj]
  simpa using hu
theorem new5 (w : World) (f : E4) (P1 : Option Addr) (n1 c1 : Nat) : ∀ j u, ([.int .u64 f.x0, .int .u64 f.x1, .int .u64 f.x2, .int .u64 f.x3, .slice P1 n1 c1] : List Value)[j]? = some u → (w.alloc (.cells #[.int .u64 f.x0, .int .u64 f.x1, .int .u64 f.x2, .int .u64 f.x3, .slice P1 n1 c1] 68)).cell? ((⟨w.heap.size, 0, none⟩ : Addr).add j) = some u := fun j u hu => by
  rw [addr_add]
  have := range_newM w [.int .u64 f.x0, .int .u64 f.x1, .int .u64 f.x2, .int .u64 f.x3, .slice P1 n1 c1] 68 j u hu
  simpa using this
theorem own_keep5 {w1 w2 : World} {base n s : Nat} {e : TypeId} {v : Value} {xs : List Value} (h : w1.ownsRow base e s v n xs) (hb : Below w1.heap.size w1 w2) : w2.ownsRow base e s v n xs := h.kept (gbI hb none) (by cases v.ownBlock with | none => exact .inl rfl | some k => exact .inr (by simp))
theorem buildT (f : E4) (P1 : Option Addr) (n1 c1 : Nat) (w : World) : (Instr.buildSlice 63 1 #[(0, .agg #[.int .u64 f.x0, .int .u64 f.x1, .int .u64 f.x2, .int .u64 f.x3, .slice P1 n1 c1])]).run Tryz.prog w = .ok (.slice (some ⟨w.heap.size, 0, none⟩) 1 1) (w.alloc (.cells #[.int .u64 f.x0, .int .u64 f.x1, .int .u64 f.x2, .int .u64 f.x3, .slice P1 n1 c1] 68)) := by kernel_rfl
theorem wp_buildT {w : World} {o : Oper} {a : Act} {K : Act → World → Prop} {Q : Exit → Act → World → Prop} (x : Operand) (ho : o.op = .buildSlice 63 1 #[(0, x)]) (f : E4) (P1 : Option Addr) (n1 c1 : Nat) (hx : a.eval x = .agg #[.int .u64 f.x0, .int .u64 f.x1, .int .u64 f.x2, .int .u64 f.x3, .slice P1 n1 c1]) (h : ∀ (tb : Nat) (wq : World), tb = w.heap.size → Below w.heap.size w wq → (∀ j u, ([.int .u64 f.x0, .int .u64 f.x1, .int .u64 f.x2, .int .u64 f.x3, .slice P1 n1 c1] : List Value)[j]? = some u → wq.cell? ((⟨tb, 0, none⟩ : Addr).add j) = some u) → K (a.put o.dst (.slice (some ⟨tb, 0, none⟩) 1 1)) wq) : o.wp Tryz.prog a w K Q := by
  have hr := buildT f P1 n1 c1 w
  unfold Oper.wp execOp
  simp only [ho, Sem.run_bind, Sem.run_pure, Result.andThen_ok, List.map_toArray, List.map_cons, List.map_nil, hx, hr]
  exact h _ _ rfl (bl_alloc _ _) (new5 w f P1 n1 c1)
end Go.Proofs.YtapieajkmpnmoaaGreatDoor
namespace Go.Proofs.YtapieajkmpnmoaaGreatDoor
open Go.RowKit
set_option linter.unusedVariables false
theorem tvl_one (K : Nat → E4) (V : Nat → Value) (L : Nat) (hV : ∀ k, (V k).oneCell' = true) : ∀ u ∈ (List.range L).map (tvl K V), u.oneCell' = true := fun u hu => by
  obtain ⟨j, _, rfl⟩ := List.mem_map.1 hu
  unfold tvl
  repeat' split
  all_goals first | rfl | exact hV _
theorem tot_join (f : Nat → Int) (a : Nat) : ∀ b, tot f (a + b) = tot f a + tot (fun i => f (a + i)) b
  | 0 => by simp [tot]
  | b + 1 => by rw [show a + (b + 1) = a + b + 1 by omega, tot, tot_join f a b, tot]; omega
/-- three lists of terms, one behind the other -/
def kj (a b : Nat) (ka kb : Nat → E4) (f : E4) (q : Nat) : E4 := if q < a then ka q else if q < a + b then kb (q - a) else f
def xj (a b : Nat) (va vb : Nat → Nat → Int) (v : Nat → Int) (q : Nat) : Nat → Int := if q < a then va q else if q < a + b then vb (q - a) else v
def vj (a b : Nat) (va vb : Nat → Value) (v : Value) (q : Nat) : Value := if q < a then va q else if q < a + b then vb (q - a) else v
theorem tvl_congr {K K' : Nat → E4} {V V' : Nat → Value} {j j' : Nat} (h1 : j % 5 = j' % 5) (h2 : K (j / 5) = K' (j' / 5)) (h3 : V (j / 5) = V' (j' / 5)) : tvl K V j = tvl K' V' j' := by unfold tvl; rw [h1, h2, h3]
theorem rows_join (a b : Nat) (ka kb : Nat → E4) (f : E4) (va vb : Nat → Value) (v : Value) : (List.range (a * 5)).map (tvl ka va) ++ (List.range (b * 5)).map (tvl kb vb) ++ [.int .u64 f.x0, .int .u64 f.x1, .int .u64 f.x2, .int .u64 f.x3, v] = (List.range ((a + b + 1) * 5)).map (tvl (kj a b ka kb f) (vj a b va vb v)) := by
  refine List.ext_getElem? (fun j => ?_)
  by_cases hj : j < (a + b + 1) * 5
  · rw [List.getElem?_map, List.getElem?_range hj]
    by_cases h1 : j < a * 5
    · rw [List.getElem?_append_left (by simp; omega), List.getElem?_append_left (by simpa using h1), List.getElem?_map, List.getElem?_range h1]
      refine congrArg some (tvl_congr rfl ?_ ?_)
      · unfold kj; rw [if_pos (by omega)]
      · unfold vj; rw [if_pos (by omega)]
    · by_cases h2 : j < (a + b) * 5
      · rw [List.getElem?_append_left (by simp; omega), List.getElem?_append_right (by simp; omega), List.getElem?_map, List.length_map, List.length_range, List.getElem?_range (by omega)]
        refine congrArg some (tvl_congr (by omega) ?_ ?_)
        · unfold kj; rw [if_neg (by omega), if_pos (by omega)]; congr 1; omega
        · unfold vj; rw [if_neg (by omega), if_pos (by omega)]; congr 1; omega
      · rw [List.getElem?_append_right (by simp; omega)]
        simp only [List.length_append, List.length_map, List.length_range]
        have e0 : j = (a + b) * 5 ∨ j = (a + b) * 5 + 1 ∨ j = (a + b) * 5 + 2 ∨ j = (a + b) * 5 + 3 ∨ j = (a + b) * 5 + 4 := by omega
        have kf : kj a b ka kb f (a + b) = f := by unfold kj; rw [if_neg (by omega), if_neg (by omega)]
        have vf : vj a b va vb v (a + b) = v := by unfold vj; rw [if_neg (by omega), if_neg (by omega)]
        obtain rfl | rfl | rfl | rfl | rfl := e0
        · rw [show (a + b) * 5 - (a * 5 + b * 5) = 0 by omega, Option.map_some, tvl0, kf]; rfl
        · rw [show (a + b) * 5 + 1 - (a * 5 + b * 5) = 1 by omega, Option.map_some, tvl1, kf]; rfl
        · rw [show (a + b) * 5 + 2 - (a * 5 + b * 5) = 2 by omega, Option.map_some, tvl2, kf]; rfl
        · rw [show (a + b) * 5 + 3 - (a * 5 + b * 5) = 3 by omega, Option.map_some, tvl3, kf]; rfl
        · rw [show (a + b) * 5 + 4 - (a * 5 + b * 5) = 4 by omega, Option.map_some, tvl4, vf]; rfl
  · rw [List.getElem?_eq_none (by simp; omega), List.getElem?_eq_none (by simp; omega)]
theorem sum_join (a b : Nat) (ka kb : Nat → E4) (f : E4) (va vb : Nat → Nat → Int) (v : Nat → Int) (t : Nat) : tot (fun q => (kj a b ka kb f q).n * xj a b va vb v q t) (a + b + 1) = tot (fun q => (ka q).n * va q t) a + tot (fun q => (kb q).n * vb q t) b + f.n * v t := by
  rw [tot, tot_join]
  congr 1
  · congr 1
    · refine tot_congr _ (fun i hi => ?_)
      show (kj a b ka kb f i).n * xj a b va vb v i t = _
      unfold kj xj; rw [if_pos hi, if_pos hi]
    · refine tot_congr _ (fun i hi => ?_)
      show (kj a b ka kb f (a + i)).n * xj a b va vb v (a + i) t = _
      have q1 : kj a b ka kb f (a + i) = kb i := by unfold kj; rw [if_neg (by omega), if_pos (by omega), show a + i - a = i by omega]
      have q2 : xj a b va vb v (a + i) = vb i := by unfold xj; rw [if_neg (by omega), if_pos (by omega), show a + i - a = i by omega]
      rw [q1, q2]
  · unfold kj xj; rw [if_neg (by omega), if_neg (by omega), if_neg (by omega), if_neg (by omega)]
theorem own_tm {w : World} {B N g cap : Nat} {K : Nat → E4} {V : Nat → Value} {fs : Nat → Nat → Int} (h : w.ownsRow B 68 5 (.slice (some ⟨g, 0, none⟩) N cap) N ((List.range (N * 5)).map (tvl K V))) (ok : ∀ i, i < N → (K i).ok) (hp : ∀ i, i < N → ∃ (P : Option Addr) (n c : Nat), V i = .slice P n c ∧ Fr w (.agg #[.slice P n c]) (fs i)) : Tm w g 0 N K fs := by
  have c : ∀ j, j < N * 5 → w.cell? ⟨g, j, none⟩ = some (tvl K V j) := fun j hj => by rw [h.cellAt j hj, List.getElem?_map, List.getElem?_range hj]; rfl
  refine ⟨fun i hi => ?_, fun i hi => ?_, fun i hi => ?_, fun i hi => ?_, ok, fun i hi => ?_⟩
  · rw [Nat.zero_add, c _ (by omega), tvl0]
  · rw [Nat.zero_add, c _ (by omega), tvl1]
  · rw [Nat.zero_add, c _ (by omega), tvl2]
  · rw [Nat.zero_add, c _ (by omega), tvl3]
  · obtain ⟨P, n, cc, h1, h2⟩ := hp i hi
    exact ⟨P, n, cc, by rw [Nat.zero_add, c _ (by omega), tvl4, h1], h2⟩
theorem own_shape5 {w : World} {B N : Nat} {t : TypeId} {v : Value} {xs : List Value} (h : w.ownsRow B t 5 v N xs) (hN : 0 < N) : ∃ g cap, v = .slice (some ⟨g, 0, none⟩) N cap ∧ B ≤ g ∧ N ≤ cap := by
  rcases h.2 with ⟨_, h0⟩ | ⟨g, cap, cur, h1, hB, _, hnc, _⟩
  · omega
  · exact ⟨g, cap, h1, hB, hnc⟩
end Go.Proofs.YtapieajkmpnmoaaGreatDoor
