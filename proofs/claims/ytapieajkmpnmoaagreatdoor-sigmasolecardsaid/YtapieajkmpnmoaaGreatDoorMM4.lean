import Derived.Test.YtapieajkmpnmoaaGreatDoorMM3
import Derived.Test.YtapieajkmpnmoaaGreatDoorMM2
namespace Go.Proofs.YtapieajkmpnmoaaGreatDoor
open Go.RowKit
set_option linter.unusedVariables false
theorem i64_and127 (n : Int) : bits .and .i64 n 127 = n % 128 := by
  have h3 : (BitVec.ofInt 64 127).toNat = 2 ^ 7 - 1 := by decide
  have key : (BitVec.ofInt 64 n &&& BitVec.ofInt 64 127).toNat = (n % ((2 ^ 64 : Nat) : Int)).toNat % 2 ^ 7 := by
    rw [BitVec.toNat_and, BitVec.toNat_ofInt, h3, Nat.and_two_pow_sub_one_eq_mod]
  show IntKind.i64.wrap ((BitVec.ofInt 64 n &&& BitVec.ofInt 64 127).toNat : Nat) = n % 128
  rw [key, IntKind.wrap_i64]
  omega
/-- where the units' row has one unit more; x is written below jx, y below jy -/
structure ST (w w4 w' : World) (n i jx jy : Nat) (p1 p2 : Nat → E4) (v : Value) (b : Nat → Nat) (s : Bool) : Prop where
  x : Rm w' (w.heap.size + 1 + 1) n (fun j => if j < jx then p1 j else zero4)
  y : Rm w' (w.heap.size + 1 + 1 + 1) n (fun j => if j < jy then p2 j else zero4)
  row : w'.ownsRow (w.heap.size + 1 + 1 + 1 + 1) 32 1 v (i + 1) (us b (i + 1))
  u : ∀ j, j < i + 1 → Rl w' (b j) 0 (j + 1) (uf j) ∧ w.heap.size + 1 + 1 + 1 + 1 ≤ b j
  s : s = true ↔ ∀ j, j < i → lst (p1 j).n = lst (p2 j).n
  bl : Below (w.heap.size + 1 + 1) w4 w'
  sz : w.heap.size + 1 + 1 + 1 + 1 ≤ w'.heap.size
theorem SU.st {w w4 w' : World} {n i : Nat} {p1 p2 : Nat → E4} {v : Value} {b : Nat → Nat} {s : Bool} (h : SU w w4 w' n i p1 p2 v b s) : ST w w4 w' n i i i p1 p2 v b s := ⟨h.x, h.y, h.row, h.u, h.s, h.bl, h.sz⟩
theorem rl_setS {w : World} {b o n c k : Nat} {g : Nat → E4} {z : E4} (r : Rl w b o n g) (h : c ≠ b) : Rl (setS w c k z) b o n g := by
  unfold setS
  exact (((r.far _ h).far _ h).far _ h).far _ h
theorem rm_setS {w : World} {b n c k : Nat} {g : Nat → E4} {z : E4} (r : Rm w b n g) (h : c ≠ b) : Rm (setS w c k z) b n g :=
  ⟨by rw [setS_size]; exact r.lt, rl_setS r.r h, fun j hj => by rw [setS_frozen]; exact r.fr j hj⟩
theorem own_setSS {w : World} {base n s c k : Nat} {e : TypeId} {v : Value} {xs : List Value} {z : E4} (h : w.ownsRow base e s v n xs) (hb : c < base) : (setS w c k z).ownsRow base e s v n xs := by
  unfold setS
  exact ownsRow_setCell_below (ownsRow_setCell_below (ownsRow_setCell_below (ownsRow_setCell_below h hb _) hb _) hb _) hb _
theorem ST.setx {w w4 w' : World} {n i jy : Nat} {p1 p2 : Nat → E4} {v : Value} {b : Nat → Nat} {s : Bool} {z : E4} (h : ST w w4 w' n i i jy p1 p2 v b s) (hi : i < n) (z1 : z = p1 i) : ST w w4 (setS w' (w.heap.size + 1 + 1) (i * 4) z) n i (i + 1) jy p1 p2 v b s := by
  have hx := h.x.set i hi z
  rw [if_next z1] at hx
  exact ⟨hx, rm_setS h.y (by omega), own_setSS h.row (by omega), fun j hj => ⟨rl_setS (h.u j hj).1 (by have := (h.u j hj).2; omega), (h.u j hj).2⟩, h.s, setS_bel h.bl (Nat.le_refl _), by rw [setS_size]; exact h.sz⟩
theorem ST.sety {w w4 w' : World} {n i jx : Nat} {p1 p2 : Nat → E4} {v : Value} {b : Nat → Nat} {s : Bool} {z : E4} (h : ST w w4 w' n i jx i p1 p2 v b s) (hi : i < n) (z1 : z = p2 i) : ST w w4 (setS w' (w.heap.size + 1 + 1 + 1) (i * 4) z) n i jx (i + 1) p1 p2 v b s := by
  have hy := h.y.set i hi z
  rw [if_next z1] at hy
  exact ⟨rm_setS h.x (by omega), hy, own_setSS h.row (by omega), fun j hj => ⟨rl_setS (h.u j hj).1 (by have := (h.u j hj).2; omega), (h.u j hj).2⟩, h.s, setS_bel h.bl (by omega), by rw [setS_size]; exact h.sz⟩
theorem ST.stayx {w w4 w' : World} {n i jy : Nat} {p1 p2 : Nat → E4} {v : Value} {b : Nat → Nat} {s : Bool} (h : ST w w4 w' n i i jy p1 p2 v b s) (z1 : p1 i = zero4) : ST w w4 w' n i (i + 1) jy p1 p2 v b s := by
  have hx := h.x
  rw [if_stay z1] at hx
  exact ⟨hx, h.y, h.row, h.u, h.s, h.bl, h.sz⟩
theorem ST.stayy {w w4 w' : World} {n i jx : Nat} {p1 p2 : Nat → E4} {v : Value} {b : Nat → Nat} {s : Bool} (h : ST w w4 w' n i jx i p1 p2 v b s) (z1 : p2 i = zero4) : ST w w4 w' n i jx (i + 1) p1 p2 v b s := by
  have hy := h.y
  rw [if_stay z1] at hy
  exact ⟨h.x, hy, h.row, h.u, h.s, h.bl, h.sz⟩
theorem ST.next {w w4 w' w'' : World} {n i : Nat} {p1 p2 : Nat → E4} {v : Value} {b : Nat → Nat} {s s' : Bool} (h : ST w w4 w' n i (i + 1) (i + 1) p1 p2 v b s) (hb : Below w'.heap.size w' w'') (hs : s' = true ↔ ∀ j, j < i + 1 → lst (p1 j).n = lst (p2 j).n) : SI w w4 w'' n (i + 1) p1 p2 v b s' :=
  ⟨h.x.keep hb, h.y.keep hb, own_keep5 h.row hb, fun j hj => ⟨(h.u j hj).1.keep hb, (h.u j hj).2⟩, hs, below_trans h.bl (below_less hb (by have := h.sz; omega)), Nat.le_trans h.sz hb.size⟩
theorem ST.at1 {w w4 w' : World} {n i jy : Nat} {p1 p2 : Nat → E4} {v : Value} {b : Nat → Nat} {s : Bool} (h : ST w w4 w' n i (i + 1) jy p1 p2 v b s) (hi : i < n) : (w'.cell? ⟨w.heap.size + 1 + 1, i * 4, none⟩ = some (.int .u64 (p1 i).x0) ∧ w'.cell? ⟨w.heap.size + 1 + 1, i * 4 + 1, none⟩ = some (.int .u64 (p1 i).x1) ∧ w'.cell? ⟨w.heap.size + 1 + 1, i * 4 + 2, none⟩ = some (.int .u64 (p1 i).x2) ∧ w'.cell? ⟨w.heap.size + 1 + 1, i * 4 + 3, none⟩ = some (.int .u64 (p1 i).x3)) := by
  have c0 := h.x.r.c0 i hi; have c1 := h.x.r.c1 i hi; have c2 := h.x.r.c2 i hi; have c3 := h.x.r.c3 i hi
  simp only [if_pos (Nat.lt_succ_self i), Nat.zero_add] at c0 c1 c2 c3
  exact ⟨c0, c1, c2, c3⟩
theorem ST.at2 {w w4 w' : World} {n i jx : Nat} {p1 p2 : Nat → E4} {v : Value} {b : Nat → Nat} {s : Bool} (h : ST w w4 w' n i jx (i + 1) p1 p2 v b s) (hi : i < n) : (w'.cell? ⟨w.heap.size + 1 + 1 + 1, i * 4, none⟩ = some (.int .u64 (p2 i).x0) ∧ w'.cell? ⟨w.heap.size + 1 + 1 + 1, i * 4 + 1, none⟩ = some (.int .u64 (p2 i).x1) ∧ w'.cell? ⟨w.heap.size + 1 + 1 + 1, i * 4 + 2, none⟩ = some (.int .u64 (p2 i).x2) ∧ w'.cell? ⟨w.heap.size + 1 + 1 + 1, i * 4 + 3, none⟩ = some (.int .u64 (p2 i).x3)) := by
  have c0 := h.y.r.c0 i hi; have c1 := h.y.r.c1 i hi; have c2 := h.y.r.c2 i hi; have c3 := h.y.r.c3 i hi
  simp only [if_pos (Nat.lt_succ_self i), Nat.zero_add] at c0 c1 c2 c3
  exact ⟨c0, c1, c2, c3⟩
theorem s_next_t {p1 p2 : Nat → E4} {i : Nat} (h : true = true ↔ ∀ j, j < i → lst (p1 j).n = lst (p2 j).n) : (lst (p1 i).n).same (lst (p2 i).n) = true ↔ ∀ j, j < i + 1 → lst (p1 j).n = lst (p2 j).n := by
  rw [E4.same_iff]
  refine ⟨fun e j hj => ?_, fun q => q i (Nat.lt_succ_self i)⟩
  by_cases hji : j = i
  · subst hji; exact e
  · exact h.1 rfl j (by omega)
theorem s_next_f {p1 p2 : Nat → E4} {i : Nat} (h : false = true ↔ ∀ j, j < i → lst (p1 j).n = lst (p2 j).n) : false = true ↔ ∀ j, j < i + 1 → lst (p1 j).n = lst (p2 j).n := by
  refine ⟨fun e => (by cases e), fun q => h.2 (fun j hj => q j (by omega))⟩
theorem atE_in {L i : Nat} {k : Nat → E4} (h : i < L) : k i = atE L k i := by unfold atE; rw [if_pos h]
theorem atE_out {L i : Nat} {k : Nat → E4} (h : ¬ i < L) : atE L k i = zero4 := by unfold atE; rw [if_neg h]
theorem lst_zero : lst 0 = zero4 := by kernel_rfl
/-- 1 in place p, 0 everywhere else -/
def unS (p t : Nat) : Int := if t = p then 1 else 0
theorem uf_nS (p k : Nat) : lst (uf p k).n = lst (unS p k) := by
  unfold uf unS
  by_cases h : k = p
  · rw [if_pos h, if_pos h, E4.n]; rfl
  · rw [if_neg h, if_neg h, E4.n]; rfl
theorem tot_un (k : Nat → Int) (t : Nat) : ∀ n, tot (fun q => k q * unS q t) n = if t < n then k t else 0
  | 0 => by rw [tot, if_neg (by omega)]
  | n + 1 => by
    rw [tot, tot_un k t n]
    unfold unS
    by_cases e : t = n
    · subst e; rw [if_neg (by omega), if_pos rfl, if_pos (by omega)]; omega
    · rw [if_neg e]
      by_cases l : t < n
      · rw [if_pos l, if_pos (by omega)]; omega
      · rw [if_neg l, if_neg (by omega)]; omega
theorem lst_cancel {a b c : Int} (h : lst (a + c) = lst (b + c)) : lst a = lst b := by
  have := lst_two h (rfl : lst (-c) = lst (-c))
  rw [show a + c + -c = a by omega, show b + c + -c = b by omega] at this
  exact this
theorem sole_iff {n : Nat} {p1 p2 : Nat → E4} {s : Bool} {c : Int} {f : Nat → Int} (h : s = true ↔ ∀ j, j < n → lst (p1 j).n = lst (p2 j).n) : s = true ↔ ∀ t, lst (tot (fun q => (p2 q).n * unS q t) n + c * f t) = lst (tot (fun q => (p1 q).n * unS q t) n + c * f t) := by
  rw [h]
  constructor
  · intro q t
    rw [tot_un (fun q => (p2 q).n), tot_un (fun q => (p1 q).n)]
    by_cases l : t < n
    · rw [if_pos l, if_pos l]; exact lst_two (q t l).symm rfl
    · rw [if_neg l, if_neg l]
  · intro q t l
    have := lst_cancel (q t)
    rw [tot_un (fun q => (p2 q).n), tot_un (fun q => (p1 q).n), if_pos l, if_pos l] at this
    exact this.symm
theorem fr_unit {w : World} {b q : Nat} (h : Rl w b 0 (q + 1) (uf q)) (hq : q < 100) : Fr w (.agg #[.slice (some ⟨b, 0, none⟩) (q + 1) (q + 1)]) (unS q) :=
  ⟨_, _, _, uf q, rfl, ⟨b, 0, fun _ => rfl, fun _ => h⟩, by omega, fun i _ => ⟨uf_ok q i, uf_nS q i⟩, fun i hi => by unfold unS; rw [if_neg (by omega)]; exact lst_zero⟩
theorem fr_list {w : World} {P : Option Addr} {L c : Nat} {k : Nat → E4} (h : Lm w P L k) (ok : ∀ i, i < L → (k i).ok) (hL : L ≤ 4398046510976) : Fr w (.agg #[.slice P L c]) (fun t => (atE L k t).n) :=
  ⟨_, _, _, k, rfl, h, hL, fun i hi => ⟨ok i hi, by show lst (k i).n = lst (atE L k i).n; rw [← atE_in hi]⟩, fun i hi => by show lst (atE L k i).n = zero4; rw [atE_out (by omega), z4n]; exact lst_zero⟩
/-- what lies behind the loop and the claim's making -/
structure SZ (w W : World) (n R I g c : Nat) (Pl : Option Addr) (Ll cl : Nat) (p1 p2 : Nat → E4) (b : Nat → Nat) (ch : E4) : Prop where
  c0 : W.cell? ⟨w.heap.size, 0, none⟩ = some (.int .u64 ch.x0)
  c1 : W.cell? ⟨w.heap.size, 1, none⟩ = some (.int .u64 ch.x1)
  c2 : W.cell? ⟨w.heap.size, 2, none⟩ = some (.int .u64 ch.x2)
  c3 : W.cell? ⟨w.heap.size, 3, none⟩ = some (.int .u64 ch.x3)
  k0 : W.cell? ⟨w.heap.size + 1, 0, none⟩ = some (.slice (some ⟨R, 0, none⟩) 1 1)
  k1 : W.cell? ⟨w.heap.size + 1, 1, none⟩ = some (.slice (some ⟨I, 0, none⟩) 1 1)
  r : W.cell? ⟨R, 0, none⟩ = some (.slice (some ⟨g, 0, none⟩) n c)
  im : W.cell? ⟨I, 0, none⟩ = some (.slice Pl Ll cl)
  g : ∀ q, q < n → W.cell? ⟨g, q, none⟩ = some (.slice (some ⟨b q, 0, none⟩) (q + 1) (q + 1))
  u : ∀ q, q < n → Rl W (b q) 0 (q + 1) (uf q)
  x : Rl W (w.heap.size + 1 + 1) 0 n p1
  y : Rl W (w.heap.size + 1 + 1 + 1) 0 n p2
  bl : Below w.heap.size w W
theorem SZ.keep {w W W' : World} {n R I g c : Nat} {Pl : Option Addr} {Ll cl : Nat} {p1 p2 : Nat → E4} {b : Nat → Nat} {ch : E4} (h : SZ w W n R I g c Pl Ll cl p1 p2 b ch) (hb : Below W.heap.size W W') : SZ w W' n R I g c Pl Ll cl p1 p2 b ch :=
  ⟨cell_keep h.c0 hb, cell_keep h.c1 hb, cell_keep h.c2 hb, cell_keep h.c3 hb, cell_keep h.k0 hb, cell_keep h.k1 hb, cell_keep h.r hb, cell_keep h.im hb, fun q hq => cell_keep (h.g q hq) hb, fun q hq => (h.u q hq).keep hb, h.x.keep hb, h.y.keep hb, bl_trans h.bl hb⟩
def mk1 (W : World) (H k : Nat) (A : Obj) (v : Value) : World := (W.setCell ⟨H, k, none⟩ v).alloc A
theorem far_cell {W : World} {H k b j : Nat} {v x : Value} (hb : b ≠ H) (hc : W.cell? ⟨b, j, none⟩ = some x) : (W.setCell ⟨H, k, none⟩ v).cell? ⟨b, j, none⟩ = some x := by
  rw [World.cell?_setCell_other _ _ _ _ (fun e => hb (congrArg Addr.block e).symm)]; exact hc
theorem mk1_cell {W : World} {H k b j : Nat} {A : Obj} {v x : Value} (hb : b ≠ H) (hc : W.cell? ⟨b, j, none⟩ = some x) : (mk1 W H k A v).cell? ⟨b, j, none⟩ = some x := cell_keep (far_cell hb hc) (bl_alloc _ A)
theorem mk1_same {W : World} {H k : Nat} {A : Obj} {v u : Value} (hc : W.cell? ⟨H, k, none⟩ = some u) : (mk1 W H k A v).cell? ⟨H, k, none⟩ = some v := cell_keep (World.cell?_setCell_same _ _ _ hc) (bl_alloc _ A)
theorem mk1_off {W : World} {H k j : Nat} {A : Obj} {v u : Value} (hk : k ≠ j) (hc : W.cell? ⟨H, j, none⟩ = some u) : (mk1 W H k A v).cell? ⟨H, j, none⟩ = some u := by
  refine cell_keep ?_ (bl_alloc _ A)
  rw [World.cell?_setCell_other _ _ _ _ (fun e => hk (congrArg Addr.off e))]; exact hc
theorem mk1_new {W : World} {H k : Nat} {t : TypeId} {v x : Value} : (mk1 W H k (.cells #[x] t) v).cell? ⟨W.heap.size, 0, none⟩ = some x := by
  have := range_newM (W.setCell ⟨H, k, none⟩ v) [x] t 0 _ rfl
  simp only [World.size_setCell] at this
  exact this
theorem mk1_size {W : World} {H k : Nat} {A : Obj} {v : Value} : (mk1 W H k A v).heap.size = W.heap.size + 1 := by unfold mk1; simp
theorem mk1_bl {w W : World} {H k : Nat} {A : Obj} {v : Value} (h : Below w.heap.size w W) (hH : w.heap.size ≤ H) : Below w.heap.size w (mk1 W H k A v) := bl_trans (h.setCell hH _) (bl_alloc _ A)
theorem mk1_fr {W : World} {H k j : Nat} {A : Obj} {v : Value} (hH : H < W.heap.size) (h : W.frozen? ⟨H, j, none⟩ = false) : (mk1 W H k A v).frozen? ⟨H, j, none⟩ = false := by
  refine ((bl_alloc (W.setCell ⟨H, k, none⟩ v) A).frozen (p := ⟨H, j, none⟩) (by simp; exact hH)).trans ?_
  rw [World.frozen?_setCell]; exact h
theorem mk1_rl {W : World} {H k b o n : Nat} {A : Obj} {v : Value} {g : Nat → E4} (h : Rl W b o n g) (hb : b ≠ H) : Rl (mk1 W H k A v) b o n g :=
  ⟨fun i hi => mk1_cell hb (h.c0 i hi), fun i hi => mk1_cell hb (h.c1 i hi), fun i hi => mk1_cell hb (h.c2 i hi), fun i hi => mk1_cell hb (h.c3 i hi)⟩
theorem rl_if {W : World} {b n : Nat} {p : Nat → E4} (h : Rl W b 0 n (fun j => if j < n then p j else zero4)) : Rl W b 0 n p :=
  ⟨fun i hi => by have := h.c0 i hi; rw [if_pos hi] at this; exact this, fun i hi => by have := h.c1 i hi; rw [if_pos hi] at this; exact this, fun i hi => by have := h.c2 i hi; rw [if_pos hi] at this; exact this, fun i hi => by have := h.c3 i hi; rw [if_pos hi] at this; exact this⟩
theorem SI.last {w w4 wr : World} {n g c Ll cl : Nat} {Pl : Option Addr} {p1 p2 : Nat → E4} {b : Nat → Nat} {s : Bool} {ch : E4} (h : SI w w4 wr n n p1 p2 (.slice (some ⟨g, 0, none⟩) n c) b s) (n1 : 1 ≤ n) (B4 : Below w.heap.size w w4)
    (c0 : w4.cell? ⟨w.heap.size, 0, none⟩ = some (.int .u64 ch.x0)) (c1 : w4.cell? ⟨w.heap.size, 1, none⟩ = some (.int .u64 ch.x1)) (c2 : w4.cell? ⟨w.heap.size, 2, none⟩ = some (.int .u64 ch.x2)) (c3 : w4.cell? ⟨w.heap.size, 3, none⟩ = some (.int .u64 ch.x3))
    (k0 : w4.cell? ⟨w.heap.size + 1, 0, none⟩ = some (.slice none 0 0)) (k1 : w4.cell? ⟨w.heap.size + 1, 1, none⟩ = some (.slice none 0 0)) :
    SZ w (mk1 (mk1 wr (w.heap.size + 1) 0 (.cells #[.slice (some ⟨g, 0, none⟩) n c] 27) (.slice (some ⟨wr.heap.size, 0, none⟩) 1 1)) (w.heap.size + 1) 1 (.cells #[.slice Pl Ll cl] 32) (.slice (some ⟨(mk1 wr (w.heap.size + 1) 0 (.cells #[.slice (some ⟨g, 0, none⟩) n c] 27) (.slice (some ⟨wr.heap.size, 0, none⟩) 1 1)).heap.size, 0, none⟩) 1 1)) n wr.heap.size (mk1 wr (w.heap.size + 1) 0 (.cells #[.slice (some ⟨g, 0, none⟩) n c] 27) (.slice (some ⟨wr.heap.size, 0, none⟩) 1 1)).heap.size g c Pl Ll cl p1 p2 b ch := by
  have kp : ∀ {k j : Nat} {v : Value}, k < w.heap.size + 1 + 1 → w4.cell? ⟨k, j, none⟩ = some v → wr.cell? ⟨k, j, none⟩ = some v := fun {k j v} hk hv => (h.bl.cell (p := ⟨k, j, none⟩) hk).trans hv
  have hg := (h.row.lt g rfl).1
  have hsz := h.sz
  have q1 := below_trans B4 (below_less h.bl (by omega))
  refine ⟨mk1_cell (by omega) (mk1_cell (by omega) (kp (by omega) c0)), mk1_cell (by omega) (mk1_cell (by omega) (kp (by omega) c1)), mk1_cell (by omega) (mk1_cell (by omega) (kp (by omega) c2)), mk1_cell (by omega) (mk1_cell (by omega) (kp (by omega) c3)), mk1_off (by omega) (mk1_same (kp (by omega) k0)), mk1_same (mk1_off (by omega) (kp (by omega) k1)), mk1_cell (by omega) mk1_new, mk1_new, fun q hq => mk1_cell (by omega) (mk1_cell (by omega) ?_), fun q hq => mk1_rl (mk1_rl (h.u q hq).1 (by have := (h.u q hq).2; omega)) (by have := (h.u q hq).2; omega), mk1_rl (mk1_rl (rl_if h.x.r) (by omega)) (by omega), mk1_rl (mk1_rl (rl_if h.y.r) (by omega)) (by omega), mk1_bl (mk1_bl q1 (by omega)) (by omega)⟩
  have := h.row.cellAt q (by omega)
  unfold us at this
  rw [List.getElem?_map, List.getElem?_range hq] at this
  exact this
theorem cells_newS (w : World) (cs : List Value) (t : TypeId) : ∀ j u, cs[j]? = some u → (w.alloc (.cells cs.toArray t)).cell? ((⟨w.heap.size, 0, none⟩ : Addr).add j) = some u := fun j u hu => by
  rw [addr_add]
  have := range_newM w cs t j u hu
  rw [Nat.zero_add] at this
  exact this
set_option maxRecDepth 100000 in
set_option maxHeartbeats 16000000 in
theorem sole_any (width : Int) (Pa : Option Addr) (La ca : Nat) (ka : Nat → E4) (Pb : Option Addr) (Lb cb : Nat) (kb : Nat → E4) (Pl : Option Addr) (Ll cl : Nat) (kl : Nat → E4) (ch : E4) (w : World) (hT : Tb w) (hch : ch.ok) (hka : Lm w Pa La ka) (oka : ∀ i, i < La → (ka i).ok) (hLa : La ≤ 4398046510976) (hkb : Lm w Pb Lb kb) (okb : ∀ i, i < Lb → (kb i).ok) (hLb : Lb ≤ 4398046510976) (hkl : Lm w Pl Ll kl) (okl : ∀ i, i < Ll → (kl i).ok) (hLl : Ll ≤ 4398046510976) :
    Calls Tryz.prog 3 #[.int .i64 width, .slice Pa La ca, .slice Pb Lb cb, .slice Pl Ll cl, ch.v] w fun e w' => e = .returned (.bool true) ∧ Below w.heap.size w w' := by
  obtain ⟨m, hm, hm5⟩ : ∃ m : Nat, bits .and .i64 width 127 = (m : Int) ∧ m ≤ 127 := ⟨(width % 128).toNat, by rw [i64_and127]; omega, by omega⟩

  obtain ⟨n, hn, n1, n6⟩ : ∃ n : Nat, 1 + (m : Int) % 6 = (n : Int) ∧ 1 ≤ n ∧ n ≤ 6 := ⟨(1 + (m : Int) % 6).toNat, by omega, by omega, by omega⟩
  obtain ⟨i0, hi, hz0, hz1, hz2⟩ := info_parts sinfoG
  obtain ⟨f0, fi, fz0, fz1, fz2⟩ := info_parts finfoG
  have hmk := fun w => run_make (P := Tryz.prog) w 22 25 i0 (.agg #[.int .u64 0, .int .u64 0, .int .u64 0, .int .u64 0]) (by kernel_rfl) hi hz0 .i64 .i64 (n : Int) (n : Int) (by omega) (Int.le_refl _) (by rw [hz2]; omega) (by omega)
  have hmu := fun (i : Nat) (hi6 : i < n) w => run_make (P := Tryz.prog) w 22 25 i0 (.agg #[.int .u64 0, .int .u64 0, .int .u64 0, .int .u64 0]) (by kernel_rfl) hi hz0 .i64 .i64 ((i : Int) + 1) ((i : Int) + 1) (by omega) (Int.le_refl _) (by rw [hz2]; omega) (by omega)
  simp only [Int.toNat_natCast, hz1, Value.cells] at hmk hmu
  have HMU := hidden hmu
  have FU : Hid (Tryz.prog.underlying 27 = some (.slice 32)) := hidden (by kernel_rfl)
  have FI := hidden (And.intro fi (And.intro fz0 (And.intro fz1 fz2)))
  clear hi hz0 hz1 hz2 fi fz0 fz1 fz2 hmu
  have B2 : Below w.heap.size w ((w.alloc (.cells #[.int .u64 ch.x0, .int .u64 ch.x1, .int .u64 ch.x2, .int .u64 ch.x3] 25)).alloc (.cells #[.slice none 0 0, .slice none 0 0] 29)) := bl_alloc2 w _ _
  have B4 : Below w.heap.size w ((((w.alloc (.cells #[.int .u64 ch.x0, .int .u64 ch.x1, .int .u64 ch.x2, .int .u64 ch.x3] 25)).alloc (.cells #[.slice none 0 0, .slice none 0 0] 29)).alloc (.cells (madeCells #[.int .u64 0, .int .u64 0, .int .u64 0, .int .u64 0] (n * 4)) 25)).alloc (.cells (madeCells #[.int .u64 0, .int .u64 0, .int .u64 0, .int .u64 0] (n * 4)) 25)) := bl_trans (bl_trans B2 (bl_alloc _ _)) (bl_alloc _ _)
  have RX : Rm ((((w.alloc (.cells #[.int .u64 ch.x0, .int .u64 ch.x1, .int .u64 ch.x2, .int .u64 ch.x3] 25)).alloc (.cells #[.slice none 0 0, .slice none 0 0] 29)).alloc (.cells (madeCells #[.int .u64 0, .int .u64 0, .int .u64 0, .int .u64 0] (n * 4)) 25)).alloc (.cells (madeCells #[.int .u64 0, .int .u64 0, .int .u64 0, .int .u64 0] (n * 4)) 25)) (w.heap.size + 1 + 1) n (fun _ => zero4) := by
    have := (Rm.made ((w.alloc (.cells #[.int .u64 ch.x0, .int .u64 ch.x1, .int .u64 ch.x2, .int .u64 ch.x3] 25)).alloc (.cells #[.slice none 0 0, .slice none 0 0] 29)) n 25).keep (bl_alloc _ (.cells (madeCells #[.int .u64 0, .int .u64 0, .int .u64 0, .int .u64 0] (n * 4)) 25))
    simp only [World.size_alloc] at this
    exact this
  have RY : Rm ((((w.alloc (.cells #[.int .u64 ch.x0, .int .u64 ch.x1, .int .u64 ch.x2, .int .u64 ch.x3] 25)).alloc (.cells #[.slice none 0 0, .slice none 0 0] 29)).alloc (.cells (madeCells #[.int .u64 0, .int .u64 0, .int .u64 0, .int .u64 0] (n * 4)) 25)).alloc (.cells (madeCells #[.int .u64 0, .int .u64 0, .int .u64 0, .int .u64 0] (n * 4)) 25)) (w.heap.size + 1 + 1 + 1) n (fun _ => zero4) := by
    have := Rm.made (((w.alloc (.cells #[.int .u64 ch.x0, .int .u64 ch.x1, .int .u64 ch.x2, .int .u64 ch.x3] 25)).alloc (.cells #[.slice none 0 0, .slice none 0 0] 29)).alloc (.cells (madeCells #[.int .u64 0, .int .u64 0, .int .u64 0, .int .u64 0] (n * 4)) 25)) n 25
    simp only [World.size_alloc] at this
    exact this
  have S4 : ((((w.alloc (.cells #[.int .u64 ch.x0, .int .u64 ch.x1, .int .u64 ch.x2, .int .u64 ch.x3] 25)).alloc (.cells #[.slice none 0 0, .slice none 0 0] 29)).alloc (.cells (madeCells #[.int .u64 0, .int .u64 0, .int .u64 0, .int .u64 0] (n * 4)) 25)).alloc (.cells (madeCells #[.int .u64 0, .int .u64 0, .int .u64 0, .int .u64 0] (n * 4)) 25)).heap.size = w.heap.size + 1 + 1 + 1 + 1 := by simp
  have SI0 : SI w ((((w.alloc (.cells #[.int .u64 ch.x0, .int .u64 ch.x1, .int .u64 ch.x2, .int .u64 ch.x3] 25)).alloc (.cells #[.slice none 0 0, .slice none 0 0] 29)).alloc (.cells (madeCells #[.int .u64 0, .int .u64 0, .int .u64 0, .int .u64 0] (n * 4)) 25)).alloc (.cells (madeCells #[.int .u64 0, .int .u64 0, .int .u64 0, .int .u64 0] (n * 4)) 25)) ((((w.alloc (.cells #[.int .u64 ch.x0, .int .u64 ch.x1, .int .u64 ch.x2, .int .u64 ch.x3] 25)).alloc (.cells #[.slice none 0 0, .slice none 0 0] 29)).alloc (.cells (madeCells #[.int .u64 0, .int .u64 0, .int .u64 0, .int .u64 0] (n * 4)) 25)).alloc (.cells (madeCells #[.int .u64 0, .int .u64 0, .int .u64 0, .int .u64 0] (n * 4)) 25)) n 0 (atE La ka) (atE Lb kb) (.slice none 0 0) (fun _ => 0) true := ⟨RX, RY, World.ownsRow_nil _ _ _ _, fun j hj => absurd hj (by omega), ⟨fun _ j hj => absurd hj (by omega), fun _ => rfl⟩, Below.refl _ _, by rw [S4]; exact Nat.le_refl _⟩
  have c0 : ((w.alloc (.cells #[.int .u64 ch.x0, .int .u64 ch.x1, .int .u64 ch.x2, .int .u64 ch.x3] 25)).alloc (.cells #[.slice none 0 0, .slice none 0 0] 29)).cell? ⟨w.heap.size, 0, none⟩ = some (.int .u64 ch.x0) := by go_simp
  have c1 : ((w.alloc (.cells #[.int .u64 ch.x0, .int .u64 ch.x1, .int .u64 ch.x2, .int .u64 ch.x3] 25)).alloc (.cells #[.slice none 0 0, .slice none 0 0] 29)).cell? ⟨w.heap.size, 1, none⟩ = some (.int .u64 ch.x1) := by go_simp
  have c2 : ((w.alloc (.cells #[.int .u64 ch.x0, .int .u64 ch.x1, .int .u64 ch.x2, .int .u64 ch.x3] 25)).alloc (.cells #[.slice none 0 0, .slice none 0 0] 29)).cell? ⟨w.heap.size, 2, none⟩ = some (.int .u64 ch.x2) := by go_simp
  have c3 : ((w.alloc (.cells #[.int .u64 ch.x0, .int .u64 ch.x1, .int .u64 ch.x2, .int .u64 ch.x3] 25)).alloc (.cells #[.slice none 0 0, .slice none 0 0] 29)).cell? ⟨w.heap.size, 3, none⟩ = some (.int .u64 ch.x3) := by go_simp
  have k0 : ((w.alloc (.cells #[.int .u64 ch.x0, .int .u64 ch.x1, .int .u64 ch.x2, .int .u64 ch.x3] 25)).alloc (.cells #[.slice none 0 0, .slice none 0 0] 29)).cell? ⟨w.heap.size + 1, 0, none⟩ = some (.slice none 0 0) := by go_simp
  have kf0 : ((w.alloc (.cells #[.int .u64 ch.x0, .int .u64 ch.x1, .int .u64 ch.x2, .int .u64 ch.x3] 25)).alloc (.cells #[.slice none 0 0, .slice none 0 0] 29)).frozen? ⟨w.heap.size + 1, 0, none⟩ = false := by go_simp
  have k1 : ((w.alloc (.cells #[.int .u64 ch.x0, .int .u64 ch.x1, .int .u64 ch.x2, .int .u64 ch.x3] 25)).alloc (.cells #[.slice none 0 0, .slice none 0 0] 29)).cell? ⟨w.heap.size + 1, 1, none⟩ = some (.slice none 0 0) := by go_simp
  have kf1 : ((w.alloc (.cells #[.int .u64 ch.x0, .int .u64 ch.x1, .int .u64 ch.x2, .int .u64 ch.x3] 25)).alloc (.cells #[.slice none 0 0, .slice none 0 0] 29)).frozen? ⟨w.heap.size + 1, 1, none⟩ = false := by go_simp
  have B24 : Below ((w.alloc (.cells #[.int .u64 ch.x0, .int .u64 ch.x1, .int .u64 ch.x2, .int .u64 ch.x3] 25)).alloc (.cells #[.slice none 0 0, .slice none 0 0] 29)).heap.size ((w.alloc (.cells #[.int .u64 ch.x0, .int .u64 ch.x1, .int .u64 ch.x2, .int .u64 ch.x3] 25)).alloc (.cells #[.slice none 0 0, .slice none 0 0] 29)) ((((w.alloc (.cells #[.int .u64 ch.x0, .int .u64 ch.x1, .int .u64 ch.x2, .int .u64 ch.x3] 25)).alloc (.cells #[.slice none 0 0, .slice none 0 0] 29)).alloc (.cells (madeCells #[.int .u64 0, .int .u64 0, .int .u64 0, .int .u64 0] (n * 4)) 25)).alloc (.cells (madeCells #[.int .u64 0, .int .u64 0, .int .u64 0, .int .u64 0] (n * 4)) 25)) := bl_alloc2 _ _ _
  have S2 : ((w.alloc (.cells #[.int .u64 ch.x0, .int .u64 ch.x1, .int .u64 ch.x2, .int .u64 ch.x3] 25)).alloc (.cells #[.slice none 0 0, .slice none 0 0] 29)).heap.size = w.heap.size + 1 + 1 := by simp
  have KC := hidden (And.intro (cell_keep c0 B24) (And.intro (cell_keep c1 B24) (And.intro (cell_keep c2 B24) (cell_keep c3 B24))))
  have KK := hidden (And.intro (cell_keep k0 B24) (And.intro (cell_keep k1 B24) (And.intro ((B24.frozen (p := ⟨w.heap.size + 1, 0, none⟩) (by rw [S2]; simp)).trans kf0) ((B24.frozen (p := ⟨w.heap.size + 1, 1, none⟩) (by rw [S2]; simp)).trans kf1))))
  have HS0 := hidden SI0
  have HB4 := hidden (And.intro B4 S4)
  have HT := hidden hT
  have HA := hidden (And.intro hka (And.intro hkb hkl))
  have HO := hidden (And.intro oka (And.intro okb okl))
  have HL := hidden hLl
  have HC := hidden hch
  clear c0 c1 c2 c3 k0 k1 kf0 kf1 B24 S2 B2 B4 RX RY S4 SI0 hT hka hkb hkl oka okb okl hch hLa hLb hLl
  have nn0 : (0 : Int) ≤ (n : Int) := by omega
  unfold E4.v
  go_enter Tryz.func3, Tryz.ntmps3
  go_upto_region 4 with fail
  clear hn hm hm5
  go_upto_region 7 with fail
  generalize ((((w.alloc (.cells #[.int .u64 ch.x0, .int .u64 ch.x1, .int .u64 ch.x2, .int .u64 ch.x3] 25)).alloc (.cells #[.slice none 0 0, .slice none 0 0] 29)).alloc (.cells (madeCells #[.int .u64 0, .int .u64 0, .int .u64 0, .int .u64 0] (n * 4)) 25)).alloc (.cells (madeCells #[.int .u64 0, .int .u64 0, .int .u64 0, .int .u64 0] (n * 4)) 25)) = w4 at *
  go_wp2_with fail

  go_loopw [13, 16, 17] (fun rv sv kv w' => ∃ (i : Nat) (b : Nat → Nat) (s : Bool), i ≤ n ∧ sv = .bool s ∧ kv = .int .i64 (i : Int) ∧ Hid (SI w w4 w' n i (atE La ka) (atE Lb kb) rv b s)) (fun _ _ k _ => n - (intOf k).toNat)
  case atStart => exact ⟨0, fun _ => 0, true, by omega, rfl, rfl, HS0⟩
  case round =>
    clear HS0
    obtain ⟨i, b, s, hin, rfl, rfl, hI⟩ := hrel
    by_cases hi : i < n
    · have i0' : (0 : Int) ≤ (i : Int) := by omega
      have i1 : (i : Int) < (n : Int) := by omega
      have lt1 : (i : Int) < (i : Int) + 1 := by omega
      have w9 : IntKind.i64.wrap ((i : Int) + 1) = (i : Int) + 1 := IntWalk.i64_in _ (by omega)
      have hmu := HMU.out i hi
      have tn : ((i : Int) + 1).toNat = i + 1 := by omega
      simp only [tn] at hmu
      clear tn
      have C1 := hidden int1_any
      have R0 := hidden (Rm.made wr (i + 1) 25)
      have B0 := hidden (bl_alloc wr (.cells (madeCells #[.int .u64 0, .int .u64 0, .int .u64 0, .int .u64 0] ((i + 1) * 4)) 25))
      go_upto_region 12 with (first | (go_at_call 4; refine (C1.out _).mono ?_; rintro e wa ⟨rfl, ha⟩; have RM := R0.out.keep ha; have b0 := RM.r.c0 i (by omega); have b1 := RM.r.c1 i (by omega); have b2 := RM.r.c2 i (by omega); have b3 := RM.r.c3 i (by omega); have f0' := RM.fr (i * 4) (by omega); have f1 := RM.fr (i * 4 + 1) (by omega); have f2 := RM.fr (i * 4 + 2) (by omega); have f3 := RM.fr (i * 4 + 3) (by omega); rw [Nat.zero_add] at b0 b1 b2 b3; have RN := hidden (show Rl ((((wa.setCell ⟨wr.heap.size, i * 4, none⟩ (.int .u64 1)).setCell ⟨wr.heap.size, i * 4 + 1, none⟩ (.int .u64 0)).setCell ⟨wr.heap.size, i * 4 + 2, none⟩ (.int .u64 0)).setCell ⟨wr.heap.size, i * 4 + 3, none⟩ (.int .u64 0)) (wr.heap.size) 0 (i + 1) (uf i) from (RM.set i (by omega) ⟨1, 0, 0, 0⟩).r); have BN := hidden (show Below wr.heap.size wr ((((wa.setCell ⟨wr.heap.size, i * 4, none⟩ (.int .u64 1)).setCell ⟨wr.heap.size, i * 4 + 1, none⟩ (.int .u64 0)).setCell ⟨wr.heap.size, i * 4 + 2, none⟩ (.int .u64 0)).setCell ⟨wr.heap.size, i * 4 + 3, none⟩ (.int .u64 0)) from setS_bel (o := i * 4) (x := ⟨1, 0, 0, 0⟩) (bl_trans B0.out ha) (Nat.le_refl _)); clear ha hmu RM R0 B0 C1))
      clear b0 b1 b2 b3 f0' f1 f2 f3
      generalize ((((wa.setCell ⟨wr.heap.size, i * 4, none⟩ (.int .u64 1)).setCell ⟨wr.heap.size, i * 4 + 1, none⟩ (.int .u64 0)).setCell ⟨wr.heap.size, i * 4 + 2, none⟩ (.int .u64 0)).setCell ⟨wr.heap.size, i * 4 + 3, none⟩ (.int .u64 0)) = wD at *

      have HR := hidden ((own_keep5 hI.out.row BN.out).alloc (.cells #[.slice (some ⟨wr.heap.size, 0, none⟩) (i + 1) (i + 1)] 32))
      have SB := hidden (show w.heap.size + 1 + 1 + 1 + 1 ≤ (wD.alloc (.cells #[.slice (some ⟨wr.heap.size, 0, none⟩) (i + 1) (i + 1)] 32)).heap.size by have := hI.out.sz; have := BN.out.size; simp; omega)
      go_upto_region 13 with (first | (at_builtin; refine wpList_append_own_at _ rfl _ _ 27 rfl (w.heap.size + 1 + 1 + 1 + 1) 32 f0 (.agg #[.slice none 0 0]) 1 24 FU.out FI.out.1 FI.out.2.1 FI.out.2.2.1 FI.out.2.2.2 rfl (by decide) _ i (us b i) rfl HR.out ⟨wD.heap.size, 0, none⟩ 1 1 [.slice (some ⟨wr.heap.size, 0, none⟩) (i + 1) (i + 1)] rfl rfl (cells_newS wD [.slice (some ⟨wr.heap.size, 0, none⟩) (i + 1) (i + 1)] 32) (by simp [Value.oneCell']) (by unfold maxLen; omega) (by omega) SB.out ?_; intro v4 wE how4 hgr4 hnil4 hat4; have US := hidden (hI.out.app (bl_trans BN.out (bl_alloc wD (.cells #[.slice (some ⟨wr.heap.size, 0, none⟩) (i + 1) (i + 1)] 32))) (Nat.le_refl _) (RN.out.keep (bl_alloc wD (.cells #[.slice (some ⟨wr.heap.size, 0, none⟩) (i + 1) (i + 1)] 32))) how4 hgr4).st; clear how4 hgr4 hnil4 hat4))
      clear HR SB RN BN hI
      generalize hb' : (fun j => if j = i then wr.heap.size else b j) = b' at *
      clear hb'
      have BE := hidden (show Below w.heap.size w wE from below_trans HB4.out.1 (below_less US.out.bl (by omega)))

      by_cases ga : i < La
      · obtain ⟨sba, soa, ea, ra⟩ := HA.out.1.keep BE.out
        obtain rfl := ea (by omega)
        have la : (i : Int) < (La : Int) := by omega
        have qa := atE_in (k := ka) ga
        have zca := ra (by omega)
        have aa0 := zca.c0 i ga
        have aa1 := zca.c1 i ga
        have aa2 := zca.c2 i ga
        have aa3 := zca.c3 i ga
        generalize ka i = za at qa aa0 aa1 aa2 aa3
        replace qa := hidden qa
        obtain ⟨oa0, xa0⟩ : ∃ q, wE.cell? ⟨w.heap.size + 1 + 1, i * 4, none⟩ = some q := ⟨_, by have := US.out.x.r.c0 i hi; rw [Nat.zero_add] at this; exact this⟩
        have ma0 := US.out.x.fr (i * 4) (by omega)
        obtain ⟨oa1, xa1⟩ : ∃ q, wE.cell? ⟨w.heap.size + 1 + 1, i * 4 + 1, none⟩ = some q := ⟨_, by have := US.out.x.r.c1 i hi; rw [Nat.zero_add] at this; exact this⟩
        have ma1 := US.out.x.fr (i * 4 + 1) (by omega)
        obtain ⟨oa2, xa2⟩ : ∃ q, wE.cell? ⟨w.heap.size + 1 + 1, i * 4 + 2, none⟩ = some q := ⟨_, by have := US.out.x.r.c2 i hi; rw [Nat.zero_add] at this; exact this⟩
        have ma2 := US.out.x.fr (i * 4 + 2) (by omega)
        obtain ⟨oa3, xa3⟩ : ∃ q, wE.cell? ⟨w.heap.size + 1 + 1, i * 4 + 3, none⟩ = some q := ⟨_, by have := US.out.x.r.c3 i hi; rw [Nat.zero_add] at this; exact this⟩
        have ma3 := US.out.x.fr (i * 4 + 3) (by omega)
        have wFS := hidden (show ST w w4 ((((wE.setCell ⟨w.heap.size + 1 + 1, i * 4, none⟩ (.int .u64 za.x0)).setCell ⟨w.heap.size + 1 + 1, i * 4 + 1, none⟩ (.int .u64 za.x1)).setCell ⟨w.heap.size + 1 + 1, i * 4 + 2, none⟩ (.int .u64 za.x2)).setCell ⟨w.heap.size + 1 + 1, i * 4 + 3, none⟩ (.int .u64 za.x3)) n i (i + 1) i (atE La ka) (atE Lb kb) v4 b' s from US.out.setx hi qa.out)
        clear ra ea zca
        go_upto_region 15 with fail
        generalize ((((wE.setCell ⟨w.heap.size + 1 + 1, i * 4, none⟩ (.int .u64 za.x0)).setCell ⟨w.heap.size + 1 + 1, i * 4 + 1, none⟩ (.int .u64 za.x1)).setCell ⟨w.heap.size + 1 + 1, i * 4 + 2, none⟩ (.int .u64 za.x2)).setCell ⟨w.heap.size + 1 + 1, i * 4 + 3, none⟩ (.int .u64 za.x3)) = wF at *
        clear aa0 xa0 ma0 aa1 xa1 ma1 aa2 xa2 ma2 aa3 xa3 ma3 qa
        have BF := hidden (show Below w.heap.size w wF from below_trans HB4.out.1 (below_less wFS.out.bl (by omega)))
        by_cases gb : i < Lb
        · obtain ⟨sbb, sob, eb, rb⟩ := HA.out.2.1.keep BF.out
          obtain rfl := eb (by omega)
          have lb : (i : Int) < (Lb : Int) := by omega
          have qb := atE_in (k := kb) gb
          have zcb := rb (by omega)
          have ab0 := zcb.c0 i gb
          have ab1 := zcb.c1 i gb
          have ab2 := zcb.c2 i gb
          have ab3 := zcb.c3 i gb
          generalize kb i = zb at qb ab0 ab1 ab2 ab3
          replace qb := hidden qb
          obtain ⟨ob0, xb0⟩ : ∃ q, wF.cell? ⟨w.heap.size + 1 + 1 + 1, i * 4, none⟩ = some q := ⟨_, by have := wFS.out.y.r.c0 i hi; rw [Nat.zero_add] at this; exact this⟩
          have mb0 := wFS.out.y.fr (i * 4) (by omega)
          obtain ⟨ob1, xb1⟩ : ∃ q, wF.cell? ⟨w.heap.size + 1 + 1 + 1, i * 4 + 1, none⟩ = some q := ⟨_, by have := wFS.out.y.r.c1 i hi; rw [Nat.zero_add] at this; exact this⟩
          have mb1 := wFS.out.y.fr (i * 4 + 1) (by omega)
          obtain ⟨ob2, xb2⟩ : ∃ q, wF.cell? ⟨w.heap.size + 1 + 1 + 1, i * 4 + 2, none⟩ = some q := ⟨_, by have := wFS.out.y.r.c2 i hi; rw [Nat.zero_add] at this; exact this⟩
          have mb2 := wFS.out.y.fr (i * 4 + 2) (by omega)
          obtain ⟨ob3, xb3⟩ : ∃ q, wF.cell? ⟨w.heap.size + 1 + 1 + 1, i * 4 + 3, none⟩ = some q := ⟨_, by have := wFS.out.y.r.c3 i hi; rw [Nat.zero_add] at this; exact this⟩
          have mb3 := wFS.out.y.fr (i * 4 + 3) (by omega)
          have wGS := hidden (show ST w w4 ((((wF.setCell ⟨w.heap.size + 1 + 1 + 1, i * 4, none⟩ (.int .u64 zb.x0)).setCell ⟨w.heap.size + 1 + 1 + 1, i * 4 + 1, none⟩ (.int .u64 zb.x1)).setCell ⟨w.heap.size + 1 + 1 + 1, i * 4 + 2, none⟩ (.int .u64 zb.x2)).setCell ⟨w.heap.size + 1 + 1 + 1, i * 4 + 3, none⟩ (.int .u64 zb.x3)) n i (i + 1) (i + 1) (atE La ka) (atE Lb kb) v4 b' s from wFS.out.sety hi qb.out)
          clear rb eb zcb
          go_upto_region 17 with fail
          generalize ((((wF.setCell ⟨w.heap.size + 1 + 1 + 1, i * 4, none⟩ (.int .u64 zb.x0)).setCell ⟨w.heap.size + 1 + 1 + 1, i * 4 + 1, none⟩ (.int .u64 zb.x1)).setCell ⟨w.heap.size + 1 + 1 + 1, i * 4 + 2, none⟩ (.int .u64 zb.x2)).setCell ⟨w.heap.size + 1 + 1 + 1, i * 4 + 3, none⟩ (.int .u64 zb.x3)) = wG at *
          clear ab0 xb0 mb0 ab1 xb1 mb1 ab2 xb2 mb2 ab3 xb3 mb3 qb
          have BG := show Below w.heap.size w wG from below_trans HB4.out.1 (below_less wGS.out.bl (by omega))
          obtain ⟨ca0, ca1, ca2, ca3⟩ := wGS.out.at1 hi
          obtain ⟨cb0, cb1, cb2, cb3⟩ := wGS.out.at2 hi
          cases s with
          | true =>
            refine sl17t _ (w.heap.size + 1 + 1) (w.heap.size + 1 + 1 + 1) n i (atE La ka i) (atE Lb kb i) ((lst (atE La ka i).n).same (lst (atE Lb kb i).n)) _ _ _ _ _ _ _ _ _ _ _ _ _ _ _ _ _ _ _ _ _ _ _ _ _ _ _ _ _ _ _ _ _ _ _ _ _ _ _ _ _ _ _ _ _ _ _ _ _ _ _ _ _ _ _ _ _ _ _ _ _ _ _ _ _ _ _ _ _ _ _ _ _ _ _ _ _ _ _ _ _ _ _ _ _ _ _ _ _ _ _ _ _ _ _ _ _ _ _ _ _ _ _ _ _ _ _ _ _ _ _ _ wG i0' i1 ca0 ca1 ca2 ca3 cb0 cb1 cb2 cb3 (hidden (fun x hx => Same_any (atE La ka i) (atE Lb kb i) x (HT.out.keep (bl_trans BG hx)) (atE_ok HO.out.1 i) (atE_ok HO.out.2.1 i))) (hidden ?_)
            intro wz hz
            have SN := hidden (wGS.out.next hz (s_next_t wGS.out.s))
            clear ca0 ca1 ca2 ca3 cb0 cb1 cb2 cb3 BG
            go_wp2_with fail
            go_roundw
            case rel => exact ⟨i + 1, b', _, by omega, rfl, by go_num, SN⟩
            case measure => simp [intOf]; omega
          | false =>
            refine sl17f _ (w.heap.size + 1 + 1) (w.heap.size + 1 + 1 + 1) n i _ _ _ _ _ _ _ _ _ _ _ _ _ _ _ _ _ _ _ _ _ _ _ _ _ _ _ _ _ _ _ _ _ _ _ _ _ _ _ _ _ _ _ _ _ _ _ _ _ _ _ _ _ _ _ _ _ _ _ _ _ _ _ _ _ _ _ _ _ _ _ _ _ _ _ _ _ _ _ _ _ _ _ _ _ _ _ _ _ _ _ _ _ _ _ _ _ _ _ _ _ _ _ _ _ _ _ _ _ _ _ _ wG (hidden ?_)
            intro wz hz
            have SN := hidden (wGS.out.next hz (s_next_f wGS.out.s))
            clear ca0 ca1 ca2 ca3 cb0 cb1 cb2 cb3 BG
            go_wp2_with fail
            go_roundw
            case rel => exact ⟨i + 1, b', _, by omega, rfl, by go_num, SN⟩
            case measure => simp [intOf]; omega
        · have lb : ¬ (i : Int) < (Lb : Int) := by omega
          have wGS := hidden (show ST w w4 wF n i (i + 1) (i + 1) (atE La ka) (atE Lb kb) v4 b' s from wFS.out.stayy (atE_out gb))
          go_upto_region 17 with fail
          have BG := show Below w.heap.size w wF from below_trans HB4.out.1 (below_less wGS.out.bl (by omega))
          obtain ⟨ca0, ca1, ca2, ca3⟩ := wGS.out.at1 hi
          obtain ⟨cb0, cb1, cb2, cb3⟩ := wGS.out.at2 hi
          cases s with
          | true =>
            refine sl17t _ (w.heap.size + 1 + 1) (w.heap.size + 1 + 1 + 1) n i (atE La ka i) (atE Lb kb i) ((lst (atE La ka i).n).same (lst (atE Lb kb i).n)) _ _ _ _ _ _ _ _ _ _ _ _ _ _ _ _ _ _ _ _ _ _ _ _ _ _ _ _ _ _ _ _ _ _ _ _ _ _ _ _ _ _ _ _ _ _ _ _ _ _ _ _ _ _ _ _ _ _ _ _ _ _ _ _ _ _ _ _ _ _ _ _ _ _ _ _ _ _ _ _ _ _ _ _ _ _ _ _ _ _ _ _ _ _ _ _ _ _ _ _ _ _ _ _ _ _ _ _ _ _ _ _ wF i0' i1 ca0 ca1 ca2 ca3 cb0 cb1 cb2 cb3 (hidden (fun x hx => Same_any (atE La ka i) (atE Lb kb i) x (HT.out.keep (bl_trans BG hx)) (atE_ok HO.out.1 i) (atE_ok HO.out.2.1 i))) (hidden ?_)
            intro wz hz
            have SN := hidden (wGS.out.next hz (s_next_t wGS.out.s))
            clear ca0 ca1 ca2 ca3 cb0 cb1 cb2 cb3 BG
            go_wp2_with fail
            go_roundw
            case rel => exact ⟨i + 1, b', _, by omega, rfl, by go_num, SN⟩
            case measure => simp [intOf]; omega
          | false =>
            refine sl17f _ (w.heap.size + 1 + 1) (w.heap.size + 1 + 1 + 1) n i _ _ _ _ _ _ _ _ _ _ _ _ _ _ _ _ _ _ _ _ _ _ _ _ _ _ _ _ _ _ _ _ _ _ _ _ _ _ _ _ _ _ _ _ _ _ _ _ _ _ _ _ _ _ _ _ _ _ _ _ _ _ _ _ _ _ _ _ _ _ _ _ _ _ _ _ _ _ _ _ _ _ _ _ _ _ _ _ _ _ _ _ _ _ _ _ _ _ _ _ _ _ _ _ _ _ _ _ _ _ _ _ wF (hidden ?_)
            intro wz hz
            have SN := hidden (wGS.out.next hz (s_next_f wGS.out.s))
            clear ca0 ca1 ca2 ca3 cb0 cb1 cb2 cb3 BG
            go_wp2_with fail
            go_roundw
            case rel => exact ⟨i + 1, b', _, by omega, rfl, by go_num, SN⟩
            case measure => simp [intOf]; omega
      · have la : ¬ (i : Int) < (La : Int) := by omega
        have wFS := hidden (show ST w w4 wE n i (i + 1) i (atE La ka) (atE Lb kb) v4 b' s from US.out.stayx (atE_out ga))
        go_upto_region 15 with fail
        have BF := hidden (show Below w.heap.size w wE from below_trans HB4.out.1 (below_less wFS.out.bl (by omega)))
        by_cases gb : i < Lb
        · obtain ⟨sbb, sob, eb, rb⟩ := HA.out.2.1.keep BF.out
          obtain rfl := eb (by omega)
          have lb : (i : Int) < (Lb : Int) := by omega
          have qb := atE_in (k := kb) gb
          have zcb := rb (by omega)
          have ab0 := zcb.c0 i gb
          have ab1 := zcb.c1 i gb
          have ab2 := zcb.c2 i gb
          have ab3 := zcb.c3 i gb
          generalize kb i = zb at qb ab0 ab1 ab2 ab3
          replace qb := hidden qb
          obtain ⟨ob0, xb0⟩ : ∃ q, wE.cell? ⟨w.heap.size + 1 + 1 + 1, i * 4, none⟩ = some q := ⟨_, by have := wFS.out.y.r.c0 i hi; rw [Nat.zero_add] at this; exact this⟩
          have mb0 := wFS.out.y.fr (i * 4) (by omega)
          obtain ⟨ob1, xb1⟩ : ∃ q, wE.cell? ⟨w.heap.size + 1 + 1 + 1, i * 4 + 1, none⟩ = some q := ⟨_, by have := wFS.out.y.r.c1 i hi; rw [Nat.zero_add] at this; exact this⟩
          have mb1 := wFS.out.y.fr (i * 4 + 1) (by omega)
          obtain ⟨ob2, xb2⟩ : ∃ q, wE.cell? ⟨w.heap.size + 1 + 1 + 1, i * 4 + 2, none⟩ = some q := ⟨_, by have := wFS.out.y.r.c2 i hi; rw [Nat.zero_add] at this; exact this⟩
          have mb2 := wFS.out.y.fr (i * 4 + 2) (by omega)
          obtain ⟨ob3, xb3⟩ : ∃ q, wE.cell? ⟨w.heap.size + 1 + 1 + 1, i * 4 + 3, none⟩ = some q := ⟨_, by have := wFS.out.y.r.c3 i hi; rw [Nat.zero_add] at this; exact this⟩
          have mb3 := wFS.out.y.fr (i * 4 + 3) (by omega)
          have wGS := hidden (show ST w w4 ((((wE.setCell ⟨w.heap.size + 1 + 1 + 1, i * 4, none⟩ (.int .u64 zb.x0)).setCell ⟨w.heap.size + 1 + 1 + 1, i * 4 + 1, none⟩ (.int .u64 zb.x1)).setCell ⟨w.heap.size + 1 + 1 + 1, i * 4 + 2, none⟩ (.int .u64 zb.x2)).setCell ⟨w.heap.size + 1 + 1 + 1, i * 4 + 3, none⟩ (.int .u64 zb.x3)) n i (i + 1) (i + 1) (atE La ka) (atE Lb kb) v4 b' s from wFS.out.sety hi qb.out)
          clear rb eb zcb
          go_upto_region 17 with fail
          generalize ((((wE.setCell ⟨w.heap.size + 1 + 1 + 1, i * 4, none⟩ (.int .u64 zb.x0)).setCell ⟨w.heap.size + 1 + 1 + 1, i * 4 + 1, none⟩ (.int .u64 zb.x1)).setCell ⟨w.heap.size + 1 + 1 + 1, i * 4 + 2, none⟩ (.int .u64 zb.x2)).setCell ⟨w.heap.size + 1 + 1 + 1, i * 4 + 3, none⟩ (.int .u64 zb.x3)) = wG at *
          clear ab0 xb0 mb0 ab1 xb1 mb1 ab2 xb2 mb2 ab3 xb3 mb3 qb
          have BG := show Below w.heap.size w wG from below_trans HB4.out.1 (below_less wGS.out.bl (by omega))
          obtain ⟨ca0, ca1, ca2, ca3⟩ := wGS.out.at1 hi
          obtain ⟨cb0, cb1, cb2, cb3⟩ := wGS.out.at2 hi
          cases s with
          | true =>
            refine sl17t _ (w.heap.size + 1 + 1) (w.heap.size + 1 + 1 + 1) n i (atE La ka i) (atE Lb kb i) ((lst (atE La ka i).n).same (lst (atE Lb kb i).n)) _ _ _ _ _ _ _ _ _ _ _ _ _ _ _ _ _ _ _ _ _ _ _ _ _ _ _ _ _ _ _ _ _ _ _ _ _ _ _ _ _ _ _ _ _ _ _ _ _ _ _ _ _ _ _ _ _ _ _ _ _ _ _ _ _ _ _ _ _ _ _ _ _ _ _ _ _ _ _ _ _ _ _ _ _ _ _ _ _ _ _ _ _ _ _ _ _ _ _ _ _ _ _ _ _ _ _ _ _ _ _ _ wG i0' i1 ca0 ca1 ca2 ca3 cb0 cb1 cb2 cb3 (hidden (fun x hx => Same_any (atE La ka i) (atE Lb kb i) x (HT.out.keep (bl_trans BG hx)) (atE_ok HO.out.1 i) (atE_ok HO.out.2.1 i))) (hidden ?_)
            intro wz hz
            have SN := hidden (wGS.out.next hz (s_next_t wGS.out.s))
            clear ca0 ca1 ca2 ca3 cb0 cb1 cb2 cb3 BG
            go_wp2_with fail
            go_roundw
            case rel => exact ⟨i + 1, b', _, by omega, rfl, by go_num, SN⟩
            case measure => simp [intOf]; omega
          | false =>
            refine sl17f _ (w.heap.size + 1 + 1) (w.heap.size + 1 + 1 + 1) n i _ _ _ _ _ _ _ _ _ _ _ _ _ _ _ _ _ _ _ _ _ _ _ _ _ _ _ _ _ _ _ _ _ _ _ _ _ _ _ _ _ _ _ _ _ _ _ _ _ _ _ _ _ _ _ _ _ _ _ _ _ _ _ _ _ _ _ _ _ _ _ _ _ _ _ _ _ _ _ _ _ _ _ _ _ _ _ _ _ _ _ _ _ _ _ _ _ _ _ _ _ _ _ _ _ _ _ _ _ _ _ _ wG (hidden ?_)
            intro wz hz
            have SN := hidden (wGS.out.next hz (s_next_f wGS.out.s))
            clear ca0 ca1 ca2 ca3 cb0 cb1 cb2 cb3 BG
            go_wp2_with fail
            go_roundw
            case rel => exact ⟨i + 1, b', _, by omega, rfl, by go_num, SN⟩
            case measure => simp [intOf]; omega
        · have lb : ¬ (i : Int) < (Lb : Int) := by omega
          have wGS := hidden (show ST w w4 wE n i (i + 1) (i + 1) (atE La ka) (atE Lb kb) v4 b' s from wFS.out.stayy (atE_out gb))
          go_upto_region 17 with fail
          have BG := show Below w.heap.size w wE from below_trans HB4.out.1 (below_less wGS.out.bl (by omega))
          obtain ⟨ca0, ca1, ca2, ca3⟩ := wGS.out.at1 hi
          obtain ⟨cb0, cb1, cb2, cb3⟩ := wGS.out.at2 hi
          cases s with
          | true =>
            refine sl17t _ (w.heap.size + 1 + 1) (w.heap.size + 1 + 1 + 1) n i (atE La ka i) (atE Lb kb i) ((lst (atE La ka i).n).same (lst (atE Lb kb i).n)) _ _ _ _ _ _ _ _ _ _ _ _ _ _ _ _ _ _ _ _ _ _ _ _ _ _ _ _ _ _ _ _ _ _ _ _ _ _ _ _ _ _ _ _ _ _ _ _ _ _ _ _ _ _ _ _ _ _ _ _ _ _ _ _ _ _ _ _ _ _ _ _ _ _ _ _ _ _ _ _ _ _ _ _ _ _ _ _ _ _ _ _ _ _ _ _ _ _ _ _ _ _ _ _ _ _ _ _ _ _ _ _ wE i0' i1 ca0 ca1 ca2 ca3 cb0 cb1 cb2 cb3 (hidden (fun x hx => Same_any (atE La ka i) (atE Lb kb i) x (HT.out.keep (bl_trans BG hx)) (atE_ok HO.out.1 i) (atE_ok HO.out.2.1 i))) (hidden ?_)
            intro wz hz
            have SN := hidden (wGS.out.next hz (s_next_t wGS.out.s))
            clear ca0 ca1 ca2 ca3 cb0 cb1 cb2 cb3 BG
            go_wp2_with fail
            go_roundw
            case rel => exact ⟨i + 1, b', _, by omega, rfl, by go_num, SN⟩
            case measure => simp [intOf]; omega
          | false =>
            refine sl17f _ (w.heap.size + 1 + 1) (w.heap.size + 1 + 1 + 1) n i _ _ _ _ _ _ _ _ _ _ _ _ _ _ _ _ _ _ _ _ _ _ _ _ _ _ _ _ _ _ _ _ _ _ _ _ _ _ _ _ _ _ _ _ _ _ _ _ _ _ _ _ _ _ _ _ _ _ _ _ _ _ _ _ _ _ _ _ _ _ _ _ _ _ _ _ _ _ _ _ _ _ _ _ _ _ _ _ _ _ _ _ _ _ _ _ _ _ _ _ _ _ _ _ _ _ _ _ _ _ _ _ wE (hidden ?_)
            intro wz hz
            have SN := hidden (wGS.out.next hz (s_next_f wGS.out.s))
            clear ca0 ca1 ca2 ca3 cb0 cb1 cb2 cb3 BG
            go_wp2_with fail
            go_roundw
            case rel => exact ⟨i + 1, b', _, by omega, rfl, by go_num, SN⟩
            case measure => simp [intOf]; omega
    · have en : n = i := by omega
      subst en
      obtain ⟨g, c, rfl⟩ : ∃ g c : Nat, u13 = .slice (some ⟨g, 0, none⟩) n c := by
        rcases hI.out.row.2 with ⟨h0, h1⟩ | ⟨g, cap, cur, h1, -⟩
        · omega
        · exact ⟨g, cap, h1⟩
      have nl : ¬ (n : Int) < (n : Int) := by omega
      have HZ := hidden (hI.out.last (Pl := Pl) (Ll := Ll) (cl := cl) (ch := ch) n1 HB4.out.1 KC.out.1 KC.out.2.1 KC.out.2.2.1 KC.out.2.2.2 KK.out.1 KK.out.2.1)
      have HSS := hidden hI.out.s
      have b1h : w.heap.size + 1 < wr.heap.size := by have := hI.out.sz; omega
      have kk0 := (hI.out.bl.cell (p := ⟨w.heap.size + 1, 0, none⟩) (by show w.heap.size + 1 < w.heap.size + 1 + 1; omega)).trans KK.out.1
      have kk1 := (hI.out.bl.cell (p := ⟨w.heap.size + 1, 1, none⟩) (by show w.heap.size + 1 < w.heap.size + 1 + 1; omega)).trans KK.out.2.1
      have ff0 := (hI.out.bl.frozen (p := ⟨w.heap.size + 1, 0, none⟩) (by show w.heap.size + 1 < w.heap.size + 1 + 1; omega)).trans KK.out.2.2.1
      have ff1 := (hI.out.bl.frozen (p := ⟨w.heap.size + 1, 1, none⟩) (by show w.heap.size + 1 < w.heap.size + 1 + 1; omega)).trans KK.out.2.2.2
      have HP := hidden (And.intro (atE_ok HO.out.1) (atE_ok HO.out.2.1))
      generalize atE La ka = p1 at *
      generalize atE Lb kb = p2 at *
      have kk2 : (mk1 wr (w.heap.size + 1) 0 (.cells #[.slice (some ⟨g, 0, none⟩) n c] 27) (.slice (some ⟨wr.heap.size, 0, none⟩) 1 1)).cell? ⟨w.heap.size + 1, 1, none⟩ = some (.slice none 0 0) := mk1_off (by omega) kk1
      have ff2 : (mk1 wr (w.heap.size + 1) 0 (.cells #[.slice (some ⟨g, 0, none⟩) n c] 27) (.slice (some ⟨wr.heap.size, 0, none⟩) 1 1)).frozen? ⟨w.heap.size + 1, 1, none⟩ = false := mk1_fr b1h ff1
      have b2h : w.heap.size + 1 < (mk1 wr (w.heap.size + 1) 0 (.cells #[.slice (some ⟨g, 0, none⟩) n c] 27) (.slice (some ⟨wr.heap.size, 0, none⟩) 1 1)).heap.size := by rw [mk1_size]; omega
      unfold mk1 at HZ kk2 ff2 b2h
      clear hI KC KK kk1 ff1
      go_upto_region 19 with fail
      clear kk0 ff0 b1h nl
      generalize ((wr.setCell ⟨w.heap.size + 1, 0, none⟩ (.slice (some ⟨wr.heap.size, 0, none⟩) 1 1)).alloc (.cells #[.slice (some ⟨g, 0, none⟩) n c] 27)) = w5 at *
      go_upto_region 20 with fail
      clear kk2 ff2 b2h
      generalize ((w5.setCell ⟨w.heap.size + 1, 1, none⟩ (.slice (some ⟨w5.heap.size, 0, none⟩) 1 1)).alloc (.cells #[.slice Pl Ll cl] 32)) = W at *
      generalize w5.heap.size = I at *
      generalize wr.heap.size = R at *
      have CS := hidden (fun x (hx : Below W.heap.size W x) => simulate_any R I g n 1 1 c n (some ⟨w.heap.size + 1 + 1, 0, none⟩) Pl Ll cl ch p1 (fun q => some ⟨b q, 0, none⟩) (fun q => q + 1) (fun q => q + 1) unS (fun t => (atE Ll kl t).n) x (by omega) (by omega) (HT.out.keep (bl_trans HZ.out.bl hx)) HC.out ⟨w.heap.size + 1 + 1, 0, fun _ => rfl, fun _ => (HZ.out.keep hx).x⟩ (fun i _ => HP.out.1 i) (HZ.out.keep hx).r (fun q hq => ⟨(HZ.out.keep hx).g q hq, fr_unit ((HZ.out.keep hx).u q hq) (by omega)⟩) (HZ.out.keep hx).im (fr_list (HA.out.2.2.keep (bl_trans HZ.out.bl hx)) HO.out.2.2 HL.out))
      have CA := hidden (fun x (hx : Below W.heap.size W x) => Li.alive_any x (HT.out.keep (bl_trans HZ.out.bl hx)))
      have C1 := hidden (fun x (hx : Below W.heap.size W x) (D A m c2 : Nat) (cD : x.cell? ⟨D, 0, none⟩ = some (.slice (some ⟨A, 0, none⟩) m c2)) (fD : Fl x (.agg #[.slice (some ⟨A, 0, none⟩) m c2]) (fun t => tot (fun q => (p1 q).n * unS q t) n + -ch.n * (atE Ll kl t).n)) => accepts_F R I g n 1 1 c n (some ⟨w.heap.size + 1 + 1, 0, none⟩) Pl Ll cl ch p1 (fun q => some ⟨b q, 0, none⟩) (fun q => q + 1) (fun q => q + 1) unS (fun t => (atE Ll kl t).n) D 1 (some ⟨A, 0, none⟩) m c2 _ true x (by omega) (by omega) (HT.out.keep (bl_trans HZ.out.bl hx)) HC.out ⟨w.heap.size + 1 + 1, 0, fun _ => rfl, fun _ => (HZ.out.keep hx).x⟩ (fun i _ => HP.out.1 i) (HZ.out.keep hx).r (fun q hq => ⟨(HZ.out.keep hx).g q hq, fr_unit ((HZ.out.keep hx).u q hq) (by omega)⟩) (HZ.out.keep hx).im (fr_list (HA.out.2.2.keep (bl_trans HZ.out.bl hx)) HO.out.2.2 HL.out) cD fD.fr ⟨fun _ _ => rfl, fun _ => rfl⟩)
      have C2 := hidden (fun x (hx : Below W.heap.size W x) (D A m c2 : Nat) (cD : x.cell? ⟨D, 0, none⟩ = some (.slice (some ⟨A, 0, none⟩) m c2)) (fD : Fl x (.agg #[.slice (some ⟨A, 0, none⟩) m c2]) (fun t => tot (fun q => (p1 q).n * unS q t) n + -ch.n * (atE Ll kl t).n)) => accepts_F R I g n 1 1 c n (some ⟨w.heap.size + 1 + 1 + 1, 0, none⟩) Pl Ll cl ch p2 (fun q => some ⟨b q, 0, none⟩) (fun q => q + 1) (fun q => q + 1) unS (fun t => (atE Ll kl t).n) D 1 (some ⟨A, 0, none⟩) m c2 _ s x (by omega) (by omega) (HT.out.keep (bl_trans HZ.out.bl hx)) HC.out ⟨w.heap.size + 1 + 1 + 1, 0, fun _ => rfl, fun _ => (HZ.out.keep hx).y⟩ (fun i _ => HP.out.2 i) (HZ.out.keep hx).r (fun q hq => ⟨(HZ.out.keep hx).g q hq, fr_unit ((HZ.out.keep hx).u q hq) (by omega)⟩) (HZ.out.keep hx).im (fr_list (HA.out.2.2.keep (bl_trans HZ.out.bl hx)) HO.out.2.2 HL.out) cD fD.fr (sole_iff HSS.out))
      have B0 := hidden (Below.refl W.heap.size W)
      have hc0 := HZ.out.c0; have hc1 := HZ.out.c1; have hc2 := HZ.out.c2; have hc3 := HZ.out.c3; have hk0 := HZ.out.k0; have hk1 := HZ.out.k1
      simp only [if_pos] at C1
      go_upto_region 21 with (first
        | (go_at_call 6; refine (CS.out _ B0.out).mono ?_; rintro e wa ⟨D, A, m2, c2, rfl, hD, cD, fD, ha⟩; have BA := hidden (bl_trans B0.out ha); have HD := hidden (And.intro cD fD); clear hD cD fD ha CS B0))
      clear hc0 hc1 hc2 hc3 hk0 hk1
      have ZA := HZ.out.keep BA.out
      have HDA := HD.out
      have hc0 := ZA.c0; have hc1 := ZA.c1; have hc2 := ZA.c2; have hc3 := ZA.c3; have hk0 := ZA.k0; have hk1 := ZA.k1
      clear ZA HDA
      go_upto_region 23 with (first
        | (go_at_call 7; refine (CA.out _ BA.out).mono ?_; rintro e wb ⟨rfl, hb⟩; have BB := hidden (bl_trans BA.out hb); have HB := hidden hb; clear hb CA hc0 hc1 hc2 hc3 hk0 hk1; have ZB := HZ.out.keep BB.out; have hc0 := ZB.c0; have hc1 := ZB.c1; have hc2 := ZB.c2; have hc3 := ZB.c3; have hk0 := ZB.k0; have hk1 := ZB.k1; clear ZB)
        | (go_at_call 8; refine (C1.out _ BB.out D A m2 c2 (cell_keep HD.out.1 HB.out) (HD.out.2.keep HB.out)).mono ?_; rintro e wc ⟨rfl, hc⟩; have BC := hidden (bl_trans BB.out hc); have HCC := hidden (bl_trans HB.out hc); clear hc C1 hc0 hc1 hc2 hc3 hk0 hk1; have ZB := HZ.out.keep BC.out; have hc0 := ZB.c0; have hc1 := ZB.c1; have hc2 := ZB.c2; have hc3 := ZB.c3; have hk0 := ZB.k0; have hk1 := ZB.k1; clear ZB))
      have BW := HZ.out.bl
      cases s with
      | true =>
        simp only [if_pos] at C2
        go_wp2_with (first | (go_at_call 8; refine (C2.out _ BC.out D A m2 c2 (cell_keep HD.out.1 HCC.out) (HD.out.2.keep HCC.out)).mono ?_; rintro e wd ⟨rfl, hd⟩; have BD := bl_trans BW (bl_trans BC.out hd); clear hd C2))
        refine bodyPost_ret (v := .bool true) (by simp [results, Tryz.results3, go_sem]) rfl ⟨rfl, BD⟩
      | false =>
        simp only [Bool.false_eq_true, if_false] at C2
        go_wp2_with (first | (go_at_call 8; refine (C2.out _ BC.out D A m2 c2 (cell_keep HD.out.1 HCC.out) (HD.out.2.keep HCC.out)).mono ?_; rintro e wd ⟨rfl, hd⟩; have BD := bl_trans BW (bl_trans BC.out hd); clear hd C2))
        refine bodyPost_ret (v := .bool true) (by simp [results, Tryz.results3, go_sem]) rfl ⟨rfl, BD⟩
end Go.Proofs.YtapieajkmpnmoaaGreatDoor
