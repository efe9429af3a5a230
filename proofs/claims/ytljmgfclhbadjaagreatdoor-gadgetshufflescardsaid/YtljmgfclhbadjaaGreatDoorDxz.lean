import Derived.Test.YtljmgfclhbadjaaGreatDoorDwz
import Derived.Test.YtljmgfclhbadjaaGreatDoorDuz
import Derived.Test.YtljmgfclhbadjaaGreatDoorDjz
import Derived.Test.YtljmgfclhbadjaaGreatDoorRx
import Derived.Test.YtljmgfclhbadjaaGreatDoorTk
namespace Go.Proofs.YtljmgfclhbadjaaGreatDoor
open Go.RowKit
set_option linter.unusedVariables false
set_option linter.unusedSimpArgs false
open Cm (Wr Tm co bf Ls lf ins Eqm)
namespace Ci
set_option maxRecDepth 100000
set_option maxHeartbeats 4000000
def tp (f : Nat → Int) : Nat → Int
 | 0 => 1
 | n + 1 => tp f n * f n
theorem md_mulc {L a b c d : Int} (h1 : (a - b) % L = 0) (h2 : (c - d) % L = 0) : (a * c - b * d) % L = 0 := by
 refine md_to ?_
 rw [Int.mul_emod, md_of h1, md_of h2, ← Int.mul_emod]
theorem tp_congr {L : Int} {f g : Nat → Int} : ∀ n, (∀ j, j < n → (f j - g j) % L = 0) → (tp f n - tp g n) % L = 0
 | 0, _ => by show ((1 : Int) - 1) % L = 0; simp
 | n + 1, h => md_mulc (tp_congr n (fun j hj => h j (by omega))) (h n (by omega))
section
variable {m : Nat} {p : Pz}
theorem Gd.prs (h : Gd m p) (T : Nat → List Tm) : ∀ i, (∀ j, j ≤ i → ∀ z ∈ T j, hs m p.K z.1 = true) → Gd m (pPr m p T i) ∧ (∀ q, hs m p.K q = true → gv (pPr m p T i).G q = gv p.G q) ∧ (vl (gv (pPr m p T i).G) (cuX p T i) - tp (fun j => vl (gv p.G) (T j)) (i + 1)) % Sm.L = 0
 | 0, hT => ⟨h, fun q hq => rfl, by show (vl (gv p.G) (T 0) - 1 * vl (gv p.G) (T 0)) % Sm.L = 0; rw [Int.one_mul, Int.sub_self]; rfl⟩
 | i + 1, hT => by
  obtain ⟨g1, g2, g3⟩ := Gd.prs h T i (fun j hj => hT j (by omega))
  have hc : ∀ z ∈ cuX p T i, hs m (pPr m p T i).K z.1 = true := by rw [pPr_K]; exact cuX_hs (hT 0 (by omega)) i
  have ht : ∀ z ∈ T (i + 1), hs m (pPr m p T i).K z.1 = true := by rw [pPr_K]; exact fun z hz => hs_mono (hT (i + 1) (by omega) z hz) (by omega)
  obtain ⟨k1, k2⟩ := g1.mul hc ht
  refine ⟨k1, fun q hq => ?_, ?_⟩
  ·exact (gv_up g1.ln _ _ (by rw [pPr_K]; exact hs_mono hq (by omega))).trans (g2 q hq)
  ·have e1 : vl (gv (pPr m p T i).G) (T (i + 1)) = vl (gv p.G) (T (i + 1)) := vl_congr (fun z hz => g2 _ (hT (i + 1) (by omega) z hz))
   rw [pPr_K] at k2
   have k3 := md_add k2 (md_mulc g3 (show (vl (gv p.G) (T (i + 1)) - vl (gv p.G) (T (i + 1))) % Sm.L = 0 by rw [Int.sub_self]; rfl))
   rw [e1] at k3
   rwa [show ∀ a b c : Int, a + b - (b + c) = a - c by intro a b c; omega] at k3
theorem vl_ad (g : Wr → Int) (X Y : List Tm) : (vl g (adX X Y) - (vl g X + vl g Y)) % Sm.L = 0 := by
 refine md_to (Eq.trans (lf_vl _) (md_of ?_))
 rw [vl_app]
 exact md_add (vl_glL g X) (vl_glL g Y)
theorem vl_sb (g : Wr → Int) (X Y : List Tm) : (vl g (sbX X Y) - (vl g X - vl g Y)) % Sm.L = 0 := by
 refine md_to (Eq.trans (lf_vl _) (md_of ?_))
 rw [vl_app, show vl g X - vl g Y = vl g X + -vl g Y by omega]
 exact md_add (vl_glL g X) (vl_glN g Y)
theorem gv_one (G : Nat → List E4) : gv G (1, 0) = 1 := by
 show (lst 1).n = 1
 rw [one_is]
 rfl
theorem vl_cn (G : Nat → List E4) (z : E4) : (vl (gv G) (cnX z) - z.n) % Sm.L = 0 := by
 refine md_to (Eq.trans (lf_vl _) (md_of ?_))
 have e : vl (gv G) (glM z 1 oneT) = z.n * (oneT 0).a.n * gv G (oneT 0).q + 0 := rfl
 have e1 : (oneT 0).a.n = 1 := by
  first
   | rfl
   | (show (lst 1).n = 1; rw [one_is]; rfl)
 have e2 : (oneT 0).q = (1, 0) := rfl
 rw [e, e1, e2, gv_one, Int.mul_one, Int.mul_one, Int.add_zero, Int.sub_self]
 rfl
theorem Gd.sh (h : Gd m p) (C : List Tm) (X : Nat → List Tm) (n : Nat) (hn : 1 ≤ n) (hC : ∀ z ∈ C, hs m p.K z.1 = true) (hX : ∀ j, j < n + n → ∀ z ∈ X j, hs m p.K z.1 = true) (r : Int) (A B : Nat → Int) (hA : ∀ j, j < n → (vl (gv p.G) C + vl (gv p.G) (X j) - (A j - r)) % Sm.L = 0) (hB : ∀ j, j < n → (vl (gv p.G) C + vl (gv p.G) (X (n + j)) - (B j - r)) % Sm.L = 0) :
  hoE (rG (pSh m p C X n).G 0) (rG (pSh m p C X n).G 1) (rG (pSh m p C X n).G 2) (rG (pSh m p C X n).G 3) m (pSh m p C X n).K (pSh m p C X n).Q = if (tp (fun j => A j - r) n - tp (fun j => B j - r) n) % Sm.L = 0 then 0 else 203 := by
 have t1 : ∀ j, j ≤ n - 1 → ∀ z ∈ adX C (X j), hs m p.K z.1 = true := fun j hj => hs_ad hC (hX j (by omega))
 obtain ⟨g1, g2, g3⟩ := h.prs (fun j => adX C (X j)) (n - 1) t1
 have t2 : ∀ j, j ≤ n - 1 → ∀ z ∈ adX C (X (n + j)), hs m (pSh1 m p C X n).K z.1 = true := fun j hj => by
  rw [pSh1_K]
  exact fun z hz => hs_mono (hs_ad hC (hX (n + j) (by omega)) z hz) (by omega)
 obtain ⟨k1, k2, k3⟩ := Gd.prs (show Gd m (pSh1 m p C X n) from g1) (fun j => adX C (X (n + j))) (n - 1) t2
 rw [Nat.sub_add_cancel hn] at g3 k3
 have e1 : vl (gv (pSh2 m p C X n).G) (cuX p (fun j => adX C (X j)) (n - 1)) = vl (gv (pSh1 m p C X n).G) (cuX p (fun j => adX C (X j)) (n - 1)) := vl_congr (fun z hz => k2 _ (by rw [pSh1_K]; exact cuX_hs (t1 0 (by omega)) _ z hz))
 have a1 : (tp (fun j => vl (gv p.G) (adX C (X j))) n - tp (fun j => A j - r) n) % Sm.L = 0 := tp_congr n (fun j hj => by
  have := md_add (vl_ad (gv p.G) C (X j)) (hA j hj)
  rwa [show ∀ a b c : Int, a + b - (b + c) = a - c by intro a b c; omega] at this)
 have a2 : (tp (fun j => vl (gv (pSh1 m p C X n).G) (adX C (X (n + j)))) n - tp (fun j => B j - r) n) % Sm.L = 0 := tp_congr n (fun j hj => by
  have e2 : vl (gv (pSh1 m p C X n).G) (adX C (X (n + j))) = vl (gv p.G) (adX C (X (n + j))) := vl_congr (fun z hz => g2 _ (hs_ad hC (hX (n + j) (by omega)) z hz))
  rw [e2]
  have := md_add (vl_ad (gv p.G) C (X (n + j))) (hB j hj)
  rwa [show ∀ a b c : Int, a + b - (b + c) = a - c by intro a b c; omega] at this)
 have hv : (vl (gv (pSh2 m p C X n).G) (shX m p C X n) - (tp (fun j => A j - r) n - tp (fun j => B j - r) n)) % Sm.L = 0 := by
  have v1 := vl_sb (gv (pSh2 m p C X n).G) (cuX p (fun j => adX C (X j)) (n - 1)) (cuX (pSh1 m p C X n) (fun j => adX C (X (n + j))) (n - 1))
  rw [e1] at v1
  have v2 := md_add g3 a1
  have v3 := md_add k3 a2
  have v4 : (vl (gv (pSh1 m p C X n).G) (cuX p (fun j => adX C (X j)) (n - 1)) - tp (fun j => A j - r) n) % Sm.L = 0 := by
   rw [show ∀ a b c : Int, a + b - (b + c) = a - c by intro a b c; omega] at v2
   exact v2
  have v5 : (vl (gv (pSh2 m p C X n).G) (cuX (pSh1 m p C X n) (fun j => adX C (X (n + j))) (n - 1)) - tp (fun j => B j - r) n) % Sm.L = 0 := by
   rw [show ∀ a b c : Int, a + b - (b + c) = a - c by intro a b c; omega] at v3
   exact v3
  generalize vl (gv (pSh1 m p C X n).G) (cuX p (fun j => adX C (X j)) (n - 1)) = a at v1 v4
  generalize vl (gv (pSh2 m p C X n).G) (cuX (pSh1 m p C X n) (fun j => adX C (X (n + j))) (n - 1)) = b at v1 v5
  have v6 : (-b - -tp (fun j => B j - r) n) % Sm.L = 0 := by
   rw [show -b - -tp (fun j => B j - r) n = -(b - tp (fun j => B j - r) n) by omega]
   exact Int.emod_eq_zero_of_dvd (Int.dvd_neg.2 (Int.dvd_of_emod_eq_zero v5))
  have v7 := md_add v1 (md_add v4 v6)
  have e : ∀ u t1 t2 : Int, u + (a + -b) - (a - b + (t1 + -t2)) = u - (t1 - t2) := by intro u t1 t2; omega
  rw [e] at v7
  exact v7
 have hh := Gd.ho (show Gd m (pSh2 m p C X n) from k1) (shX m p C X n)
 rw [md_of hv] at hh
 exact hh
end
theorem tp_pr (a : Nat → Int) (r : Int) : ∀ n, tp (fun j => a j - r) n = Sh.pr ((List.range n).map a) r
 | 0 => rfl
 | n + 1 => by
  rw [List.range_succ, List.map_append, Sh.pr_app, ← tp_pr a r n]
  show tp _ n * (a n - r) = tp _ n * ((a n - r) * 1)
  rw [Int.mul_one]
def pz0 : Pz := ⟨0, [], fun _ => []⟩
theorem Gd.z0 : Gd 0 pz0 := ⟨fun j hj => rfl, rfl, fun k hk => absurd hk (Nat.not_lt_zero _), fun X hX => (by cases hX), fun X hX => (by cases hX)⟩
theorem shN (n : Nat) (hn : 1 ≤ n) (r : E4) (a b : Nat → E4) :
  hoE (rG (pSh 0 pz0 (cnX (lst (-r.n))) (bh n (fun j => cnX (a j)) (fun j => cnX (b j))) n).G 0) (rG (pSh 0 pz0 (cnX (lst (-r.n))) (bh n (fun j => cnX (a j)) (fun j => cnX (b j))) n).G 1) (rG (pSh 0 pz0 (cnX (lst (-r.n))) (bh n (fun j => cnX (a j)) (fun j => cnX (b j))) n).G 2) (rG (pSh 0 pz0 (cnX (lst (-r.n))) (bh n (fun j => cnX (a j)) (fun j => cnX (b j))) n).G 3) 0 (pSh 0 pz0 (cnX (lst (-r.n))) (bh n (fun j => cnX (a j)) (fun j => cnX (b j))) n).K (pSh 0 pz0 (cnX (lst (-r.n))) (bh n (fun j => cnX (a j)) (fun j => cnX (b j))) n).Q = if (Sh.pr ((List.range n).map fun j => (a j).n) r.n - Sh.pr ((List.range n).map fun j => (b j).n) r.n) % Sm.L = 0 then 0 else 203 := by
 have key : ∀ z : E4, (vl (gv pz0.G) (cnX (lst (-r.n))) + vl (gv pz0.G) (cnX z) - (z.n - r.n)) % Sm.L = 0 := fun z => by
  have h1 := vl_cn pz0.G (lst (-r.n))
  have h2 := vl_cn pz0.G z
  have h3 : ((lst (-r.n)).n - -r.n) % Sm.L = 0 := by rw [lst_n]; exact md_to (Int.emod_emod_of_dvd _ (Int.dvd_refl _))
  have h4 := md_add (md_add h1 h3) h2
  have e : ∀ u v w k s : Int, u + v + w - (v + k + s) = u + w - (s + k) := by intro u v w k s; omega
  rw [e] at h4
  exact h4
 rw [← tp_pr, ← tp_pr]
 refine Gd.sh Gd.z0 _ _ n hn (hs_cn _) (fun j hj => ?_) r.n (fun j => (a j).n) (fun j => (b j).n) (fun j hj => ?_) (fun j hj => ?_)
 ·by_cases e : j < n
  ·rw [bh_l e]; exact hs_cn _
  ·obtain ⟨k, rfl⟩ : ∃ k, j = n + k := ⟨j - n, by omega⟩
   rw [bh_r]; exact hs_cn _
 ·rw [bh_l hj]; exact key (a j)
 ·rw [bh_r]; exact key (b j)
end Ci
end Go.Proofs.YtljmgfclhbadjaaGreatDoor
namespace Go.Proofs.YtljmgfclhbadjaaGreatDoor
open Go.RowKit
set_option linter.unusedVariables false
set_option linter.unusedSimpArgs false
open Cm (Wr Tm co bf Ls lf ins Eqm)
namespace Ci
set_option maxRecDepth 100000
set_option maxHeartbeats 16000000
def lsG (g : Nat → E4) : Nat → E4 := fun k => lst (g k).n
structure Va (s : Sl) (x : World) (i : Nat) (a b : Value) (w : World) : Prop where
 bl : Below x.heap.size x w
 ra : w.ownsRow x.heap.size 53 4 a i (s4s i s.g)
 rb : w.ownsRow x.heap.size 27 4 b i (s4s i (lsG s.g))
def VaP (s : Sl) (x : World) (e : Ending) (w' : World) : Prop := ∃ a b, e = .returned (.tuple #[a, b]) ∧ Va s x s.n a b w'
theorem s4s_s (g : Nat → E4) (i : Nat) : s4s i g ++ [.int .u64 (g i).x0, .int .u64 (g i).x1, .int .u64 (g i).x2, .int .u64 (g i).x3] = s4s (i + 1) g := by rw [s4s_succ]
theorem wpL_apA {ops : Array Oper} {rest : List Oper} {o : Oper} {a : Act} {w : World} {Q : Exit → Act → World → Prop} (hgd : o.guard = none) (s x : Operand) (ho : o.op = .call { callee := .builtin .append, args := #[s, x], argTypes := #[41, 41] }) (base i : Nat) (v : Value) (g : Nat → E4) (hs : a.eval s = v) (hw : w.ownsRow base 53 4 v i (s4s i g)) (tb : Nat) (hx : a.eval x = .slice (some ⟨tb, 0, none⟩) 1 1) (hc : w.rangeAt tb 0 [.int .u64 (g i).x0, .int .u64 (g i).x1, .int .u64 (g i).x2, .int .u64 (g i).x3]) (hi : i + 1 ≤ 4398046511104) (hb : base ≤ w.heap.size)
  (h : ∀ v' w', w'.ownsRow base 53 4 v' (i + 1) (s4s (i + 1) g) → w.grownBy w' v.ownBlock → wpList Tryz.prog ops Q rest (a.put o.dst v') w') : wpList Tryz.prog ops Q (o :: rest) a w := by
 have HI : (Tryz.prog.info? 53) = some (Tryz.prog.info? 53).get! := by kernel_rfl
 refine wpList_append_own_at _ hgd s x 41 ho base 53 _ (.agg #[.int .u64 0, .int .u64 0, .int .u64 0, .int .u64 0]) 4 32 (by kernel_rfl) HI (by kernel_rfl) (by kernel_rfl) (by kernel_rfl) rfl (by decide) v i (s4s i g) hs hw ⟨tb, 0, none⟩ 1 1 [.int .u64 (g i).x0, .int .u64 (g i).x1, .int .u64 (g i).x2, .int .u64 (g i).x3] hx rfl (fun d u hu => by rw [Addr.add_mid]; exact hc d u hu) (by simp [Value.oneCell']) (by unfold maxLen; omega) (by omega) hb (fun v' w' k1 k2 _ _ => ?_)
 rw [s4s_s] at k1
 exact h v' w' k1 k2
theorem wpL_apB {ops : Array Oper} {rest : List Oper} {o : Oper} {a : Act} {w : World} {Q : Exit → Act → World → Prop} (hgd : o.guard = none) (s x : Operand) (ho : o.op = .call { callee := .builtin .append, args := #[s, x], argTypes := #[65, 65] }) (base i : Nat) (v : Value) (g : Nat → E4) (hs : a.eval s = v) (hw : w.ownsRow base 27 4 v i (s4s i g)) (tb : Nat) (hx : a.eval x = .slice (some ⟨tb, 0, none⟩) 1 1) (hc : w.rangeAt tb 0 [.int .u64 (g i).x0, .int .u64 (g i).x1, .int .u64 (g i).x2, .int .u64 (g i).x3]) (hi : i + 1 ≤ 4398046511104) (hb : base ≤ w.heap.size)
  (h : ∀ v' w', w'.ownsRow base 27 4 v' (i + 1) (s4s (i + 1) g) → w.grownBy w' v.ownBlock → wpList Tryz.prog ops Q rest (a.put o.dst v') w') : wpList Tryz.prog ops Q (o :: rest) a w := by
 have HI : (Tryz.prog.info? 27) = some (Tryz.prog.info? 27).get! := by kernel_rfl
 refine wpList_append_own_at _ hgd s x 65 ho base 27 _ (.agg #[.int .u64 0, .int .u64 0, .int .u64 0, .int .u64 0]) 4 32 (by kernel_rfl) HI (by kernel_rfl) (by kernel_rfl) (by kernel_rfl) rfl (by decide) v i (s4s i g) hs hw ⟨tb, 0, none⟩ 1 1 [.int .u64 (g i).x0, .int .u64 (g i).x1, .int .u64 (g i).x2, .int .u64 (g i).x3] hx rfl (fun d u hu => by rw [Addr.add_mid]; exact hc d u hu) (by simp [Value.oneCell']) (by unfold maxLen; omega) (by omega) hb (fun v' w' k1 k2 _ _ => ?_)
 rw [s4s_s] at k1
 exact h v' w' k1 k2
section
variable {s : Sl} {x w y : World} {i : Nat} {a b a' b' : Value}
theorem Va.keep (h : Va s x i a b w) (hb : Below w.heap.size w y) : Va s x i a b y := ⟨bl_trans h.bl hb, own_keepT h.ra hb, own_keepT h.rb hb⟩
end
end Ci
end Go.Proofs.YtljmgfclhbadjaaGreatDoor
namespace Go.Proofs.YtljmgfclhbadjaaGreatDoor
open Go.RowKit
set_option linter.unusedVariables false
set_option linter.unusedSimpArgs false
open Cm (Wr Tm co bf Ls lf ins Eqm)
namespace Ci
set_option maxRecDepth 100000
set_option maxHeartbeats 16000000
def upU (V : Nat → Value) (i : Nat) (v : Value) : Nat → Value := fun j => if j = i then v else V j
theorem vsL_up (V : Nat → Value) (i : Nat) (v : Value) : vsL (upU V i v) (i + 1) = vsL V i ++ [v] := by
 unfold vsL
 rw [List.range_succ, List.map_append, List.map_singleton]
 congr 1
 ·apply List.map_congr_left
  intro j hj
  have := List.mem_range.1 hj
  show (if j = i then v else V j) = V j
  rw [if_neg (by omega)]
 ·show [if i = i then v else V i] = [v]
  rw [if_pos rfl]
structure Nq7 (B : Nat) (g : Nat → E4) (i : Nat) (v : Value) (V : Nat → Value) (w : World) : Prop where
 ra : w.ownsRow B 50 1 v i (vsL V i)
 el : ∀ j, j < i → Zn B w (V j) (cnX (g j))
theorem Nq7.keep {B i : Nat} {g : Nat → E4} {v : Value} {V : Nat → Value} {w y : World} (h : Nq7 B g i v V w) (hb : Below w.heap.size w y) : Nq7 B g i v V y := ⟨own_keepT h.ra hb, fun j hj => (h.el j hj).keep hb⟩
theorem Nq7.up {B i : Nat} {g : Nat → E4} {v v' u : Value} {V : Nat → Value} {w y : World} (h : Nq7 B g i v V w) (z : Zn B w u (cnX (g i))) (hg : w.grownBy y v.ownBlock) (ho : y.ownsRow B 50 1 v' (i + 1) (vsL V i ++ [u])) : Nq7 B g (i + 1) v' (upU V i u) y := by
 refine ⟨by rw [vsL_up]; exact ho, fun j hj => ?_⟩
 by_cases e : j = i
 ·subst e
  show Zn _ _ (if j = j then u else _) _
  rw [if_pos rfl]
  exact ⟨own_kept z.1 h.ra (by decide) hg, z.2⟩
 ·show Zn _ _ (if j = i then _ else V j) _
  rw [if_neg e]
  have zj := h.el j (by omega)
  exact ⟨own_kept zj.1 h.ra (by decide) hg, zj.2⟩
def NmP (s : Sl) (x : World) (e : Ending) (w' : World) : Prop := ∃ v V, e = .returned v ∧ Below x.heap.size x w' ∧ Nq7 x.heap.size s.g s.n v V w'
theorem numbersA_any (s : Sl) (x : World) (hs : s.at x) (hT : Tb x) (hn : s.n ≤ 40) :
  Calls Tryz.prog 38 #[.slice s.p s.n s.c] x fun e w' => NmP s x e w' := by
 obtain ⟨P, n, c, g⟩ := s
 have HS := Hn hs
 have HN := Hn hn
 have HT := Hn hT
 have V0 : Hid (Below x.heap.size x x ∧ Nq7 x.heap.size g 0 (.slice none 0 0) (fun _ => .slice none 0 0) x) := Hn ⟨Below.refl _ _, World.ownsRow_nil _ _ _ _, fun j hj => absurd hj (Nat.not_lt_zero _)⟩
 clear hs hn hT
 go_enter Tryz.func38, Tryz.ntmps38
 go_wp2_with fail
 go_loopw [4, 3] (fun iv a w' => ∃ (i : Nat) (V : Nat → Value), i ≤ n ∧ iv = .int .i64 (i : Int) ∧ Hid (Below x.heap.size x w' ∧ Nq7 x.heap.size g i a V w')) (fun i _ _ => n - (intOf i).toNat)
 case atStart => exact ⟨0, _, by omega, rfl, V0⟩
 case round =>
  clear V0
  obtain ⟨i, V, hi, rfl, HV⟩ := hrel
  by_cases hin : i < n
  ·have i1 : (i : Int) < (n : Int) := by omega
   have i0 : (0 : Int) ≤ (i : Int) := by omega
   have NB : Hid (n ≤ 40) := Hn HN.out
   have w9 : IntKind.i64.wrap ((i : Int) + 1) = (i : Int) + 1 := IntWalk.i64_in _ (by have := NB.out; omega)
   obtain ⟨sb, so, hPs, hRt⟩ := HS.out.at'
   have rt0 := hRt (show 0 < n by omega)
   have hp0 : P = _ := hPs (show 0 < n by omega)
   subst hp0
   have RT := Hn rt0
   have AK := Hn (HS.out.ok i hin)
   clear rt0 hRt hPs
   have a0 : wr.cell? ⟨sb, so + i * 4, none⟩ = some (.int .u64 (g i).x0) := bl_cellO HV.out.1 (RT.out.c0 i hin)
   have a1 : wr.cell? ⟨sb, so + i * 4 + 1, none⟩ = some (.int .u64 (g i).x1) := bl_cellO HV.out.1 (RT.out.c1 i hin)
   have a2 : wr.cell? ⟨sb, so + i * 4 + 2, none⟩ = some (.int .u64 (g i).x2) := bl_cellO HV.out.1 (RT.out.c2 i hin)
   have a3 : wr.cell? ⟨sb, so + i * 4 + 3, none⟩ = some (.int .u64 (g i).x3) := bl_cellO HV.out.1 (RT.out.c3 i hin)
   have CC := Hn (Const_any (g i) wr (HT.out.keep HV.out.1) AK.out)
   go_wp2_with (first | (go_at_call 88; refine CC.out.mono ?_; rintro e w2 ⟨v5, rfl, hl⟩; obtain ⟨P5, c5, rfl, -⟩ := own_shT hl.1; have HL := Hn hl; clear hl CC) | (at_builtin; have b1 := bl_trans HL.out.2.1 (bl_alloc w2 (.cells #[.slice P5 (cnX (g i)).length c5] 50)); have h1 := HV.out.2.keep b1; have bx := bl_trans HV.out.1 b1; have z5 := (Zn.of HL.out HV.out.1.size).keep (bl_alloc w2 (.cells #[.slice P5 (cnX (g i)).length c5] 50)); refine wpL_apL rfl _ _ rfl x.heap.size i _ _ rfl h1.ra w2.heap.size 1 1 [.slice P5 (cnX (g i)).length c5] rfl rfl (fun j u hu => by have h9 := range_newM w2 [.slice P5 (cnX (g i)).length c5] 50 j u hu; rwa [Nat.zero_add] at h9) (by simp [Value.oneCell']) (by have := NB.out; omega) bx.size ?_; intro v6 w6 ho hg hv; have V6 := Hn (show Below x.heap.size x w6 ∧ Nq7 x.heap.size g (i + 1) v6 (upU V i (.slice P5 (cnX (g i)).length c5)) w6 from ⟨below_tr bx (below_grown hg bx.size (fun k hk => (h1.ra.lt k hk).1)), h1.up z5 hg ho⟩); clear ho hg hv b1 h1 bx z5))
   go_roundw
   case rel => exact ⟨i + 1, _, by omega, by go_num, V6⟩
   case measure => simp [intOf]; omega
  ·obtain rfl : i = n := by omega
   have lq : ¬ (i : Int) < (i : Int) := by omega
   go_wp2_with fail
   exact bodyPost_ret (v := u3) (by simp [results, Tryz.results38, go_sem]) rfl ⟨_, V, rfl, HV.out⟩
end Ci
end Go.Proofs.YtljmgfclhbadjaaGreatDoor
