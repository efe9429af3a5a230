import Derived.Test.YtclihahohhhhiaaDoorCjn
import Derived.Test.YtclihahohhhhiaaDoorJz
import Derived.Test.YtclihahohhhhiaaDoorCfe
namespace Go.Proofs.YtclihahohhhhiaaDoor
open Go.RowKit
set_option linter.unusedVariables false
set_option linter.unusedSimpArgs false
open Cm (Wr Tm co bf Ls lf ins Eqm)
open Tr (cb By vn cb_len cb_app cb_one vn_len)
namespace Ci
set_option maxRecDepth 100000
set_option maxHeartbeats 8000000
theorem tsEncode {w9 y : World} {t m K : Nat} {Q : List (List Tm)} (h : Ts w9 t m K Q y) (hT : Tb y) (hm : m ≤ 16) : Calls Tryd.prog 6 #[.pointer (some ⟨t, 0, none⟩)] y fun e w' => ∃ v, e = .returned v ∧ w'.ownsRow y.heap.size 5 1 v (enB m K Q).length (cb (enB m K Q)) ∧ Below y.heap.size y w' := by
 obtain ⟨base, v, vs, sy, hb, bl, wk⟩ := h
 exact SysEncode_any sy wk hT (by omega)
def mulA (K n : Nat) (f : Nat → Trm) (kd : Int) : List Tm := lf Sm.L (glL 1 (cst (kd, (K : Int))) ++ glN n f)
section
variable {N N' : Nat → Sl} {m K n : Nat} {X : List Tm} {f : Nat → Trm}
theorem vl_old (h : nm m K (lf Sm.L X).length (ft (lf Sm.L X)) = true) (he : ∀ q : Wr, hs m K q = true → (nw N' q).n = (nw N q).n) : vl N' X % Sm.L = vl N X % Sm.L := by
 rw [← vl_lf N' X, ← vl_lf N X]
 have hw := nm_mem h
 generalize lf Sm.L X = Y at *
 congr 1
 clear h
 induction Y with
 | nil => rfl
 | cons y Y ih =>
  show y.2 * (nw N' y.1).n + vl N' Y = y.2 * (nw N y.1).n + vl N Y
  rw [he y.1 (hw y (by simp)), ih (fun z hz => hw z (by simp [hz]))]
theorem vl_cst (N : Nat → Sl) (q : Wr) : vl N (glL 1 (cst q)) = (nw N q).n := by
 have e : glL 1 (cst q) = [(q, (lst 1).n)] := by simp [glL, cst, List.range_succ]
 rw [e]
 show (lst 1).n * (nw N q).n + 0 = _
 rw [lst_small (by omega) (by omega)]
 omega
theorem vl_mulA (N : Nat → Sl) (K n : Nat) (f : Nat → Trm) (kd : Int) : vl N (mulA K n f kd) % Sm.L = ((nw N (kd, (K : Int))).n - vl N (glL n f)) % Sm.L := by
 unfold mulA
 rw [vl_lf, vl_app, vl_neg, vl_cst]
 rfl
theorem vl_ent (N : Nat → Sl) (j : Nat) : vl N (enX (j : Int)) % Sm.L = ((nw N (2, (j : Int))).n - (nw N (5, (j : Int))).n) % Sm.L := by
 unfold enX
 rw [vl_lf, vl_app, vl_neg, vl_cst, vl_cst]
 rfl
theorem enl_get (j n : Nat) (h : j < n) : (enl n)[j]? = some (enX (j : Int)) := by
 induction n with
 | zero => omega
 | succ n ih =>
  show (enl n ++ [enX n])[j]? = _
  by_cases e : j < n
  ·rw [List.getElem?_append_left (by rw [enl_len]; exact e)]; exact ih e
  ·obtain rfl : j = n := by omega
   rw [List.getElem?_append_right (by rw [enl_len]; omega), enl_len, Nat.sub_self]
   rfl
end
end Ci
end Go.Proofs.YtclihahohhhhiaaDoor
