import Derived.Test.YtapieajkmpnmoaaGreatDoorOM1
import Derived.Test.YtapieajkmpnmoaaGreatDoorOM2
namespace Go.Proofs.YtapieajkmpnmoaaGreatDoor.Li
open Go.RowKit
set_option linter.unusedVariables false
/-- an element of Line, up to lst -/
def Fr (V : Value) (x : Nat → Int) : Prop := ∃ z : E4, V = .agg #[.int .u64 z.x0, .int .u64 z.x1, .int .u64 z.x2, .int .u64 z.x3] ∧ z.ok ∧ ∀ t, lst z.n = lst (x t)
theorem Fr.congr {V : Value} {x y : Nat → Int} (h : Fr V x) (e : ∀ i, lst (x i) = lst (y i)) : Fr V y := by
  obtain ⟨z, h1, h2, h3⟩ := h
  exact ⟨z, h1, h2, fun t => (h3 t).trans (e t)⟩
theorem Fr.of {z : E4} {x : Nat → Int} (h : z.ok) (e : ∀ t, lst z.n = lst (x t)) : Fr (.agg #[.int .u64 z.x0, .int .u64 z.x1, .int .u64 z.x2, .int .u64 z.x3]) x := ⟨z, rfl, h, e⟩
theorem Fr.inv {z : E4} {x : Nat → Int} (h : Fr (.agg #[.int .u64 z.x0, .int .u64 z.x1, .int .u64 z.x2, .int .u64 z.x3]) x) : z.ok ∧ ∀ t, lst z.n = lst (x t) := by
  obtain ⟨y, h1, h2, h3⟩ := h
  simp only [Value.agg.injEq, Array.mk.injEq, List.cons.injEq, Value.int.injEq, true_and, and_true] at h1
  obtain ⟨e0, e1, e2, e3⟩ := h1
  have : z = y := by cases z; cases y; simp_all
  subst this
  exact ⟨h2, h3⟩
theorem mt_Add (p : E4) (w : World) : (method 318 51 (.agg #[.int .u64 p.x0, .int .u64 p.x1, .int .u64 p.x2, .int .u64 p.x3]) "Add").run Tryz.prog w = .ok (142, .agg #[.int .u64 p.x0, .int .u64 p.x1, .int .u64 p.x2, .int .u64 p.x3]) w := by kernel_rfl
theorem mt_Double (p : E4) (w : World) : (method 318 51 (.agg #[.int .u64 p.x0, .int .u64 p.x1, .int .u64 p.x2, .int .u64 p.x3]) "Double").run Tryz.prog w = .ok (143, .agg #[.int .u64 p.x0, .int .u64 p.x1, .int .u64 p.x2, .int .u64 p.x3]) w := by kernel_rfl
theorem mt_Neg (p : E4) (w : World) : (method 318 51 (.agg #[.int .u64 p.x0, .int .u64 p.x1, .int .u64 p.x2, .int .u64 p.x3]) "Neg").run Tryz.prog w = .ok (144, .agg #[.int .u64 p.x0, .int .u64 p.x1, .int .u64 p.x2, .int .u64 p.x3]) w := by kernel_rfl
theorem mt_Times (p : E4) (w : World) : (method 318 51 (.agg #[.int .u64 p.x0, .int .u64 p.x1, .int .u64 p.x2, .int .u64 p.x3]) "Times").run Tryz.prog w = .ok (146, .agg #[.int .u64 p.x0, .int .u64 p.x1, .int .u64 p.x2, .int .u64 p.x3]) w := by kernel_rfl
theorem i4_L : (Tryz.prog.info? 51).map (·.size) = some 4 := by kernel_rfl
theorem zv_L (w : World) : (zeroValue 51).run Tryz.prog w = .ok (.agg z4.toArray) w := by kernel_rfl
theorem l4_i (a : E4) : (Tryz.prog.info? 51).map (·.size) = some [Value.int .u64 a.x0, .int .u64 a.x1, .int .u64 a.x2, .int .u64 a.x3].length := by kernel_rfl
theorem c4_one (a : E4) : [Value.int .u64 a.x0, .int .u64 a.x1, .int .u64 a.x2, .int .u64 a.x3].toArray.all (·.oneCell') = true := by simp [Value.oneCell']
set_option maxRecDepth 100000 in
set_option maxHeartbeats 8000000 in
theorem lAdd_any (a b : E4) (ha : a.ok) (hb : b.ok) (w : World) (hT : Tb w) :
    Calls Tryz.prog 142 #[a.v, b.v] w fun e w' => e = .returned (lst (a.n + b.n)).v ∧ Below w.heap.size w w' := by
  have HT := hidden hT
  have RA := hidden (fun w T => fix (R := lst (a.n + b.n)) (Add_any a b w T ha hb) rfl)
  generalize lst (a.n + b.n) = z at *
  unfold E4.v at RA ⊢
  have M0 := (((Mw.start w).new [.int .u64 a.x0, .int .u64 a.x1, .int .u64 a.x2, .int .u64 a.x3] 51).new [.int .u64 b.x0, .int .u64 b.x1, .int .u64 b.x2, .int .u64 b.x3] 51).new [.int .u64 0, .int .u64 0, .int .u64 0, .int .u64 0] 51
  simp only [World.size_alloc] at M0
  have MM := hidden M0
  have I1 := hidden (l4_i z)
  have O2 := hidden (c4_one z)
  clear M0
  go_enter Tryz.func142, Tryz.ntmps142
  go_wp2_with (first | (go_at_call 24; refine (RA.out _ (HT.out.keep MM.out.bel)).mono ?_; rintro e wa ⟨rfl, ha⟩; replace MM := hidden (MM.out.keep ha); clear ha; have TH := hidden (MM.out.ther [.int .u64 z.x0, .int .u64 z.x1, .int .u64 z.x2, .int .u64 z.x3] (c := w.heap.size + 1 + 1) (o := [.int .u64 0, .int .u64 0, .int .u64 0, .int .u64 0]) (by simp) rfl); have M1 := MM.out.set (M := []) [.int .u64 z.x0, .int .u64 z.x1, .int .u64 z.x2, .int .u64 z.x3] (c := w.heap.size + 1 + 1) (o := [.int .u64 0, .int .u64 0, .int .u64 0, .int .u64 0]) (by simp) rfl (fun p hp => by cases hp); have LD := hidden (M1.var (c := w.heap.size + 1 + 1) (ds := [.int .u64 z.x0, .int .u64 z.x1, .int .u64 z.x2, .int .u64 z.x3]) (by simp) Tryz.underlying51 rfl I1.out); have BL := hidden M1.bel; clear M1) | refine wpList_store_mid rfl 51 _ _ rfl (w.heap.size + 1 + 1) 0 [.int .u64 z.x0, .int .u64 z.x1, .int .u64 z.x2, .int .u64 z.x3].toArray (by rfl) (by rfl) TH.out I1.out O2.out ?_)
  refine bodyPost_ret (v := .agg [.int .u64 z.x0, .int .u64 z.x1, .int .u64 z.x2, .int .u64 z.x3].toArray) (results_cellM Tryz.results142 _ _ _ _ _ (by rfl) LD.out) rfl ⟨rfl, BL.out⟩
set_option maxRecDepth 100000 in
set_option maxHeartbeats 8000000 in
theorem lTimes_any (a b : E4) (ha : a.ok) (hb : b.ok) (w : World) (hT : Tb w) :
    Calls Tryz.prog 146 #[a.v, b.v] w fun e w' => e = .returned (lst (a.n * b.n)).v ∧ Below w.heap.size w w' := by
  have HT := hidden hT
  have RA := hidden (fun w T => fix (R := lst (a.n * b.n)) (Mul_any a b w T ha hb) rfl)
  generalize lst (a.n * b.n) = z at *
  unfold E4.v at RA ⊢
  have M0 := (((Mw.start w).new [.int .u64 a.x0, .int .u64 a.x1, .int .u64 a.x2, .int .u64 a.x3] 51).new [.int .u64 b.x0, .int .u64 b.x1, .int .u64 b.x2, .int .u64 b.x3] 25).new [.int .u64 0, .int .u64 0, .int .u64 0, .int .u64 0] 51
  simp only [World.size_alloc] at M0
  have MM := hidden M0
  have I1 := hidden (l4_i z)
  have O2 := hidden (c4_one z)
  clear M0
  go_enter Tryz.func146, Tryz.ntmps146
  go_wp2_with (first | (go_at_call 25; refine (RA.out _ (HT.out.keep MM.out.bel)).mono ?_; rintro e wa ⟨rfl, ha⟩; replace MM := hidden (MM.out.keep ha); clear ha; have TH := hidden (MM.out.ther [.int .u64 z.x0, .int .u64 z.x1, .int .u64 z.x2, .int .u64 z.x3] (c := w.heap.size + 1 + 1) (o := [.int .u64 0, .int .u64 0, .int .u64 0, .int .u64 0]) (by simp) rfl); have M1 := MM.out.set (M := []) [.int .u64 z.x0, .int .u64 z.x1, .int .u64 z.x2, .int .u64 z.x3] (c := w.heap.size + 1 + 1) (o := [.int .u64 0, .int .u64 0, .int .u64 0, .int .u64 0]) (by simp) rfl (fun p hp => by cases hp); have LD := hidden (M1.var (c := w.heap.size + 1 + 1) (ds := [.int .u64 z.x0, .int .u64 z.x1, .int .u64 z.x2, .int .u64 z.x3]) (by simp) Tryz.underlying51 rfl I1.out); have BL := hidden M1.bel; clear M1) | refine wpList_store_mid rfl 51 _ _ rfl (w.heap.size + 1 + 1) 0 [.int .u64 z.x0, .int .u64 z.x1, .int .u64 z.x2, .int .u64 z.x3].toArray (by rfl) (by rfl) TH.out I1.out O2.out ?_)
  refine bodyPost_ret (v := .agg [.int .u64 z.x0, .int .u64 z.x1, .int .u64 z.x2, .int .u64 z.x3].toArray) (results_cellM Tryz.results146 _ _ _ _ _ (by rfl) LD.out) rfl ⟨rfl, BL.out⟩
set_option maxRecDepth 100000 in
set_option maxHeartbeats 8000000 in
theorem lDouble_any (a : E4) (ha : a.ok) (w : World) (hT : Tb w) :
    Calls Tryz.prog 143 #[a.v] w fun e w' => e = .returned (lst (a.n + a.n)).v ∧ Below w.heap.size w w' := by
  have HT := hidden hT
  have RA := hidden (fun w T => fix (R := lst (a.n + a.n)) (Add_any a a w T ha ha) rfl)
  generalize lst (a.n + a.n) = z at *
  unfold E4.v at RA ⊢
  have M0 := ((Mw.start w).new [.int .u64 a.x0, .int .u64 a.x1, .int .u64 a.x2, .int .u64 a.x3] 51).new [.int .u64 0, .int .u64 0, .int .u64 0, .int .u64 0] 51
  simp only [World.size_alloc] at M0
  have MM := hidden M0
  have I1 := hidden (l4_i z)
  have O2 := hidden (c4_one z)
  clear M0
  go_enter Tryz.func143, Tryz.ntmps143
  go_wp2_with (first | (go_at_call 24; refine (RA.out _ (HT.out.keep MM.out.bel)).mono ?_; rintro e wa ⟨rfl, ha⟩; replace MM := hidden (MM.out.keep ha); clear ha; have TH := hidden (MM.out.ther [.int .u64 z.x0, .int .u64 z.x1, .int .u64 z.x2, .int .u64 z.x3] (c := w.heap.size + 1) (o := [.int .u64 0, .int .u64 0, .int .u64 0, .int .u64 0]) (by simp) rfl); have M1 := MM.out.set (M := []) [.int .u64 z.x0, .int .u64 z.x1, .int .u64 z.x2, .int .u64 z.x3] (c := w.heap.size + 1) (o := [.int .u64 0, .int .u64 0, .int .u64 0, .int .u64 0]) (by simp) rfl (fun p hp => by cases hp); have LD := hidden (M1.var (c := w.heap.size + 1) (ds := [.int .u64 z.x0, .int .u64 z.x1, .int .u64 z.x2, .int .u64 z.x3]) (by simp) Tryz.underlying51 rfl I1.out); have BL := hidden M1.bel; clear M1) | refine wpList_store_mid rfl 51 _ _ rfl (w.heap.size + 1) 0 [.int .u64 z.x0, .int .u64 z.x1, .int .u64 z.x2, .int .u64 z.x3].toArray (by rfl) (by rfl) TH.out I1.out O2.out ?_)
  refine bodyPost_ret (v := .agg [.int .u64 z.x0, .int .u64 z.x1, .int .u64 z.x2, .int .u64 z.x3].toArray) (results_cellM Tryz.results143 _ _ _ _ _ (by rfl) LD.out) rfl ⟨rfl, BL.out⟩
set_option maxRecDepth 100000 in
set_option maxHeartbeats 8000000 in
theorem lNeg_any (a : E4) (ha : a.ok) (w : World) (hT : Tb w) :
    Calls Tryz.prog 144 #[a.v] w fun e w' => e = .returned (lst (-a.n)).v ∧ Below w.heap.size w w' := by
  have HT := hidden hT
  have RA := hidden (fun w T => fix (R := lst (-a.n)) (Neg_any a w T ha) rfl)
  generalize lst (-a.n) = z at *
  unfold E4.v at RA ⊢
  have M0 := ((Mw.start w).new [.int .u64 a.x0, .int .u64 a.x1, .int .u64 a.x2, .int .u64 a.x3] 51).new [.int .u64 0, .int .u64 0, .int .u64 0, .int .u64 0] 51
  simp only [World.size_alloc] at M0
  have MM := hidden M0
  have I1 := hidden (l4_i z)
  have O2 := hidden (c4_one z)
  clear M0
  go_enter Tryz.func144, Tryz.ntmps144
  go_wp2_with (first | (go_at_call 21; refine (RA.out _ (HT.out.keep MM.out.bel)).mono ?_; rintro e wa ⟨rfl, ha⟩; replace MM := hidden (MM.out.keep ha); clear ha; have TH := hidden (MM.out.ther [.int .u64 z.x0, .int .u64 z.x1, .int .u64 z.x2, .int .u64 z.x3] (c := w.heap.size + 1) (o := [.int .u64 0, .int .u64 0, .int .u64 0, .int .u64 0]) (by simp) rfl); have M1 := MM.out.set (M := []) [.int .u64 z.x0, .int .u64 z.x1, .int .u64 z.x2, .int .u64 z.x3] (c := w.heap.size + 1) (o := [.int .u64 0, .int .u64 0, .int .u64 0, .int .u64 0]) (by simp) rfl (fun p hp => by cases hp); have LD := hidden (M1.var (c := w.heap.size + 1) (ds := [.int .u64 z.x0, .int .u64 z.x1, .int .u64 z.x2, .int .u64 z.x3]) (by simp) Tryz.underlying51 rfl I1.out); have BL := hidden M1.bel; clear M1) | refine wpList_store_mid rfl 51 _ _ rfl (w.heap.size + 1) 0 [.int .u64 z.x0, .int .u64 z.x1, .int .u64 z.x2, .int .u64 z.x3].toArray (by rfl) (by rfl) TH.out I1.out O2.out ?_)
  refine bodyPost_ret (v := .agg [.int .u64 z.x0, .int .u64 z.x1, .int .u64 z.x2, .int .u64 z.x3].toArray) (results_cellM Tryz.results144 _ _ _ _ _ (by rfl) LD.out) rfl ⟨rfl, BL.out⟩
set_option maxRecDepth 100000 in
set_option maxHeartbeats 8000000 in
theorem hadd (H : Nat) (a b : E4) (w : World) (hT : Tb w) (hH : Hd w H) (ha : a.ok) (hb : b.ok) :
    Calls Tryz.prog 55 #[.pointer (some ⟨H, 0, none⟩), .agg #[.int .u64 a.x0, .int .u64 a.x1, .int .u64 a.x2, .int .u64 a.x3], .agg #[.int .u64 b.x0, .int .u64 b.x1, .int .u64 b.x2, .int .u64 b.x3]] w fun e w' => e = .returned (lst (a.n + b.n)).v ∧ Hd w' H ∧ w.grownBy w' (some H) := by
  have LH := hidden hH.lt
  have B2 : Below w.heap.size w (((w.alloc (.cells #[.int .u64 a.x0, .int .u64 a.x1, .int .u64 a.x2, .int .u64 a.x3] 51)).alloc (.cells #[.int .u64 b.x0, .int .u64 b.x1, .int .u64 b.x2, .int .u64 b.x3] 51)).alloc (.cells #[.int .u64 0, .int .u64 0, .int .u64 0, .int .u64 0] 51)) := bl_trans (bl_trans (bl_alloc w _) (bl_alloc _ _)) (bl_alloc _ _)
  have SZ : Hid ((((w.alloc (.cells #[.int .u64 a.x0, .int .u64 a.x1, .int .u64 a.x2, .int .u64 a.x3] 51)).alloc (.cells #[.int .u64 b.x0, .int .u64 b.x1, .int .u64 b.x2, .int .u64 b.x3] 51)).alloc (.cells #[.int .u64 0, .int .u64 0, .int .u64 0, .int .u64 0] 51)).heap.size = w.heap.size + 1 + 1 + 1) := hidden (by simp only [World.size_alloc])
  have a0 : (((w.alloc (.cells #[.int .u64 a.x0, .int .u64 a.x1, .int .u64 a.x2, .int .u64 a.x3] 51)).alloc (.cells #[.int .u64 b.x0, .int .u64 b.x1, .int .u64 b.x2, .int .u64 b.x3] 51)).alloc (.cells #[.int .u64 0, .int .u64 0, .int .u64 0, .int .u64 0] 51)).cell? ⟨w.heap.size, 0, none⟩ = some (.int .u64 a.x0) := by go_simp
  have a1 : (((w.alloc (.cells #[.int .u64 a.x0, .int .u64 a.x1, .int .u64 a.x2, .int .u64 a.x3] 51)).alloc (.cells #[.int .u64 b.x0, .int .u64 b.x1, .int .u64 b.x2, .int .u64 b.x3] 51)).alloc (.cells #[.int .u64 0, .int .u64 0, .int .u64 0, .int .u64 0] 51)).cell? ⟨w.heap.size, 1, none⟩ = some (.int .u64 a.x1) := by go_simp
  have a2 : (((w.alloc (.cells #[.int .u64 a.x0, .int .u64 a.x1, .int .u64 a.x2, .int .u64 a.x3] 51)).alloc (.cells #[.int .u64 b.x0, .int .u64 b.x1, .int .u64 b.x2, .int .u64 b.x3] 51)).alloc (.cells #[.int .u64 0, .int .u64 0, .int .u64 0, .int .u64 0] 51)).cell? ⟨w.heap.size, 2, none⟩ = some (.int .u64 a.x2) := by go_simp
  have a3 : (((w.alloc (.cells #[.int .u64 a.x0, .int .u64 a.x1, .int .u64 a.x2, .int .u64 a.x3] 51)).alloc (.cells #[.int .u64 b.x0, .int .u64 b.x1, .int .u64 b.x2, .int .u64 b.x3] 51)).alloc (.cells #[.int .u64 0, .int .u64 0, .int .u64 0, .int .u64 0] 51)).cell? ⟨w.heap.size, 3, none⟩ = some (.int .u64 a.x3) := by go_simp
  have b0 : (((w.alloc (.cells #[.int .u64 a.x0, .int .u64 a.x1, .int .u64 a.x2, .int .u64 a.x3] 51)).alloc (.cells #[.int .u64 b.x0, .int .u64 b.x1, .int .u64 b.x2, .int .u64 b.x3] 51)).alloc (.cells #[.int .u64 0, .int .u64 0, .int .u64 0, .int .u64 0] 51)).cell? ⟨w.heap.size + 1, 0, none⟩ = some (.int .u64 b.x0) := by go_simp
  have b1 : (((w.alloc (.cells #[.int .u64 a.x0, .int .u64 a.x1, .int .u64 a.x2, .int .u64 a.x3] 51)).alloc (.cells #[.int .u64 b.x0, .int .u64 b.x1, .int .u64 b.x2, .int .u64 b.x3] 51)).alloc (.cells #[.int .u64 0, .int .u64 0, .int .u64 0, .int .u64 0] 51)).cell? ⟨w.heap.size + 1, 1, none⟩ = some (.int .u64 b.x1) := by go_simp
  have b2 : (((w.alloc (.cells #[.int .u64 a.x0, .int .u64 a.x1, .int .u64 a.x2, .int .u64 a.x3] 51)).alloc (.cells #[.int .u64 b.x0, .int .u64 b.x1, .int .u64 b.x2, .int .u64 b.x3] 51)).alloc (.cells #[.int .u64 0, .int .u64 0, .int .u64 0, .int .u64 0] 51)).cell? ⟨w.heap.size + 1, 2, none⟩ = some (.int .u64 b.x2) := by go_simp
  have b3 : (((w.alloc (.cells #[.int .u64 a.x0, .int .u64 a.x1, .int .u64 a.x2, .int .u64 a.x3] 51)).alloc (.cells #[.int .u64 b.x0, .int .u64 b.x1, .int .u64 b.x2, .int .u64 b.x3] 51)).alloc (.cells #[.int .u64 0, .int .u64 0, .int .u64 0, .int .u64 0] 51)).cell? ⟨w.heap.size + 1, 3, none⟩ = some (.int .u64 b.x3) := by go_simp
  have r0 : (((w.alloc (.cells #[.int .u64 a.x0, .int .u64 a.x1, .int .u64 a.x2, .int .u64 a.x3] 51)).alloc (.cells #[.int .u64 b.x0, .int .u64 b.x1, .int .u64 b.x2, .int .u64 b.x3] 51)).alloc (.cells #[.int .u64 0, .int .u64 0, .int .u64 0, .int .u64 0] 51)).cell? ⟨w.heap.size + 1 + 1, 0, none⟩ = some (.int .u64 0) := by go_simp
  have r1 : (((w.alloc (.cells #[.int .u64 a.x0, .int .u64 a.x1, .int .u64 a.x2, .int .u64 a.x3] 51)).alloc (.cells #[.int .u64 b.x0, .int .u64 b.x1, .int .u64 b.x2, .int .u64 b.x3] 51)).alloc (.cells #[.int .u64 0, .int .u64 0, .int .u64 0, .int .u64 0] 51)).cell? ⟨w.heap.size + 1 + 1, 1, none⟩ = some (.int .u64 0) := by go_simp
  have r2 : (((w.alloc (.cells #[.int .u64 a.x0, .int .u64 a.x1, .int .u64 a.x2, .int .u64 a.x3] 51)).alloc (.cells #[.int .u64 b.x0, .int .u64 b.x1, .int .u64 b.x2, .int .u64 b.x3] 51)).alloc (.cells #[.int .u64 0, .int .u64 0, .int .u64 0, .int .u64 0] 51)).cell? ⟨w.heap.size + 1 + 1, 2, none⟩ = some (.int .u64 0) := by go_simp
  have r3 : (((w.alloc (.cells #[.int .u64 a.x0, .int .u64 a.x1, .int .u64 a.x2, .int .u64 a.x3] 51)).alloc (.cells #[.int .u64 b.x0, .int .u64 b.x1, .int .u64 b.x2, .int .u64 b.x3] 51)).alloc (.cells #[.int .u64 0, .int .u64 0, .int .u64 0, .int .u64 0] 51)).cell? ⟨w.heap.size + 1 + 1, 3, none⟩ = some (.int .u64 0) := by go_simp
  have z0 : (((w.alloc (.cells #[.int .u64 a.x0, .int .u64 a.x1, .int .u64 a.x2, .int .u64 a.x3] 51)).alloc (.cells #[.int .u64 b.x0, .int .u64 b.x1, .int .u64 b.x2, .int .u64 b.x3] 51)).alloc (.cells #[.int .u64 0, .int .u64 0, .int .u64 0, .int .u64 0] 51)).frozen? ⟨w.heap.size + 1 + 1, 0, none⟩ = false := by go_simp
  have z1 : (((w.alloc (.cells #[.int .u64 a.x0, .int .u64 a.x1, .int .u64 a.x2, .int .u64 a.x3] 51)).alloc (.cells #[.int .u64 b.x0, .int .u64 b.x1, .int .u64 b.x2, .int .u64 b.x3] 51)).alloc (.cells #[.int .u64 0, .int .u64 0, .int .u64 0, .int .u64 0] 51)).frozen? ⟨w.heap.size + 1 + 1, 1, none⟩ = false := by go_simp
  have z2 : (((w.alloc (.cells #[.int .u64 a.x0, .int .u64 a.x1, .int .u64 a.x2, .int .u64 a.x3] 51)).alloc (.cells #[.int .u64 b.x0, .int .u64 b.x1, .int .u64 b.x2, .int .u64 b.x3] 51)).alloc (.cells #[.int .u64 0, .int .u64 0, .int .u64 0, .int .u64 0] 51)).frozen? ⟨w.heap.size + 1 + 1, 2, none⟩ = false := by go_simp
  have z3 : (((w.alloc (.cells #[.int .u64 a.x0, .int .u64 a.x1, .int .u64 a.x2, .int .u64 a.x3] 51)).alloc (.cells #[.int .u64 b.x0, .int .u64 b.x1, .int .u64 b.x2, .int .u64 b.x3] 51)).alloc (.cells #[.int .u64 0, .int .u64 0, .int .u64 0, .int .u64 0] 51)).frozen? ⟨w.heap.size + 1 + 1, 3, none⟩ = false := by go_simp
  obtain ⟨w2, hw2⟩ : ∃ w2, (((w.alloc (.cells #[.int .u64 a.x0, .int .u64 a.x1, .int .u64 a.x2, .int .u64 a.x3] 51)).alloc (.cells #[.int .u64 b.x0, .int .u64 b.x1, .int .u64 b.x2, .int .u64 b.x3] 51)).alloc (.cells #[.int .u64 0, .int .u64 0, .int .u64 0, .int .u64 0] 51)) = w2 := ⟨_, rfl⟩
  rw [hw2] at B2 SZ a0 a1 a2 a3 b0 b1 b2 b3 r0 r1 r2 r3 z0 z1 z2 z3
  have H2 := hH.keep B2
  obtain ⟨x, y, h0, h1, f0, f1, h2⟩ := id H2
  obtain ⟨z, hz⟩ : ∃ z, IntKind.i64.wrap (x + 1) = z := ⟨_, rfl⟩
  have G3 := gb_set w2 H 0 (.int .i64 z)
  have H3 := hidden (H2.set (j := 0) (z := z) (by omega))
  have T3 := (hT.keep B2).keep0 G3 (H2.tb (hT.keep B2))
  have GW := hidden ((gbI B2 (some H)).trans G3)
  have SP := hidden (lAdd_any a b ha hb (w2.setCell ⟨H, 0, none⟩ (.int .i64 z)) T3)
  obtain ⟨q, hq⟩ : ∃ q, lst (a.n + b.n) = q := ⟨_, rfl⟩
  rw [hq] at SP ⊢
  unfold E4.v at SP ⊢
  have a0' := (World.cell?_setCell_far w2 ⟨H, 0, none⟩ ⟨w.heap.size, 0, none⟩ (.int .i64 z) (by have := LH.out; simp only; omega)).trans a0
  have a1' := (World.cell?_setCell_far w2 ⟨H, 0, none⟩ ⟨w.heap.size, 1, none⟩ (.int .i64 z) (by have := LH.out; simp only; omega)).trans a1
  have a2' := (World.cell?_setCell_far w2 ⟨H, 0, none⟩ ⟨w.heap.size, 2, none⟩ (.int .i64 z) (by have := LH.out; simp only; omega)).trans a2
  have a3' := (World.cell?_setCell_far w2 ⟨H, 0, none⟩ ⟨w.heap.size, 3, none⟩ (.int .i64 z) (by have := LH.out; simp only; omega)).trans a3
  have b0' := (World.cell?_setCell_far w2 ⟨H, 0, none⟩ ⟨w.heap.size + 1, 0, none⟩ (.int .i64 z) (by have := LH.out; simp only; omega)).trans b0
  have b1' := (World.cell?_setCell_far w2 ⟨H, 0, none⟩ ⟨w.heap.size + 1, 1, none⟩ (.int .i64 z) (by have := LH.out; simp only; omega)).trans b1
  have b2' := (World.cell?_setCell_far w2 ⟨H, 0, none⟩ ⟨w.heap.size + 1, 2, none⟩ (.int .i64 z) (by have := LH.out; simp only; omega)).trans b2
  have b3' := (World.cell?_setCell_far w2 ⟨H, 0, none⟩ ⟨w.heap.size + 1, 3, none⟩ (.int .i64 z) (by have := LH.out; simp only; omega)).trans b3
  have r0' := (World.cell?_setCell_far w2 ⟨H, 0, none⟩ ⟨w.heap.size + 1 + 1, 0, none⟩ (.int .i64 z) (by have := LH.out; simp only; omega)).trans r0
  have r1' := (World.cell?_setCell_far w2 ⟨H, 0, none⟩ ⟨w.heap.size + 1 + 1, 1, none⟩ (.int .i64 z) (by have := LH.out; simp only; omega)).trans r1
  have r2' := (World.cell?_setCell_far w2 ⟨H, 0, none⟩ ⟨w.heap.size + 1 + 1, 2, none⟩ (.int .i64 z) (by have := LH.out; simp only; omega)).trans r2
  have r3' := (World.cell?_setCell_far w2 ⟨H, 0, none⟩ ⟨w.heap.size + 1 + 1, 3, none⟩ (.int .i64 z) (by have := LH.out; simp only; omega)).trans r3
  have z0' : (w2.setCell ⟨H, 0, none⟩ (.int .i64 z)).frozen? ⟨w.heap.size + 1 + 1, 0, none⟩ = false := by simpa using z0
  have z1' : (w2.setCell ⟨H, 0, none⟩ (.int .i64 z)).frozen? ⟨w.heap.size + 1 + 1, 1, none⟩ = false := by simpa using z1
  have z2' : (w2.setCell ⟨H, 0, none⟩ (.int .i64 z)).frozen? ⟨w.heap.size + 1 + 1, 2, none⟩ = false := by simpa using z2
  have z3' : (w2.setCell ⟨H, 0, none⟩ (.int .i64 z)).frozen? ⟨w.heap.size + 1 + 1, 3, none⟩ = false := by simpa using z3
  have S3 : Hid ((w2.setCell ⟨H, 0, none⟩ (.int .i64 z)).heap.size = w.heap.size + 1 + 1 + 1) := hidden (by have := SZ.out; simpa using this)
  have m1 := mt_Add a
  clear G3 T3 hH hT B2 H2 h2 hq
  go_enter Tryz.func55, Tryz.ntmps55
  go_upto_region 1 with fail
  go_upto_region 2 with fail
  generalize (w2.setCell ⟨H, 0, none⟩ (.int .i64 z)) = w3 at *
  clear a0 a1 a2 a3 b0 b1 b2 b3 r0 r1 r2 r3 z0 z1 z2 z3 SZ hw2 h0 h1 f0 f1
  go_wp2_with (first | (go_at_call 142; refine SP.out.mono ?_; rintro e wa ⟨rfl, ha⟩; have q0 := cell_keep r0' ha; have q1 := cell_keep r1' ha; have q2 := cell_keep r2' ha; have q3 := cell_keep r3' ha; have lt := World.block_lt_of_cell? _ _ r0'; have y0 := ((bcell ha).2 _ 0 lt).trans z0'; have y1 := ((bcell ha).2 _ 1 lt).trans z1'; have y2 := ((bcell ha).2 _ 2 lt).trans z2'; have y3 := ((bcell ha).2 _ 3 lt).trans z3'; have BA := hidden ha; clear ha lt))
  have nh : w.heap.size + 1 + 1 ≠ H := by have := LH.out; omega
  refine bodyPost_ret (v := .agg #[.int .u64 q.x0, .int .u64 q.x1, .int .u64 q.x2, .int .u64 q.x3]) (by simp [results, Tryz.results55, go_sem, q0, q1, q2, q3]) rfl ⟨rfl, ((((H3.out.keep BA.out).far nh).far nh).far nh).far nh, gb_box (gb_box (gb_box (gb_box (GW.out.trans (gbI BA.out _)) (by omega)) (by omega)) (by omega)) (by omega)⟩
set_option maxRecDepth 100000 in
set_option maxHeartbeats 8000000 in
theorem hdouble (H : Nat) (a : E4) (w : World) (hT : Tb w) (hH : Hd w H) (ha : a.ok) :
    Calls Tryz.prog 109 #[.pointer (some ⟨H, 0, none⟩), .agg #[.int .u64 a.x0, .int .u64 a.x1, .int .u64 a.x2, .int .u64 a.x3]] w fun e w' => e = .returned (lst (a.n + a.n)).v ∧ Hd w' H ∧ w.grownBy w' (some H) := by
  have LH := hidden hH.lt
  have B2 : Below w.heap.size w ((w.alloc (.cells #[.int .u64 a.x0, .int .u64 a.x1, .int .u64 a.x2, .int .u64 a.x3] 51)).alloc (.cells #[.int .u64 0, .int .u64 0, .int .u64 0, .int .u64 0] 51)) := bl_trans (bl_alloc w _) (bl_alloc _ _)
  have SZ : Hid (((w.alloc (.cells #[.int .u64 a.x0, .int .u64 a.x1, .int .u64 a.x2, .int .u64 a.x3] 51)).alloc (.cells #[.int .u64 0, .int .u64 0, .int .u64 0, .int .u64 0] 51)).heap.size = w.heap.size + 1 + 1) := hidden (by simp only [World.size_alloc])
  have a0 : ((w.alloc (.cells #[.int .u64 a.x0, .int .u64 a.x1, .int .u64 a.x2, .int .u64 a.x3] 51)).alloc (.cells #[.int .u64 0, .int .u64 0, .int .u64 0, .int .u64 0] 51)).cell? ⟨w.heap.size, 0, none⟩ = some (.int .u64 a.x0) := by go_simp
  have a1 : ((w.alloc (.cells #[.int .u64 a.x0, .int .u64 a.x1, .int .u64 a.x2, .int .u64 a.x3] 51)).alloc (.cells #[.int .u64 0, .int .u64 0, .int .u64 0, .int .u64 0] 51)).cell? ⟨w.heap.size, 1, none⟩ = some (.int .u64 a.x1) := by go_simp
  have a2 : ((w.alloc (.cells #[.int .u64 a.x0, .int .u64 a.x1, .int .u64 a.x2, .int .u64 a.x3] 51)).alloc (.cells #[.int .u64 0, .int .u64 0, .int .u64 0, .int .u64 0] 51)).cell? ⟨w.heap.size, 2, none⟩ = some (.int .u64 a.x2) := by go_simp
  have a3 : ((w.alloc (.cells #[.int .u64 a.x0, .int .u64 a.x1, .int .u64 a.x2, .int .u64 a.x3] 51)).alloc (.cells #[.int .u64 0, .int .u64 0, .int .u64 0, .int .u64 0] 51)).cell? ⟨w.heap.size, 3, none⟩ = some (.int .u64 a.x3) := by go_simp
  have r0 : ((w.alloc (.cells #[.int .u64 a.x0, .int .u64 a.x1, .int .u64 a.x2, .int .u64 a.x3] 51)).alloc (.cells #[.int .u64 0, .int .u64 0, .int .u64 0, .int .u64 0] 51)).cell? ⟨w.heap.size + 1, 0, none⟩ = some (.int .u64 0) := by go_simp
  have r1 : ((w.alloc (.cells #[.int .u64 a.x0, .int .u64 a.x1, .int .u64 a.x2, .int .u64 a.x3] 51)).alloc (.cells #[.int .u64 0, .int .u64 0, .int .u64 0, .int .u64 0] 51)).cell? ⟨w.heap.size + 1, 1, none⟩ = some (.int .u64 0) := by go_simp
  have r2 : ((w.alloc (.cells #[.int .u64 a.x0, .int .u64 a.x1, .int .u64 a.x2, .int .u64 a.x3] 51)).alloc (.cells #[.int .u64 0, .int .u64 0, .int .u64 0, .int .u64 0] 51)).cell? ⟨w.heap.size + 1, 2, none⟩ = some (.int .u64 0) := by go_simp
  have r3 : ((w.alloc (.cells #[.int .u64 a.x0, .int .u64 a.x1, .int .u64 a.x2, .int .u64 a.x3] 51)).alloc (.cells #[.int .u64 0, .int .u64 0, .int .u64 0, .int .u64 0] 51)).cell? ⟨w.heap.size + 1, 3, none⟩ = some (.int .u64 0) := by go_simp
  have z0 : ((w.alloc (.cells #[.int .u64 a.x0, .int .u64 a.x1, .int .u64 a.x2, .int .u64 a.x3] 51)).alloc (.cells #[.int .u64 0, .int .u64 0, .int .u64 0, .int .u64 0] 51)).frozen? ⟨w.heap.size + 1, 0, none⟩ = false := by go_simp
  have z1 : ((w.alloc (.cells #[.int .u64 a.x0, .int .u64 a.x1, .int .u64 a.x2, .int .u64 a.x3] 51)).alloc (.cells #[.int .u64 0, .int .u64 0, .int .u64 0, .int .u64 0] 51)).frozen? ⟨w.heap.size + 1, 1, none⟩ = false := by go_simp
  have z2 : ((w.alloc (.cells #[.int .u64 a.x0, .int .u64 a.x1, .int .u64 a.x2, .int .u64 a.x3] 51)).alloc (.cells #[.int .u64 0, .int .u64 0, .int .u64 0, .int .u64 0] 51)).frozen? ⟨w.heap.size + 1, 2, none⟩ = false := by go_simp
  have z3 : ((w.alloc (.cells #[.int .u64 a.x0, .int .u64 a.x1, .int .u64 a.x2, .int .u64 a.x3] 51)).alloc (.cells #[.int .u64 0, .int .u64 0, .int .u64 0, .int .u64 0] 51)).frozen? ⟨w.heap.size + 1, 3, none⟩ = false := by go_simp
  obtain ⟨w2, hw2⟩ : ∃ w2, ((w.alloc (.cells #[.int .u64 a.x0, .int .u64 a.x1, .int .u64 a.x2, .int .u64 a.x3] 51)).alloc (.cells #[.int .u64 0, .int .u64 0, .int .u64 0, .int .u64 0] 51)) = w2 := ⟨_, rfl⟩
  rw [hw2] at B2 SZ a0 a1 a2 a3 r0 r1 r2 r3 z0 z1 z2 z3
  have H2 := hH.keep B2
  obtain ⟨x, y, h0, h1, f0, f1, h2⟩ := id H2
  obtain ⟨z, hz⟩ : ∃ z, IntKind.i64.wrap (y + 1) = z := ⟨_, rfl⟩
  have G3 := gb_set w2 H 1 (.int .i64 z)
  have H3 := hidden (H2.set (j := 1) (z := z) (by omega))
  have T3 := (hT.keep B2).keep0 G3 (H2.tb (hT.keep B2))
  have GW := hidden ((gbI B2 (some H)).trans G3)
  have SP := hidden (lDouble_any a ha (w2.setCell ⟨H, 1, none⟩ (.int .i64 z)) T3)
  obtain ⟨q, hq⟩ : ∃ q, lst (a.n + a.n) = q := ⟨_, rfl⟩
  rw [hq] at SP ⊢
  unfold E4.v at SP ⊢
  have a0' := (World.cell?_setCell_far w2 ⟨H, 1, none⟩ ⟨w.heap.size, 0, none⟩ (.int .i64 z) (by have := LH.out; simp only; omega)).trans a0
  have a1' := (World.cell?_setCell_far w2 ⟨H, 1, none⟩ ⟨w.heap.size, 1, none⟩ (.int .i64 z) (by have := LH.out; simp only; omega)).trans a1
  have a2' := (World.cell?_setCell_far w2 ⟨H, 1, none⟩ ⟨w.heap.size, 2, none⟩ (.int .i64 z) (by have := LH.out; simp only; omega)).trans a2
  have a3' := (World.cell?_setCell_far w2 ⟨H, 1, none⟩ ⟨w.heap.size, 3, none⟩ (.int .i64 z) (by have := LH.out; simp only; omega)).trans a3
  have r0' := (World.cell?_setCell_far w2 ⟨H, 1, none⟩ ⟨w.heap.size + 1, 0, none⟩ (.int .i64 z) (by have := LH.out; simp only; omega)).trans r0
  have r1' := (World.cell?_setCell_far w2 ⟨H, 1, none⟩ ⟨w.heap.size + 1, 1, none⟩ (.int .i64 z) (by have := LH.out; simp only; omega)).trans r1
  have r2' := (World.cell?_setCell_far w2 ⟨H, 1, none⟩ ⟨w.heap.size + 1, 2, none⟩ (.int .i64 z) (by have := LH.out; simp only; omega)).trans r2
  have r3' := (World.cell?_setCell_far w2 ⟨H, 1, none⟩ ⟨w.heap.size + 1, 3, none⟩ (.int .i64 z) (by have := LH.out; simp only; omega)).trans r3
  have z0' : (w2.setCell ⟨H, 1, none⟩ (.int .i64 z)).frozen? ⟨w.heap.size + 1, 0, none⟩ = false := by simpa using z0
  have z1' : (w2.setCell ⟨H, 1, none⟩ (.int .i64 z)).frozen? ⟨w.heap.size + 1, 1, none⟩ = false := by simpa using z1
  have z2' : (w2.setCell ⟨H, 1, none⟩ (.int .i64 z)).frozen? ⟨w.heap.size + 1, 2, none⟩ = false := by simpa using z2
  have z3' : (w2.setCell ⟨H, 1, none⟩ (.int .i64 z)).frozen? ⟨w.heap.size + 1, 3, none⟩ = false := by simpa using z3
  have S3 : Hid ((w2.setCell ⟨H, 1, none⟩ (.int .i64 z)).heap.size = w.heap.size + 1 + 1) := hidden (by have := SZ.out; simpa using this)
  have m1 := mt_Double a
  clear G3 T3 hH hT B2 H2 h2 hq
  go_enter Tryz.func109, Tryz.ntmps109
  go_upto_region 1 with fail
  go_upto_region 2 with fail
  generalize (w2.setCell ⟨H, 1, none⟩ (.int .i64 z)) = w3 at *
  clear a0 a1 a2 a3 r0 r1 r2 r3 z0 z1 z2 z3 SZ hw2 h0 h1 f0 f1
  go_wp2_with (first | (go_at_call 143; refine SP.out.mono ?_; rintro e wa ⟨rfl, ha⟩; have q0 := cell_keep r0' ha; have q1 := cell_keep r1' ha; have q2 := cell_keep r2' ha; have q3 := cell_keep r3' ha; have lt := World.block_lt_of_cell? _ _ r0'; have y0 := ((bcell ha).2 _ 0 lt).trans z0'; have y1 := ((bcell ha).2 _ 1 lt).trans z1'; have y2 := ((bcell ha).2 _ 2 lt).trans z2'; have y3 := ((bcell ha).2 _ 3 lt).trans z3'; have BA := hidden ha; clear ha lt))
  have nh : w.heap.size + 1 ≠ H := by have := LH.out; omega
  refine bodyPost_ret (v := .agg #[.int .u64 q.x0, .int .u64 q.x1, .int .u64 q.x2, .int .u64 q.x3]) (by simp [results, Tryz.results109, go_sem, q0, q1, q2, q3]) rfl ⟨rfl, ((((H3.out.keep BA.out).far nh).far nh).far nh).far nh, gb_box (gb_box (gb_box (gb_box (GW.out.trans (gbI BA.out _)) (by omega)) (by omega)) (by omega)) (by omega)⟩
end Go.Proofs.YtapieajkmpnmoaaGreatDoor.Li
namespace Go.Proofs.YtapieajkmpnmoaaGreatDoor.Li
open Go.RowKit
set_option linter.unusedVariables false
theorem range_gb {w w' : World} {b o H : Nat} {cs : List Value} (h : w.rangeAt b o cs) (hg : w.grownBy w' (some H)) (hn : b ≠ H) : w'.rangeAt b o cs := fun j v hv => hg.cell (h j v hv) (fun e => hn (Option.some.inj e))
theorem range_bl {w w' : World} {b o : Nat} {cs : List Value} (h : w.rangeAt b o cs) (hb : Below w.heap.size w w') : w'.rangeAt b o cs := fun j v hv => cell_keep (h j v hv) hb
theorem range4 {w : World} {b o : Nat} {p : E4} (h0 : w.cell? ⟨b, o, none⟩ = some (.int .u64 p.x0)) (h1 : w.cell? ⟨b, o + 1, none⟩ = some (.int .u64 p.x1)) (h2 : w.cell? ⟨b, o + 2, none⟩ = some (.int .u64 p.x2)) (h3 : w.cell? ⟨b, o + 3, none⟩ = some (.int .u64 p.x3)) : w.rangeAt b o [.int .u64 p.x0, .int .u64 p.x1, .int .u64 p.x2, .int .u64 p.x3] := fun j v hv => by
  match j, hv with
  | 0, hv => simp at hv; subst hv; exact h0
  | 1, hv => simp at hv; subst hv; exact h1
  | 2, hv => simp at hv; subst hv; exact h2
  | 3, hv => simp at hv; subst hv; exact h3
theorem there4 {w : World} {b o : Nat} {p : E4} (h : w.rangeAt b o [.int .u64 p.x0, .int .u64 p.x1, .int .u64 p.x2, .int .u64 p.x3]) (f : ∀ j, j < 4 → w.frozen? ⟨b, o + j, none⟩ = false) : w.there b o 4 := fun j hj => by
  refine ⟨?_, f j hj⟩
  match j, hj with
  | 0, _ => rw [h 0 _ rfl]; rfl
  | 1, _ => rw [h 1 _ rfl]; rfl
  | 2, _ => rw [h 2 _ rfl]; rfl
  | 3, _ => rw [h 3 _ rfl]; rfl
theorem there_bl {w w' : World} {b o n : Nat} (h : w.there b o n) (hb : Below w.heap.size w w') : w'.there b o n := fun j hj => by
  obtain ⟨h1, h2⟩ := h j hj
  obtain ⟨u, hu⟩ := Option.isSome_iff_exists.1 h1
  have hl := World.block_lt_of_cell? w _ hu
  exact ⟨by rw [hb.cell (p := ⟨b, o + j, none⟩) hl]; exact h1, by rw [hb.frozen (p := ⟨b, o + j, none⟩) hl]; exact h2⟩
def ly2o : Array Oper := #[{ dst := some 10, op := Op.move (Operand.tmp 0), type := 150, pos := "ways.go:33", after := #[], guard := none },
  { dst := some 11, op := Op.move (Operand.tmp 1), type := 179, pos := "ways.go:33", after := #[], guard := none },
  { dst := some 12, op := Op.nilCheck (Operand.tmp 11), type := 0, pos := "ways.go:33", after := #[{ on := 1, ground := Ground.data }], guard := none },
  { dst := some 13, op := Op.fieldAddr 181 (Operand.tmp 12) 0, type := 0, pos := "ways.go:33", after := #[{ on := 2, ground := Ground.data }], guard := none },
  { dst := some 14, op := Op.load 51 (Operand.tmp 13), type := 51, pos := "ways.go:33", after := #[{ on := 3, ground := Ground.data }], guard := none },
  { dst := some 15, op := Op.load 51 (Operand.tmp 5), type := 51, pos := "ways.go:33", after := #[], guard := none },
  { dst := some 16, op := Op.call { callee := Callee.value (Operand.func 55), args := #[Operand.tmp 10, Operand.tmp 14, Operand.tmp 15], argTypes := #[150, 51, 51] }, type := 51, pos := "ways.go:33", after := #[{ on := 0, ground := Ground.data }, { on := 4, ground := Ground.data }, { on := 5, ground := Ground.data }], guard := none },
  { dst := none, op := Op.store 51 (Operand.tmp 5) (Operand.tmp 16), type := 0, pos := "ways.go:33", after := #[{ on := 6, ground := Ground.data }, { on := 6, ground := Ground.chain }, { on := 0, ground := Ground.phase }, { on := 1, ground := Ground.phase }, { on := 2, ground := Ground.phase }, { on := 3, ground := Ground.phase }, { on := 4, ground := Ground.phase }, { on := 5, ground := Ground.phase }, { on := 6, ground := Ground.phase }], guard := none }]
set_option maxRecDepth 100000 in
set_option maxHeartbeats 16000000 in
theorem ly2 (Q : Exit → Act → World → Prop) (H D o T5 : Nat) (q p r : E4) (u2 u3 u4 u6 u7 u8 u9 u10 u11 u12 u13 u14 u15 u16 u17 u18 u19 u20 : Value) (W : World)
    (neDH : D ≠ H) (neDT : D ≠ T5) (neTH : T5 ≠ H) (rd : W.rangeAt D o [.int .u64 q.x0, .int .u64 q.x1, .int .u64 q.x2, .int .u64 q.x3]) (rb : W.rangeAt T5 0 [.int .u64 p.x0, .int .u64 p.x1, .int .u64 p.x2, .int .u64 p.x3]) (th : W.there T5 0 4)
    (C6 : Hid (Calls Tryz.prog 55 #[.pointer (some ⟨H, 0, none⟩), .agg #[.int .u64 q.x0, .int .u64 q.x1, .int .u64 q.x2, .int .u64 q.x3], .agg #[.int .u64 p.x0, .int .u64 p.x1, .int .u64 p.x2, .int .u64 p.x3]] W.drew fun e w' => e = .returned (.agg #[.int .u64 r.x0, .int .u64 r.x1, .int .u64 r.x2, .int .u64 r.x3]) ∧ Hd w' H ∧ W.drew.grownBy w' (some H)))
    (HQ : Hid (∀ (wm wz : World), Hd wm H → W.drew.grownBy wm (some H) → wz = wm.setCells T5 0 [.int .u64 r.x0, .int .u64 r.x1, .int .u64 r.x2, .int .u64 r.x3] → Q .normal ⟨#[.pointer (some ⟨H, 0, none⟩), .pointer (some ⟨D, o, none⟩), u2, u3, u4, .pointer (some ⟨T5, 0, none⟩), u6, u7, u8, u9, .pointer (some ⟨H, 0, none⟩), .pointer (some ⟨D, o, none⟩), .pointer (some ⟨D, o, none⟩), .pointer (some ⟨D, o, none⟩), .agg #[.int .u64 q.x0, .int .u64 q.x1, .int .u64 q.x2, .int .u64 q.x3], .agg #[.int .u64 p.x0, .int .u64 p.x1, .int .u64 p.x2, .int .u64 p.x3], .agg #[.int .u64 r.x0, .int .u64 r.x1, .int .u64 r.x2, .int .u64 r.x3], u17, u18, u19, u20], []⟩ wz)) : (Code.region 2 ly2o true).wp Tryz.prog Q ⟨#[.pointer (some ⟨H, 0, none⟩), .pointer (some ⟨D, o, none⟩), u2, u3, u4, .pointer (some ⟨T5, 0, none⟩), u6, u7, u8, u9, u10, u11, u12, u13, u14, u15, u16, u17, u18, u19, u20], []⟩ W := by
  have RG := hidden (range_bl rb (bl_drew W))
  have TH := hidden (there_bl th (bl_drew W))
  have UL : Hid (Tryz.prog.underlying 51 = some _) := hidden Tryz.underlying51
  have IL : Hid ((Tryz.prog.info? 51).map (·.size) = some ([.int .u64 q.x0, .int .u64 q.x1, .int .u64 q.x2, .int .u64 q.x3] : List Value).length) := hidden (by kernel_rfl)
  clear rb th
  unfold ly2o
  refine wp_region_noPanic ?_
  refine wp_region_held_drew (S := fun x => x.rangeAt D o [.int .u64 q.x0, .int .u64 q.x1, .int .u64 q.x2, .int .u64 q.x3]) (by kernel_rfl) (range_bl rd (bl_drew W)) (fun hH0 => ?_)
  refine wpAnyH_take (i := 0) (oi := { dst := some 10, op := Op.move (Operand.tmp 0), type := 150, pos := "ways.go:33", after := #[], guard := none }) (v := .pointer (some ⟨H, 0, none⟩)) rfl (by kernel_rfl) (by kernel_rfl) (by kernel_rfl) (fun _ _ _ h => h) (Or.inl ⟨by rfl, fun w0 hSw => ?_⟩) hH0 ?_
  · (clear hSw; go_simp)
  simp only [Act.put, List.setIfInBounds_toArray, List.set_cons_zero, List.set_cons_succ]
  refine wpAnyH_take (i := 1) (oi := { dst := some 11, op := Op.move (Operand.tmp 1), type := 179, pos := "ways.go:33", after := #[], guard := none }) (v := .pointer (some ⟨D, o, none⟩)) rfl (by kernel_rfl) (by kernel_rfl) (by kernel_rfl) (fun _ _ _ h => h) (Or.inl ⟨by rfl, fun w0 hSw => ?_⟩) hH0 ?_
  · (clear hSw; go_simp)
  simp only [Act.put, List.setIfInBounds_toArray, List.set_cons_zero, List.set_cons_succ]
  refine wpAnyH_take (i := 2) (oi := { dst := some 12, op := Op.nilCheck (Operand.tmp 11), type := 0, pos := "ways.go:33", after := #[{ on := 1, ground := Ground.data }], guard := none }) (v := .pointer (some ⟨D, o, none⟩)) rfl (by kernel_rfl) (by kernel_rfl) (by kernel_rfl) (fun _ _ _ h => h) (Or.inl ⟨by rfl, fun w0 hSw => ?_⟩) hH0 ?_
  · (clear hSw; go_simp)
  simp only [Act.put, List.setIfInBounds_toArray, List.set_cons_zero, List.set_cons_succ]
  refine wpAnyH_take (i := 3) (oi := { dst := some 13, op := Op.fieldAddr 181 (Operand.tmp 12) 0, type := 0, pos := "ways.go:33", after := #[{ on := 2, ground := Ground.data }], guard := none }) (v := .pointer (some ⟨D, o, none⟩)) rfl (by kernel_rfl) (by kernel_rfl) (by kernel_rfl) (fun _ _ _ h => h) (Or.inl ⟨by rfl, fun w0 hSw => ?_⟩) hH0 ?_
  · (clear hSw; go_simp)
  simp only [Act.put, List.setIfInBounds_toArray, List.set_cons_zero, List.set_cons_succ]
  refine wpAnyH_take (i := 4) (oi := { dst := some 14, op := Op.load 51 (Operand.tmp 13), type := 51, pos := "ways.go:33", after := #[{ on := 3, ground := Ground.data }], guard := none }) (v := .agg ([.int .u64 q.x0, .int .u64 q.x1, .int .u64 q.x2, .int .u64 q.x3]).toArray) rfl (by kernel_rfl) (by kernel_rfl) (by kernel_rfl) (fun _ _ _ h => h) (yieldsIf_load_mid (by rfl) 51 _ rfl (D) (o) rfl ([.int .u64 q.x0, .int .u64 q.x1, .int .u64 q.x2, .int .u64 q.x3]) _ (fun w0 hSw => hSw) UL.out rfl IL.out) hH0 ?_
  simp only [Act.put, List.setIfInBounds_toArray, List.set_cons_zero, List.set_cons_succ]
  refine wpAnyH_ready (rs := [5]) (by kernel_rfl) (by simp) ?_
  refine AllReadyH.cons (o := { dst := some 15, op := Op.load 51 (Operand.tmp 5), type := 51, pos := "ways.go:33", after := #[], guard := none }) rfl (fun K hK => ?_) AllReadyH.nil
  have HH := hidden hH0
  clear hH0
  refine wp_load_mid 51 _ rfl T5 0 (by rfl) [.int .u64 p.x0, .int .u64 p.x1, .int .u64 p.x2, .int .u64 p.x3] _ RG.out Tryz.underlying51 rfl i4_L ?_
  simp only [Act.put, List.setIfInBounds_toArray, List.set_cons_zero, List.set_cons_succ]
  have SN := HH
  clear HH
  refine hK.out _ _ SN.out (fun hH1 => ?_)
  clear hK K SN
  refine wpAnyH_ready (rs := [6]) (by kernel_rfl) (by simp) ?_
  refine AllReadyH.cons (o := { dst := some 16, op := Op.call { callee := Callee.value (Operand.func 55), args := #[Operand.tmp 10, Operand.tmp 14, Operand.tmp 15], argTypes := #[150, 51, 51] }, type := 51, pos := "ways.go:33", after := #[{ on := 0, ground := Ground.data }, { on := 4, ground := Ground.data }, { on := 5, ground := Ground.data }], guard := none }) rfl (fun K hK => ?_) AllReadyH.nil
  have HH := hidden hH1
  clear hH1
  go_simp
  refine (C6.out).mono ?_
  rintro e wn2 ⟨rfl, hH, hg⟩
  have HG := hidden (hH)
  have GG := hidden (hg)
  replace TH := hidden (there_gb TH.out hg neTH)
  have SN := hidden (range_gb HH.out hg neDH)
  clear HH C6 hH hg RG
  go_wp2_with fail
  refine hK.out _ _ SN.out (fun hH2 => ?_)
  clear hK K SN
  refine wpAnyH_ready (rs := [7]) (by kernel_rfl) (by simp) ?_
  refine AllReadyH.cons (o := { dst := none, op := Op.store 51 (Operand.tmp 5) (Operand.tmp 16), type := 0, pos := "ways.go:33", after := #[{ on := 6, ground := Ground.data }, { on := 6, ground := Ground.chain }, { on := 0, ground := Ground.phase }, { on := 1, ground := Ground.phase }, { on := 2, ground := Ground.phase }, { on := 3, ground := Ground.phase }, { on := 4, ground := Ground.phase }, { on := 5, ground := Ground.phase }, { on := 6, ground := Ground.phase }], guard := none }) rfl (fun K hK => ?_) AllReadyH.nil
  have HH := hidden hH2
  clear hH2
  refine wp_storeE 51 _ _ rfl T5 0 ([.int .u64 r.x0, .int .u64 r.x1, .int .u64 r.x2, .int .u64 r.x3]) (by rfl) (by rfl) TH.out i4_L (one4 r) rfl (fun wn3 hw => ?_)
  have SN := hidden (World.rangeAt_setCells_apart HH.out T5 0 [.int .u64 r.x0, .int .u64 r.x1, .int .u64 r.x2, .int .u64 r.x3] (Or.inl neDT))
  have HW := hidden (hw)
  rw [← hw] at SN
  clear HH hw
  refine hK.out _ _ SN.out (fun hH3 => ?_)
  clear hK K SN
  have HH := hidden hH3
  have FQ := hidden (HQ.out _ _ HG.out GG.out HW.out)
  refine wpAnyH_done (by kernel_rfl) ?_ _
  refine NoPanic.normal ?_
  exact FQ.out
/-- what lay leaves -/
def Ly (w w' : World) (H D o : Nat) (x : Nat → Int) : Prop := ∃ (z : E4) (wm : World), w.grownBy wm (some H) ∧ w' = (setS wm D o z).setCell ⟨D, o + 4, none⟩ (.bool true) ∧ (z.ok ∧ ∀ t, lst z.n = lst (x t)) ∧ Hd wm H
set_option maxRecDepth 100000 in
set_option maxHeartbeats 8000000 in
theorem lay_no (H D o : Nat) (p q : E4) (x : Nat → Int) (w : World) (hT : Tb w) (hH : Hd w H) (hp : p.ok ∧ ∀ t, lst p.n = lst (x t)) (neDH : D ≠ H) (c0 : w.cell? ⟨D, o, none⟩ = some (.int .u64 q.x0)) (c1 : w.cell? ⟨D, o + 1, none⟩ = some (.int .u64 q.x1)) (c2 : w.cell? ⟨D, o + 2, none⟩ = some (.int .u64 q.x2)) (c3 : w.cell? ⟨D, o + 3, none⟩ = some (.int .u64 q.x3)) (c4 : w.cell? ⟨D, o + 4, none⟩ = some (.bool false)) (f0 : w.frozen? ⟨D, o, none⟩ = false) (f1 : w.frozen? ⟨D, o + 1, none⟩ = false) (f2 : w.frozen? ⟨D, o + 2, none⟩ = false) (f3 : w.frozen? ⟨D, o + 3, none⟩ = false) (f4 : w.frozen? ⟨D, o + 4, none⟩ = false) :
    Calls Tryz.prog 99 #[.pointer (some ⟨H, 0, none⟩), .pointer (some ⟨D, o, none⟩), .agg #[.int .u64 p.x0, .int .u64 p.x1, .int .u64 p.x2, .int .u64 p.x3]] w fun e w' => e = .returned (.tuple #[]) ∧ Ly w w' H D o x := by
  have B1 := bl_alloc w (.cells #[.int .u64 p.x0, .int .u64 p.x1, .int .u64 p.x2, .int .u64 p.x3] 51)
  have LD := World.block_lt_of_cell? w _ c0
  have a0 := cell_keep c0 B1
  have b0 := ((bcell B1).2 D o LD).trans f0
  have a1 := cell_keep c1 B1
  have b1 := ((bcell B1).2 D (o + 1) LD).trans f1
  have a2 := cell_keep c2 B1
  have b2 := ((bcell B1).2 D (o + 2) LD).trans f2
  have a3 := cell_keep c3 B1
  have b3 := ((bcell B1).2 D (o + 3) LD).trans f3
  have a4 := cell_keep c4 B1
  have b4 := ((bcell B1).2 D (o + 4) LD).trans f4
  have e0 : (w.alloc (.cells #[.int .u64 p.x0, .int .u64 p.x1, .int .u64 p.x2, .int .u64 p.x3] 51)).cell? ⟨w.heap.size, 0, none⟩ = some (.int .u64 p.x0) := by go_simp
  have e1 : (w.alloc (.cells #[.int .u64 p.x0, .int .u64 p.x1, .int .u64 p.x2, .int .u64 p.x3] 51)).cell? ⟨w.heap.size, 1, none⟩ = some (.int .u64 p.x1) := by go_simp
  have e2 : (w.alloc (.cells #[.int .u64 p.x0, .int .u64 p.x1, .int .u64 p.x2, .int .u64 p.x3] 51)).cell? ⟨w.heap.size, 2, none⟩ = some (.int .u64 p.x2) := by go_simp
  have e3 : (w.alloc (.cells #[.int .u64 p.x0, .int .u64 p.x1, .int .u64 p.x2, .int .u64 p.x3] 51)).cell? ⟨w.heap.size, 3, none⟩ = some (.int .u64 p.x3) := by go_simp
  have LY : Hid (Ly w ((setS (w.alloc (.cells #[.int .u64 p.x0, .int .u64 p.x1, .int .u64 p.x2, .int .u64 p.x3] 51)) D o p).setCell ⟨D, o + 4, none⟩ (.bool true)) H D o x) := hidden ⟨p, _, gbI B1 _, rfl, hp, hH.keep B1⟩
  unfold setS at LY
  clear hT hH hp c0 f0 c1 f1 c2 f2 c3 f3 c4 f4 B1
  go_enter Tryz.func99, Tryz.ntmps99
  go_upto_region 1 with fail
  generalize (w.alloc (.cells #[.int .u64 p.x0, .int .u64 p.x1, .int .u64 p.x2, .int .u64 p.x3] 51)) = w1 at *
  go_wp2_with fail
  refine bodyPost_end (v := .tuple #[]) (by simp [results, Tryz.results99, go_sem]) rfl ⟨rfl, LY.out⟩
set_option maxRecDepth 100000 in
set_option maxHeartbeats 8000000 in
theorem lay_on (H D o : Nat) (p q : E4) (x y : Nat → Int) (w : World) (hT : Tb w) (hH : Hd w H) (hp : p.ok ∧ ∀ t, lst p.n = lst (x t)) (hq : q.ok ∧ ∀ t, lst q.n = lst (y t)) (neDH : D ≠ H) (c0 : w.cell? ⟨D, o, none⟩ = some (.int .u64 q.x0)) (c1 : w.cell? ⟨D, o + 1, none⟩ = some (.int .u64 q.x1)) (c2 : w.cell? ⟨D, o + 2, none⟩ = some (.int .u64 q.x2)) (c3 : w.cell? ⟨D, o + 3, none⟩ = some (.int .u64 q.x3)) (c4 : w.cell? ⟨D, o + 4, none⟩ = some (.bool true)) (f0 : w.frozen? ⟨D, o, none⟩ = false) (f1 : w.frozen? ⟨D, o + 1, none⟩ = false) (f2 : w.frozen? ⟨D, o + 2, none⟩ = false) (f3 : w.frozen? ⟨D, o + 3, none⟩ = false) (f4 : w.frozen? ⟨D, o + 4, none⟩ = false) :
    Calls Tryz.prog 99 #[.pointer (some ⟨H, 0, none⟩), .pointer (some ⟨D, o, none⟩), .agg #[.int .u64 p.x0, .int .u64 p.x1, .int .u64 p.x2, .int .u64 p.x3]] w fun e w' => e = .returned (.tuple #[]) ∧ Ly w w' H D o (fun t => y t + x t) := by
  have B1 := bl_alloc w (.cells #[.int .u64 p.x0, .int .u64 p.x1, .int .u64 p.x2, .int .u64 p.x3] 51)
  have LD := World.block_lt_of_cell? w _ c0
  have LH := hH.lt
  have a0 := cell_keep c0 B1
  have b0 := ((bcell B1).2 D o LD).trans f0
  have a1 := cell_keep c1 B1
  have b1 := ((bcell B1).2 D (o + 1) LD).trans f1
  have a2 := cell_keep c2 B1
  have b2 := ((bcell B1).2 D (o + 2) LD).trans f2
  have a3 := cell_keep c3 B1
  have b3 := ((bcell B1).2 D (o + 3) LD).trans f3
  have a4 := cell_keep c4 B1
  have b4 := ((bcell B1).2 D (o + 4) LD).trans f4
  have e0 : (w.alloc (.cells #[.int .u64 p.x0, .int .u64 p.x1, .int .u64 p.x2, .int .u64 p.x3] 51)).cell? ⟨w.heap.size, 0, none⟩ = some (.int .u64 p.x0) := by go_simp
  have e1 : (w.alloc (.cells #[.int .u64 p.x0, .int .u64 p.x1, .int .u64 p.x2, .int .u64 p.x3] 51)).cell? ⟨w.heap.size, 1, none⟩ = some (.int .u64 p.x1) := by go_simp
  have e2 : (w.alloc (.cells #[.int .u64 p.x0, .int .u64 p.x1, .int .u64 p.x2, .int .u64 p.x3] 51)).cell? ⟨w.heap.size, 2, none⟩ = some (.int .u64 p.x2) := by go_simp
  have e3 : (w.alloc (.cells #[.int .u64 p.x0, .int .u64 p.x1, .int .u64 p.x2, .int .u64 p.x3] 51)).cell? ⟨w.heap.size, 3, none⟩ = some (.int .u64 p.x3) := by go_simp
  have th : (w.alloc (.cells #[.int .u64 p.x0, .int .u64 p.x1, .int .u64 p.x2, .int .u64 p.x3] 51)).there w.heap.size 0 4 := there_newM w [.int .u64 p.x0, .int .u64 p.x1, .int .u64 p.x2, .int .u64 p.x3] 51
  have SZ : Hid ((w.alloc (.cells #[.int .u64 p.x0, .int .u64 p.x1, .int .u64 p.x2, .int .u64 p.x3] 51)).heap.size = w.heap.size + 1) := hidden (by simp only [World.size_alloc])
  have BD := bl_trans B1 (bl_drew _)
  obtain ⟨r, hr⟩ : ∃ r, lst (q.n + p.n) = r := ⟨_, rfl⟩
  have C6 := hidden (hadd H q p (w.alloc (.cells #[.int .u64 p.x0, .int .u64 p.x1, .int .u64 p.x2, .int .u64 p.x3] 51)).drew (hT.keep BD) (hH.keep BD) hq.1 hp.1)
  rw [hr] at C6
  unfold E4.v at C6
  have HRR : Hid (r.ok ∧ ∀ t, lst r.n = lst (y t + x t)) := hidden (by rw [← hr]; exact ⟨lst_ok _, fun t => by rw [lst_n']; exact lst_two (hq.2 t) (hp.2 t)⟩)
  have GB := hidden (gbI BD (some H))
  clear hT hH hp hq hr c0 f0 c1 f1 c2 f2 c3 f3 c4 f4 B1 BD
  go_enter Tryz.func99, Tryz.ntmps99
  go_upto_region 1 with fail
  generalize (w.alloc (.cells #[.int .u64 p.x0, .int .u64 p.x1, .int .u64 p.x2, .int .u64 p.x3] 51)) = w1 at *
  go_upto_region 2 with fail
  refine ly2 _ H D o w.heap.size q p r _ _ _ _ _ _ _ _ _ _ _ _ _ _ _ _ _ _ w1 neDH (by simp only at LD; omega) (by omega) (range4 a0 a1 a2 a3) (range4 e0 e1 e2 e3) th C6 (hidden ?_)
  intro wm wz hH hg hw
  have hw1 : wz = setS wm w.heap.size 0 r := hw
  have nD : w.heap.size ≠ D := by simp only at LD; omega
  have nH : w.heap.size ≠ H := by omega
  have tk : wm.there w.heap.size 0 4 := there_gb (there_bl th (bl_drew w1)) hg nH
  have RZ : wz.rangeAt w.heap.size 0 [.int .u64 r.x0, .int .u64 r.x1, .int .u64 r.x2, .int .u64 r.x3] := by rw [hw]; exact World.rangeAt_setCells_same _ _ _ _ tk
  have kc : ∀ (j : Nat) (v : Value), w1.cell? ⟨D, j, none⟩ = some v → wz.cell? ⟨D, j, none⟩ = some v := fun j v hv => by rw [hw1, setS_far0 _ _ _ _ _ (by simp only; omega)]; exact hg.cell (cell_keep hv (bl_drew w1)) (fun e => neDH (Option.some.inj e))
  have kf : ∀ (j : Nat) (v : Value), w1.cell? ⟨D, j, none⟩ = some v → w1.frozen? ⟨D, j, none⟩ = false → wz.frozen? ⟨D, j, none⟩ = false := fun j v hv hf => by rw [hw1, setS_frozen, gb_frozen_some hg (by rw [cell_keep hv (bl_drew w1)]; rfl) neDH]; simpa using hf
  have k0 := kc _ _ a0
  have l0 := kf _ _ a0 b0
  have k1 := kc _ _ a1
  have l1 := kf _ _ a1 b1
  have k2 := kc _ _ a2
  have l2 := kf _ _ a2 b2
  have k3 := kc _ _ a3
  have l3 := kf _ _ a3 b3
  have k4 := kc _ _ a4
  have l4 := kf _ _ a4 b4
  have m0 : wz.cell? ⟨w.heap.size, 0, none⟩ = some (.int .u64 r.x0) := RZ 0 _ rfl
  have m1 : wz.cell? ⟨w.heap.size, 1, none⟩ = some (.int .u64 r.x1) := RZ 1 _ rfl
  have m2 : wz.cell? ⟨w.heap.size, 2, none⟩ = some (.int .u64 r.x2) := RZ 2 _ rfl
  have m3 : wz.cell? ⟨w.heap.size, 3, none⟩ = some (.int .u64 r.x3) := RZ 3 _ rfl
  have GZ : w.grownBy wz (some H) := by rw [hw1]; unfold setS; exact gb_box (gb_box (gb_box (gb_box (GB.out.trans hg) (Nat.le_refl _)) (Nat.le_refl _)) (Nat.le_refl _)) (Nat.le_refl _)
  have HZ : Hd wz H := by rw [hw1]; unfold setS; exact (((hH.far nH).far nH).far nH).far nH
  have LY : Hid (Ly w ((setS wz D o r).setCell ⟨D, o + 4, none⟩ (.bool true)) H D o (fun t => y t + x t)) := hidden ⟨r, wz, GZ, rfl, HRR.out, HZ⟩
  unfold setS at LY
  clear GZ HZ hw hw1 hH hg a0 a1 a2 a3 a4 b0 b1 b2 b3 b4 e0 e1 e2 e3 C6 GB SZ th tk RZ kc kf HRR
  go_wp2_with fail
  refine bodyPost_end (v := .tuple #[]) (by simp [results, Tryz.results99, go_sem]) rfl ⟨rfl, LY.out⟩
end Go.Proofs.YtapieajkmpnmoaaGreatDoor.Li
namespace Go.Proofs.YtapieajkmpnmoaaGreatDoor.Li
open Go.RowKit
set_option linter.unusedVariables false
theorem Rm.gb {w w' : World} {b n H : Nat} {g : Nat → E4} (h : Rm w b n g) (hg : w.grownBy w' (some H)) (hn : b ≠ H) : Rm w' b n g := by
  have e := hg.block b h.lt (fun e => hn (Option.some.inj e))
  have k : ∀ {j : Nat} {v : Value}, w.cell? ⟨b, j, none⟩ = some v → w'.cell? ⟨b, j, none⟩ = some v := fun hv => (World.cell?_of_block e).trans hv
  exact ⟨Nat.lt_of_lt_of_le h.lt hg.size, ⟨fun i hi => k (h.r.c0 i hi), fun i hi => k (h.r.c1 i hi), fun i hi => k (h.r.c2 i hi), fun i hi => k (h.r.c3 i hi)⟩, fun j hj => (World.frozen?_of_block e).trans (h.fr j hj)⟩
theorem Rm.range {w : World} {b n j : Nat} {g : Nat → E4} (h : Rm w b n g) (hj : j < n) : w.rangeAt b (j * 4) [.int .u64 (g j).x0, .int .u64 (g j).x1, .int .u64 (g j).x2, .int .u64 (g j).x3] := by
  have c0 := h.r.c0 j hj; have c1 := h.r.c1 j hj; have c2 := h.r.c2 j hj; have c3 := h.r.c3 j hj
  rw [Nat.zero_add] at c0 c1 c2 c3
  exact range4 c0 c1 c2 c3
/-- a row of elements of Line, the first i of them multiples -/
def Ml (w : World) (D K i : Nat) (f : Nat → Int) : Prop := ∃ g : Nat → E4, Rm w D K g ∧ ∀ j, j < i → (g j).ok ∧ ∀ t, lst (g j).n = lst (((j : Int) + 1) * f t)
theorem Ml.gb {w w' : World} {D K i H : Nat} {f : Nat → Int} (h : Ml w D K i f) (hg : w.grownBy w' (some H)) (hn : D ≠ H) : Ml w' D K i f := by
  obtain ⟨g, h1, h2⟩ := h
  exact ⟨g, Rm.gb h1 hg hn, h2⟩
theorem Ml.keep {w w' : World} {D K i : Nat} {f : Nat → Int} (h : Ml w D K i f) (hb : Below w.heap.size w w') : Ml w' D K i f := by
  obtain ⟨g, h1, h2⟩ := h
  exact ⟨g, h1.keep hb, h2⟩
theorem Ml.lt {w : World} {D K i : Nat} {f : Nat → Int} (h : Ml w D K i f) : D < w.heap.size := by
  obtain ⟨g, h1, h2⟩ := h
  exact h1.lt
theorem Ml.put {w : World} {D K i : Nat} {f : Nat → Int} (h : Ml w D K i f) (hi : i < K) {z : E4} (hz : z.ok ∧ ∀ t, lst z.n = lst (((i : Int) + 1) * f t)) : Ml (setS w D (i * 4) z) D K (i + 1) f := by
  obtain ⟨g, h1, h2⟩ := h
  refine ⟨_, h1.set i hi z, fun j hj => ?_⟩
  by_cases e : j = i
  · subst e; rw [if_pos rfl]; exact hz
  · rw [if_neg e]; exact h2 j (by omega)
theorem Ml.made (w : World) (K : Nat) (t : TypeId) (f : Nat → Int) : Ml (w.alloc (.cells (madeCells #[.int .u64 0, .int .u64 0, .int .u64 0, .int .u64 0] (K * 4)) t)) w.heap.size K 0 f := ⟨_, Rm.made w K t, fun j hj => by omega⟩
def mu5o : Array Oper := #[{ dst := some 16, op := Op.move (Operand.tmp 7), type := 46, pos := "ways.go:100", after := #[], guard := none },
  { dst := some 17, op := Op.move (Operand.tmp 8), type := 3, pos := "ways.go:100", after := #[], guard := none },
  { dst := some 18, op := Op.move (Operand.tmp 0), type := 150, pos := "ways.go:100", after := #[], guard := none },
  { dst := some 19, op := Op.move (Operand.tmp 7), type := 46, pos := "ways.go:100", after := #[], guard := none },
  { dst := some 20, op := Op.move (Operand.tmp 8), type := 3, pos := "ways.go:100", after := #[], guard := none },
  { dst := some 21, op := Op.binOp BinOp.sub 3 (Operand.tmp 20) (Operand.const (Value.int IntKind.i64 1)) 3, type := 3, pos := "ways.go:100", after := #[{ on := 4, ground := Ground.data }], guard := none },
  { dst := some 22, op := Op.indexAddr 46 (Operand.tmp 19) (Operand.tmp 21), type := 0, pos := "ways.go:100", after := #[{ on := 3, ground := Ground.data }, { on := 5, ground := Ground.data }], guard := none },
  { dst := some 23, op := Op.load 51 (Operand.tmp 22), type := 51, pos := "ways.go:100", after := #[{ on := 6, ground := Ground.data }], guard := none },
  { dst := some 24, op := Op.load 51 (Operand.tmp 4), type := 51, pos := "ways.go:100", after := #[], guard := none },
  { dst := some 25, op := Op.call { callee := Callee.value (Operand.func 55), args := #[Operand.tmp 18, Operand.tmp 23, Operand.tmp 24], argTypes := #[150, 51, 51] }, type := 51, pos := "ways.go:100", after := #[{ on := 2, ground := Ground.data }, { on := 7, ground := Ground.data }, { on := 8, ground := Ground.data }], guard := none },
  { dst := some 26, op := Op.indexAddr 46 (Operand.tmp 16) (Operand.tmp 17), type := 0, pos := "ways.go:100", after := #[{ on := 0, ground := Ground.data }, { on := 1, ground := Ground.data }, { on := 0, ground := Ground.phase }, { on := 1, ground := Ground.phase }, { on := 2, ground := Ground.phase }, { on := 3, ground := Ground.phase }, { on := 4, ground := Ground.phase }, { on := 5, ground := Ground.phase }, { on := 6, ground := Ground.phase }, { on := 7, ground := Ground.phase }, { on := 8, ground := Ground.phase }, { on := 9, ground := Ground.phase }], guard := none },
  { dst := none, op := Op.store 51 (Operand.tmp 26) (Operand.tmp 25), type := 0, pos := "ways.go:100", after := #[{ on := 10, ground := Ground.data }, { on := 9, ground := Ground.data }, { on := 9, ground := Ground.chain }, { on := 0, ground := Ground.phase }, { on := 1, ground := Ground.phase }, { on := 2, ground := Ground.phase }, { on := 3, ground := Ground.phase }, { on := 4, ground := Ground.phase }, { on := 5, ground := Ground.phase }, { on := 6, ground := Ground.phase }, { on := 7, ground := Ground.phase }, { on := 8, ground := Ground.phase }, { on := 9, ground := Ground.phase }], guard := none }]
set_option maxRecDepth 100000 in
set_option maxHeartbeats 16000000 in
theorem mu5 (Q : Exit → Act → World → Prop) (H D K T4 j : Nat) (q p r : E4) (u1 u2 u3 u5 u6 u9 u10 u11 u12 u13 u14 u15 u16 u17 u18 u19 u20 u21 u22 u23 u24 u25 u26 u27 u28 u29 u30 u31 u32 u33 u34 u35 u36 u37 u38 u39 u40 u41 u42 u43 u44 u45 u46 u47 u48 u49 : Value) (W : World)
    (neDH : D ≠ H) (neTH : T4 ≠ H) (neTD : T4 ≠ D) (rd : W.rangeAt D (j * 4) [.int .u64 q.x0, .int .u64 q.x1, .int .u64 q.x2, .int .u64 q.x3]) (rb : W.rangeAt T4 0 [.int .u64 p.x0, .int .u64 p.x1, .int .u64 p.x2, .int .u64 p.x3]) (hth : W.there D ((j + 1) * 4) 4)
    (w1 : IntKind.i64.wrap ((j : Int) + 1 - 1) = (j : Int)) (w2 : IntKind.i64.wrap (j : Int) = (j : Int)) (j0 : (0 : Int) ≤ (j : Int)) (j1 : (j : Int) < (K : Int)) (j2 : (0 : Int) ≤ (j : Int) + 1) (j3 : (j : Int) + 1 < (K : Int)) (j4 : ((j : Int) + 1).toNat = j + 1)
    (C9 : Hid (Calls Tryz.prog 55 #[.pointer (some ⟨H, 0, none⟩), .agg #[.int .u64 q.x0, .int .u64 q.x1, .int .u64 q.x2, .int .u64 q.x3], .agg #[.int .u64 p.x0, .int .u64 p.x1, .int .u64 p.x2, .int .u64 p.x3]] W.drew fun e w' => e = .returned (.agg #[.int .u64 r.x0, .int .u64 r.x1, .int .u64 r.x2, .int .u64 r.x3]) ∧ Hd w' H ∧ W.drew.grownBy w' (some H)))
    (HQ : Hid (∀ (wm wz : World), Hd wm H → W.drew.grownBy wm (some H) → wz = wm.setCells D ((j + 1) * 4) [.int .u64 r.x0, .int .u64 r.x1, .int .u64 r.x2, .int .u64 r.x3] → Q .normal ⟨#[.pointer (some ⟨H, 0, none⟩), u1, u2, u3, .pointer (some ⟨T4, 0, none⟩), u5, u6, .slice (some ⟨D, 0, none⟩) K K, .int .i64 ((j : Int) + 1), u9, u10, u11, u12, u13, u14, u15, .slice (some ⟨D, 0, none⟩) K K, .int .i64 ((j : Int) + 1), .pointer (some ⟨H, 0, none⟩), .slice (some ⟨D, 0, none⟩) K K, .int .i64 ((j : Int) + 1), .int .i64 (j : Int), .pointer (some ⟨D, j * 4, none⟩), .agg #[.int .u64 q.x0, .int .u64 q.x1, .int .u64 q.x2, .int .u64 q.x3], .agg #[.int .u64 p.x0, .int .u64 p.x1, .int .u64 p.x2, .int .u64 p.x3], .agg #[.int .u64 r.x0, .int .u64 r.x1, .int .u64 r.x2, .int .u64 r.x3], .pointer (some ⟨D, (j + 1) * 4, none⟩), u27, u28, u29, u30, u31, u32, u33, u34, u35, u36, u37, u38, u39, u40, u41, u42, u43, u44, u45, u46, u47, u48, u49], []⟩ wz)) : (Code.region 5 mu5o true).wp Tryz.prog Q ⟨#[.pointer (some ⟨H, 0, none⟩), u1, u2, u3, .pointer (some ⟨T4, 0, none⟩), u5, u6, .slice (some ⟨D, 0, none⟩) K K, .int .i64 ((j : Int) + 1), u9, u10, u11, u12, u13, u14, u15, u16, u17, u18, u19, u20, u21, u22, u23, u24, u25, u26, u27, u28, u29, u30, u31, u32, u33, u34, u35, u36, u37, u38, u39, u40, u41, u42, u43, u44, u45, u46, u47, u48, u49], []⟩ W := by
  have TH := hidden (there_bl hth (bl_drew W))
  have UL : Hid (Tryz.prog.underlying 51 = some _) := hidden Tryz.underlying51
  have IQ : Hid ((Tryz.prog.info? 51).map (·.size) = some ([.int .u64 q.x0, .int .u64 q.x1, .int .u64 q.x2, .int .u64 q.x3] : List Value).length) := hidden (by kernel_rfl)
  have IP : Hid ((Tryz.prog.info? 51).map (·.size) = some ([.int .u64 p.x0, .int .u64 p.x1, .int .u64 p.x2, .int .u64 p.x3] : List Value).length) := hidden (by kernel_rfl)
  clear hth
  unfold mu5o
  refine wp_region_noPanic ?_
  refine wp_region_held_drew (S := fun x => (x.rangeAt D (j * 4) [.int .u64 q.x0, .int .u64 q.x1, .int .u64 q.x2, .int .u64 q.x3] ∧ x.rangeAt T4 0 [.int .u64 p.x0, .int .u64 p.x1, .int .u64 p.x2, .int .u64 p.x3])) (by kernel_rfl) (⟨range_bl rd (bl_drew W), range_bl rb (bl_drew W)⟩) (fun hH0 => ?_)
  refine wpAnyH_take (i := 0) (oi := { dst := some 16, op := Op.move (Operand.tmp 7), type := 46, pos := "ways.go:100", after := #[], guard := none }) (v := .slice (some ⟨D, 0, none⟩) K K) rfl (by kernel_rfl) (by kernel_rfl) (by kernel_rfl) (fun _ _ _ h => h) (Or.inl ⟨by rfl, fun w0 hSw => ?_⟩) hH0 ?_
  · (clear hSw; go_simp)
  simp only [Act.put, List.setIfInBounds_toArray, List.set_cons_zero, List.set_cons_succ]
  refine wpAnyH_take (i := 1) (oi := { dst := some 17, op := Op.move (Operand.tmp 8), type := 3, pos := "ways.go:100", after := #[], guard := none }) (v := .int .i64 ((j : Int) + 1)) rfl (by kernel_rfl) (by kernel_rfl) (by kernel_rfl) (fun _ _ _ h => h) (Or.inl ⟨by rfl, fun w0 hSw => ?_⟩) hH0 ?_
  · (clear hSw; go_simp)
  simp only [Act.put, List.setIfInBounds_toArray, List.set_cons_zero, List.set_cons_succ]
  refine wpAnyH_take (i := 2) (oi := { dst := some 18, op := Op.move (Operand.tmp 0), type := 150, pos := "ways.go:100", after := #[], guard := none }) (v := .pointer (some ⟨H, 0, none⟩)) rfl (by kernel_rfl) (by kernel_rfl) (by kernel_rfl) (fun _ _ _ h => h) (Or.inl ⟨by rfl, fun w0 hSw => ?_⟩) hH0 ?_
  · (clear hSw; go_simp)
  simp only [Act.put, List.setIfInBounds_toArray, List.set_cons_zero, List.set_cons_succ]
  refine wpAnyH_take (i := 3) (oi := { dst := some 19, op := Op.move (Operand.tmp 7), type := 46, pos := "ways.go:100", after := #[], guard := none }) (v := .slice (some ⟨D, 0, none⟩) K K) rfl (by kernel_rfl) (by kernel_rfl) (by kernel_rfl) (fun _ _ _ h => h) (Or.inl ⟨by rfl, fun w0 hSw => ?_⟩) hH0 ?_
  · (clear hSw; go_simp)
  simp only [Act.put, List.setIfInBounds_toArray, List.set_cons_zero, List.set_cons_succ]
  refine wpAnyH_take (i := 4) (oi := { dst := some 20, op := Op.move (Operand.tmp 8), type := 3, pos := "ways.go:100", after := #[], guard := none }) (v := .int .i64 ((j : Int) + 1)) rfl (by kernel_rfl) (by kernel_rfl) (by kernel_rfl) (fun _ _ _ h => h) (Or.inl ⟨by rfl, fun w0 hSw => ?_⟩) hH0 ?_
  · (clear hSw; go_simp)
  simp only [Act.put, List.setIfInBounds_toArray, List.set_cons_zero, List.set_cons_succ]
  refine wpAnyH_take (i := 8) (oi := { dst := some 24, op := Op.load 51 (Operand.tmp 4), type := 51, pos := "ways.go:100", after := #[], guard := none }) (v := .agg ([.int .u64 p.x0, .int .u64 p.x1, .int .u64 p.x2, .int .u64 p.x3]).toArray) rfl (by kernel_rfl) (by kernel_rfl) (by kernel_rfl) (fun _ _ _ h => h) (yieldsIf_load_mid (by rfl) 51 _ rfl (T4) (0) rfl ([.int .u64 p.x0, .int .u64 p.x1, .int .u64 p.x2, .int .u64 p.x3]) _ (fun w0 hSw => hSw.2) UL.out rfl IP.out) hH0 ?_
  simp only [Act.put, List.setIfInBounds_toArray, List.set_cons_zero, List.set_cons_succ]
  refine wpAnyH_take (i := 5) (oi := { dst := some 21, op := Op.binOp BinOp.sub 3 (Operand.tmp 20) (Operand.const (Value.int IntKind.i64 1)) 3, type := 3, pos := "ways.go:100", after := #[{ on := 4, ground := Ground.data }], guard := none }) (v := .int .i64 (j : Int)) rfl (by kernel_rfl) (by kernel_rfl) (by kernel_rfl) (fun _ _ _ h => h) (Or.inl ⟨by rfl, fun w0 hSw => ?_⟩) hH0 ?_
  · (clear hSw; go_simp)
  simp only [Act.put, List.setIfInBounds_toArray, List.set_cons_zero, List.set_cons_succ]
  refine wpAnyH_take (i := 6) (oi := { dst := some 22, op := Op.indexAddr 46 (Operand.tmp 19) (Operand.tmp 21), type := 0, pos := "ways.go:100", after := #[{ on := 3, ground := Ground.data }, { on := 5, ground := Ground.data }], guard := none }) (v := .pointer (some ⟨D, j * 4, none⟩)) rfl (by kernel_rfl) (by kernel_rfl) (by kernel_rfl) (fun _ _ _ h => h) (Or.inl ⟨by rfl, fun w0 hSw => ?_⟩) hH0 ?_
  · (clear hSw; go_simp)
  simp only [Act.put, List.setIfInBounds_toArray, List.set_cons_zero, List.set_cons_succ]
  refine wpAnyH_take (i := 7) (oi := { dst := some 23, op := Op.load 51 (Operand.tmp 22), type := 51, pos := "ways.go:100", after := #[{ on := 6, ground := Ground.data }], guard := none }) (v := .agg ([.int .u64 q.x0, .int .u64 q.x1, .int .u64 q.x2, .int .u64 q.x3]).toArray) rfl (by kernel_rfl) (by kernel_rfl) (by kernel_rfl) (fun _ _ _ h => h) (yieldsIf_load_mid (by rfl) 51 _ rfl (D) (j * 4) rfl ([.int .u64 q.x0, .int .u64 q.x1, .int .u64 q.x2, .int .u64 q.x3]) _ (fun w0 hSw => hSw.1) UL.out rfl IQ.out) hH0 ?_
  simp only [Act.put, List.setIfInBounds_toArray, List.set_cons_zero, List.set_cons_succ]
  refine wpAnyH_ready (rs := [9]) (by kernel_rfl) (by simp) ?_
  refine AllReadyH.cons (o := { dst := some 25, op := Op.call { callee := Callee.value (Operand.func 55), args := #[Operand.tmp 18, Operand.tmp 23, Operand.tmp 24], argTypes := #[150, 51, 51] }, type := 51, pos := "ways.go:100", after := #[{ on := 2, ground := Ground.data }, { on := 7, ground := Ground.data }, { on := 8, ground := Ground.data }], guard := none }) rfl (fun K hK => ?_) AllReadyH.nil
  have HH := hidden hH0
  clear hH0
  go_simp
  refine (C9.out).mono ?_
  rintro e wn1 ⟨rfl, hH, hg⟩
  have HG := hidden (hH)
  have GG := hidden (hg)
  replace TH := hidden (there_gb TH.out hg neDH)
  have SN := hidden ((show _ ∧ _ from ⟨range_gb HH.out.1 hg neDH, range_gb HH.out.2 hg neTH⟩))
  clear HH C9 hH hg
  go_wp2_with fail
  refine hK.out _ _ SN.out (fun hH1 => ?_)
  clear hK K SN
  refine wpAnyH_take (i := 10) (oi := { dst := some 26, op := Op.indexAddr 46 (Operand.tmp 16) (Operand.tmp 17), type := 0, pos := "ways.go:100", after := #[{ on := 0, ground := Ground.data }, { on := 1, ground := Ground.data }, { on := 0, ground := Ground.phase }, { on := 1, ground := Ground.phase }, { on := 2, ground := Ground.phase }, { on := 3, ground := Ground.phase }, { on := 4, ground := Ground.phase }, { on := 5, ground := Ground.phase }, { on := 6, ground := Ground.phase }, { on := 7, ground := Ground.phase }, { on := 8, ground := Ground.phase }, { on := 9, ground := Ground.phase }], guard := none }) (v := .pointer (some ⟨D, (j + 1) * 4, none⟩)) rfl (by kernel_rfl) (by kernel_rfl) (by kernel_rfl) (fun _ _ _ h => h) (Or.inl ⟨by rfl, fun w0 hSw => ?_⟩) hH1 ?_
  · (clear hSw; go_simp)
  simp only [Act.put, List.setIfInBounds_toArray, List.set_cons_zero, List.set_cons_succ]
  refine wpAnyH_ready (rs := [11]) (by kernel_rfl) (by simp) ?_
  refine AllReadyH.cons (o := { dst := none, op := Op.store 51 (Operand.tmp 26) (Operand.tmp 25), type := 0, pos := "ways.go:100", after := #[{ on := 10, ground := Ground.data }, { on := 9, ground := Ground.data }, { on := 9, ground := Ground.chain }, { on := 0, ground := Ground.phase }, { on := 1, ground := Ground.phase }, { on := 2, ground := Ground.phase }, { on := 3, ground := Ground.phase }, { on := 4, ground := Ground.phase }, { on := 5, ground := Ground.phase }, { on := 6, ground := Ground.phase }, { on := 7, ground := Ground.phase }, { on := 8, ground := Ground.phase }, { on := 9, ground := Ground.phase }], guard := none }) rfl (fun K hK => ?_) AllReadyH.nil
  have HH := hidden hH1
  clear hH1
  refine wp_storeE 51 _ _ rfl D ((j + 1) * 4) ([.int .u64 r.x0, .int .u64 r.x1, .int .u64 r.x2, .int .u64 r.x3]) (by rfl) (by rfl) TH.out i4_L (one4 r) rfl (fun wn2 hw => ?_)
  have SN := hidden ((show _ ∧ _ from ⟨World.rangeAt_setCells_apart HH.out.1 D ((j + 1) * 4) [.int .u64 r.x0, .int .u64 r.x1, .int .u64 r.x2, .int .u64 r.x3] (Or.inr (Or.inl (by simp; omega))), World.rangeAt_setCells_apart HH.out.2 D ((j + 1) * 4) [.int .u64 r.x0, .int .u64 r.x1, .int .u64 r.x2, .int .u64 r.x3] (Or.inl neTD)⟩))
  have HW := hidden (hw)
  rw [← hw] at SN
  clear HH hw
  refine hK.out _ _ SN.out (fun hH2 => ?_)
  clear hK K SN
  have HH := hidden hH2
  have FQ := hidden (HQ.out _ _ HG.out GG.out HW.out)
  refine wpAnyH_done (by kernel_rfl) ?_ _
  refine NoPanic.normal ?_
  exact FQ.out
end Go.Proofs.YtapieajkmpnmoaaGreatDoor.Li
namespace Go.Proofs.YtapieajkmpnmoaaGreatDoor.Li
open Go.RowKit
set_option linter.unusedVariables false
/-- multiples under way -/
def Ms (w w' : World) (H K i : Nat) (f : Nat → Int) (p : E4) : Prop := Ml w' (w.heap.size + 1) K i f ∧ w'.rangeAt w.heap.size 0 [.int .u64 p.x0, .int .u64 p.x1, .int .u64 p.x2, .int .u64 p.x3] ∧ w.grownBy w' (some H) ∧ Hd w' H ∧ Tb w'
theorem Ms.hand {w w' wm : World} {H K i : Nat} {f : Nat → Int} {p : E4} (h : Ms w w' H K i f p) (hH : H < w.heap.size) (hm : w'.grownBy wm (some H)) (hd : Hd wm H) : Ms w wm H K i f p := by
  obtain ⟨h1, h2, h3, h5, h6⟩ := h
  exact ⟨h1.gb hm (by omega), range_gb h2 hm (by omega), h3.trans hm, hd, h6.keep0 hm (h5.tb h6)⟩
theorem Ms.put {w w' : World} {H K i : Nat} {f : Nat → Int} {p z : E4} (h : Ms w w' H K i f p) (hT : Tb w) (hH : H < w.heap.size) (hi : i < K) (hz : z.ok ∧ ∀ t, lst z.n = lst (((i : Int) + 1) * f t)) : Ms w (setS w' (w.heap.size + 1) (i * 4) z) H K (i + 1) f p := by
  obtain ⟨h1, h2, h3, h5, h6⟩ := h
  have lt := World.block_lt_of_cell? w _ hT.1
  have nH : w.heap.size + 1 ≠ H := by omega
  have g : w'.grownBy (setS w' (w.heap.size + 1) (i * 4) z) (some (w.heap.size + 1)) := gb_setCells (w.heap.size + 1) [.int .u64 z.x0, .int .u64 z.x1, .int .u64 z.x2, .int .u64 z.x3] (i * 4) w'
  refine ⟨h1.put hi hz, World.rangeAt_setCells_apart h2 (w.heap.size + 1) (i * 4) [.int .u64 z.x0, .int .u64 z.x1, .int .u64 z.x2, .int .u64 z.x3] (Or.inl (by omega)), ?_, ?_, h6.keep0 g (by simp only at lt; omega)⟩
  · unfold setS; exact gb_box (gb_box (gb_box (gb_box h3 (by omega)) (by omega)) (by omega)) (by omega)
  · unfold setS; exact (((h5.far nH).far nH).far nH).far nH
theorem linfo : (Tryz.prog.info? 51).map (fun i => (i.zero, i.size, i.bytes)) = some (some (.agg #[.int .u64 0, .int .u64 0, .int .u64 0, .int .u64 0]), 4, 32) := by kernel_rfl

set_option maxRecDepth 100000 in
set_option maxHeartbeats 2000000 in
theorem multiples_any (H K : Nat) (p : E4) (f : Nat → Int) (w : World) (hT : Tb w) (hH : Hd w H) (hp : p.ok ∧ ∀ t, lst p.n = lst (f t)) (hK : K ≤ 4096) :
    Calls Tryz.prog 98 #[.pointer (some ⟨H, 0, none⟩), .agg #[.int .u64 p.x0, .int .u64 p.x1, .int .u64 p.x2, .int .u64 p.x3], .int .i64 (K : Int)] w fun e w' => ∃ D : Nat, e = .returned (.slice (some ⟨D, 0, none⟩) K K) ∧ w.heap.size ≤ D ∧ Ml w' D K K f ∧ Hd w' H ∧ w.grownBy w' (some H) := by
  have LH := hidden hH.lt
  have nn0 : (0 : Int) ≤ (K : Int) := by omega
  obtain ⟨i0, hi, hz0, hz1, hz2⟩ := info_parts linfo
  have hmk := fun w => run_make (P := Tryz.prog) w 46 51 i0 (.agg #[.int .u64 0, .int .u64 0, .int .u64 0, .int .u64 0]) (by kernel_rfl) hi hz0 .i64 .i64 (K : Int) (K : Int) (by omega) (Int.le_refl _) (by rw [hz2]; omega) (by omega)
  have tn : ((K : Int)).toNat = K := by omega
  simp only [tn, hz1, Value.cells] at hmk
  clear tn hi hz0 hz1 hz2
  have B0 := bl_alloc2 w (.cells #[.int .u64 p.x0, .int .u64 p.x1, .int .u64 p.x2, .int .u64 p.x3] 51) (.cells (madeCells #[.int .u64 0, .int .u64 0, .int .u64 0, .int .u64 0] (K * 4)) 51)
  have M0 := Ml.made (w.alloc (.cells #[.int .u64 p.x0, .int .u64 p.x1, .int .u64 p.x2, .int .u64 p.x3] 51)) K 51 f
  simp only [World.size_alloc] at M0
  have e1 : ((w.alloc (.cells #[.int .u64 p.x0, .int .u64 p.x1, .int .u64 p.x2, .int .u64 p.x3] 51)).alloc (.cells (madeCells #[.int .u64 0, .int .u64 0, .int .u64 0, .int .u64 0] (K * 4)) 51)).rangeAt w.heap.size 0 [.int .u64 p.x0, .int .u64 p.x1, .int .u64 p.x2, .int .u64 p.x3] := range_bl (range_newM w [.int .u64 p.x0, .int .u64 p.x1, .int .u64 p.x2, .int .u64 p.x3] 51) (bl_alloc _ _)
  have ST : Hid (Ms w ((w.alloc (.cells #[.int .u64 p.x0, .int .u64 p.x1, .int .u64 p.x2, .int .u64 p.x3] 51)).alloc (.cells (madeCells #[.int .u64 0, .int .u64 0, .int .u64 0, .int .u64 0] (K * 4)) 51)) H K 0 f p) := hidden ⟨M0, e1, gbI B0 _, hH.keep B0, hT.keep B0⟩
  have HK := hidden hK
  have HT := hidden hT
  have HP := hidden hp
  clear M0 e1 B0 hT hH hp hK
  go_enter Tryz.func98, Tryz.ntmps98
  go_upto_region 2 with fail
  generalize ((w.alloc (.cells #[.int .u64 p.x0, .int .u64 p.x1, .int .u64 p.x2, .int .u64 p.x3] 51)).alloc (.cells (madeCells #[.int .u64 0, .int .u64 0, .int .u64 0, .int .u64 0] (K * 4)) 51)) = w1 at *
  clear hmk
  go_wp2_with fail
  go_loopw [13] (fun iv w' => ∃ i : Nat, i ≤ K ∧ iv = .int .i64 i ∧ Hid (Ms w w' H K i f p)) (fun i _ => K - (intOf i).toNat)
  case atStart => exact ⟨0, by omega, rfl, ST⟩
  case round =>
    clear ST
    obtain ⟨i, hi, rfl, ST⟩ := hrel
    by_cases hin : i < K
    · have ii0 : (0 : Int) ≤ (i : Int) := by omega
      have ii1 : (i : Int) < (K : Int) := by omega
      have w9 : IntKind.i64.wrap ((i : Int) + 1) = (i : Int) + 1 := IntWalk.i64_in _ (by have := HK.out; omega)
      have HIN := hidden hin
      by_cases hz : i = 0
      · subst hz
        have c0 := ST.out.2.1 0 _ rfl; have c1 := ST.out.2.1 1 _ rfl; have c2 := ST.out.2.1 2 _ rfl; have c3 := ST.out.2.1 3 _ rfl
        simp only [Nat.zero_add] at c0 c1 c2 c3
        obtain ⟨gg, RM, -⟩ := ST.out.1
        have x0 := RM.r.c0 0 HIN.out; have x1 := RM.r.c1 0 HIN.out; have x2 := RM.r.c2 0 HIN.out; have x3 := RM.r.c3 0 HIN.out; have y0 := RM.fr (0 * 4) (by have := HIN.out; omega); have y1 := RM.fr (0 * 4 + 1) (by have := HIN.out; omega); have y2 := RM.fr (0 * 4 + 2) (by have := HIN.out; omega); have y3 := RM.fr (0 * 4 + 3) (by have := HIN.out; omega); rw [Nat.zero_add] at x0 x1 x2 x3; generalize gg 0 = gi at x0 x1 x2 x3
        simp only [Nat.zero_mul, Nat.zero_add] at x0 x1 x2 x3 y0 y1 y2 y3
        have PN := hidden (ST.out.put HT.out LH.out hin (z := p) ⟨HP.out.1, fun t => by have := HP.out.2 t; simpa using this⟩)
        unfold setS at PN
        simp only [Nat.zero_mul, Nat.zero_add] at PN
        clear ST RM
        go_wp2_with fail
        go_roundw
        case rel => exact ⟨1, by have := HIN.out; omega, by go_num, PN⟩
        case measure => have := HIN.out; simp [intOf]; omega
      · have nz : ¬ (i : Int) = 0 := by omega
        by_cases hod : i % 2 = 1
        · obtain ⟨q, hq⟩ : ∃ q, i = 2 * q + 1 := ⟨i / 2, by omega⟩
          have rm : Int.tmod (i : Int) 2 = 1 := by rw [Int.tmod_eq_emod_of_nonneg ii0]; omega
          have qd : Int.tdiv (i : Int) 2 = (q : Int) := by rw [Int.tdiv_eq_ediv_of_nonneg ii0]; omega
          have wq : IntKind.i64.wrap (q : Int) = (q : Int) := IntWalk.i64_in _ (by have := HK.out; omega)
          have q0 : (0 : Int) ≤ (q : Int) := by omega
          have q1 : (q : Int) < (K : Int) := by omega
          obtain ⟨gq, RQ, hgq⟩ := ST.out.1
          have gk := hgq q (by omega)
          have d0 := RQ.r.c0 q (by omega); have d1 := RQ.r.c1 q (by omega); have d2 := RQ.r.c2 q (by omega); have d3 := RQ.r.c3 q (by omega)
          rw [Nat.zero_add] at d0 d1 d2 d3
          generalize gq q = qz at d0 d1 d2 d3 gk
          obtain ⟨r, hr⟩ : ∃ r, lst (qz.n + qz.n) = r := ⟨_, rfl⟩
          have FX : Hid (r.ok ∧ ∀ t, lst r.n = lst (((i : Int) + 1) * f t)) := hidden (by
            rw [← hr]
            refine ⟨lst_ok _, fun t => ?_⟩
            rw [lst_n', lst_two (gk.2 t) (gk.2 t), show (i : Int) = 2 * q + 1 by omega, show ((q : Int) + 1) * f t + ((q : Int) + 1) * f t = (2 * (q : Int) + 1 + 1) * f t by rw [← Int.add_mul]; congr 1; omega])
          have CD := hidden (hdouble H qz wr ST.out.2.2.2.2 ST.out.2.2.2.1 gk.1)
          rw [hr] at CD
          unfold E4.v at CD
          clear hq hz hod hin hi RQ hgq gk hr
          go_wp2_with (first | (go_at_call 109; refine CD.out.mono ?_; rintro e wa ⟨rfl, hH, hg⟩; have SM := ST.out.hand LH.out hg hH; obtain ⟨gg, RM, -⟩ := SM.1; have x0 := RM.r.c0 i HIN.out; have x1 := RM.r.c1 i HIN.out; have x2 := RM.r.c2 i HIN.out; have x3 := RM.r.c3 i HIN.out; have y0 := RM.fr (i * 4) (by have := HIN.out; omega); have y1 := RM.fr (i * 4 + 1) (by have := HIN.out; omega); have y2 := RM.fr (i * 4 + 2) (by have := HIN.out; omega); have y3 := RM.fr (i * 4 + 3) (by have := HIN.out; omega); rw [Nat.zero_add] at x0 x1 x2 x3; generalize gg i = gi at x0 x1 x2 x3; have PN := hidden (SM.put HT.out LH.out HIN.out FX.out); unfold setS at PN; clear SM hH hg CD FX d0 d1 d2 d3 RM))
          go_roundw
          case rel => exact ⟨i + 1, by have := HIN.out; omega, by go_num, PN⟩
          case measure => have := HIN.out; simp [intOf]; omega
        · have rm : Int.tmod (i : Int) 2 = 0 := by rw [Int.tmod_eq_emod_of_nonneg ii0]; omega
          obtain ⟨j, rfl⟩ : ∃ j, i = j + 1 := ⟨i - 1, by omega⟩
          obtain ⟨gq, RQ, hgq⟩ := ST.out.1
          have gk := hgq j (by omega)
          have rg := Rm.range RQ (show j < K by omega)
          have TH : wr.there (w.heap.size + 1) ((j + 1) * 4) 4 := there4 (Rm.range RQ hin) (fun b hb => RQ.fr _ (by omega))
          generalize gq j = qz at rg gk
          obtain ⟨r, hr⟩ : ∃ r, lst (qz.n + p.n) = r := ⟨_, rfl⟩
          have FX : Hid (r.ok ∧ ∀ t, lst r.n = lst ((((j + 1 : Nat) : Int) + 1) * f t)) := hidden (by
            rw [← hr]
            refine ⟨lst_ok _, fun t => ?_⟩
            have e : ((j : Int) + 1 + 1) * f t = ((j : Int) + 1) * f t + f t := by rw [Int.add_mul ((j : Int) + 1) 1, Int.one_mul]
            rw [lst_n', lst_two (gk.2 t) (HP.out.2 t), show ((j + 1 : Nat) : Int) + 1 = ((j : Int) + 1) + 1 by omega, e])
          have CD := hidden (hadd H qz p wr.drew (ST.out.2.2.2.2.keep (bl_drew _)) (ST.out.2.2.2.1.keep (bl_drew _)) gk.1 HP.out.1)
          rw [hr] at CD
          unfold E4.v at CD
          have k1 : IntKind.i64.wrap ((j : Int) + 1 - 1) = (j : Int) := by rw [show (j : Int) + 1 - 1 = (j : Int) by omega]; exact IntWalk.i64_in _ (by have := HK.out; omega)
          have k2 : IntKind.i64.wrap (j : Int) = (j : Int) := IntWalk.i64_in _ (by have := HK.out; omega)
          have rm2 : Int.tmod ((j : Int) + 1) 2 = 0 := by have := rm; rwa [show ((j + 1 : Nat) : Int) = (j : Int) + 1 by omega] at this
          have nz2 : ¬ (j : Int) + 1 = 0 := by omega
          have ii2 : (j : Int) + 1 < (K : Int) := by omega
          have w10 : IntKind.i64.wrap ((j : Int) + 1 + 1) = (j : Int) + 1 + 1 := IntWalk.i64_in _ (by have := HK.out; omega)
          have JK := hidden hin
          have c0 := ST.out.2.1
          clear hz hod hi RQ hgq gk hr
          go_upto_region 5 with fail
          refine mu5 _ H (w.heap.size + 1) K w.heap.size j qz p r _ _ _ _ _ _ _ _ _ _ _ _ _ _ _ _ _ _ _ _ _ _ _ _ _ _ _ _ _ _ _ _ _ _ _ _ _ _ _ _ _ _ _ _ _ _ wr (by have := LH.out; omega) (by have := LH.out; omega) (by omega) rg c0 TH k1 k2 (by omega) (by omega) (by omega) (by omega) (by omega) CD (hidden ?_)
          intro wm wz hH hg hw
          have hw1 : wz = setS wm (w.heap.size + 1) ((j + 1) * 4) r := hw
          have PN : Hid (Ms w wz H K (j + 1 + 1) f p) := hidden (by
            rw [hw1]
            exact (ST.out.hand LH.out ((gbI (bl_drew wr) _).trans hg) hH).put HT.out LH.out JK.out FX.out)
          clear hw hw1 hH hg CD FX rg c0 TH ST
          go_wp2_with fail
          go_roundw
          case rel => exact ⟨j + 1 + 1, by have := JK.out; omega, by go_num, PN⟩
          case measure => have := JK.out; simp [intOf]; omega
    · obtain rfl : i = K := by omega
      have lq : ¬ (i : Int) < (i : Int) := by omega
      go_wp2_with fail
      refine bodyPost_ret (v := .slice (some ⟨w.heap.size + 1, 0, none⟩) i i) (by simp [results, Tryz.results98, go_sem]) rfl ⟨w.heap.size + 1, rfl, by omega, ST.out.1, ST.out.2.2.2.1, ST.out.2.2.1⟩
end Go.Proofs.YtapieajkmpnmoaaGreatDoor.Li
namespace Go.Proofs.YtapieajkmpnmoaaGreatDoor.Li
open Go.RowKit
set_option linter.unusedVariables false
/-- a row of piles: s: has it some, x: their sums -/
structure Pl (w : World) (D K : Nat) (s : Nat → Bool) (x : Nat → Nat → Int) : Prop where
  c : ∀ i, i < K → ∃ z : E4, w.rangeAt D (i * 5) [.int .u64 z.x0, .int .u64 z.x1, .int .u64 z.x2, .int .u64 z.x3] ∧ w.cell? ⟨D, i * 5 + 4, none⟩ = some (.bool (s i)) ∧ (s i = true → z.ok ∧ ∀ t, lst z.n = lst (x i t))
  z : ∀ i, i < K → s i = false → ∀ t, lst (x i t) = zero4
  fr : ∀ o, o < K * 5 → w.frozen? ⟨D, o, none⟩ = false
  lt : D < w.heap.size
theorem Pl.same {w w' : World} {D K : Nat} {s : Nat → Bool} {x : Nat → Nat → Int} (h : Pl w D K s x) (e : w'.heap[D]? = w.heap[D]?) (hl : w.heap.size ≤ w'.heap.size) : Pl w' D K s x := by
  have k : ∀ o, w'.cell? ⟨D, o, none⟩ = w.cell? ⟨D, o, none⟩ := fun o => World.cell?_of_block e
  refine ⟨fun i hi => ?_, h.z, fun j hj => (World.frozen?_of_block e).trans (h.fr j hj), Nat.lt_of_lt_of_le h.lt hl⟩
  obtain ⟨z, h1, h2, h3⟩ := h.c i hi
  exact ⟨z, fun j v hv => (k _).trans (h1 j v hv), by rw [k]; exact h2, h3⟩
theorem Pl.hand {w w' : World} {D K H : Nat} {s : Nat → Bool} {x : Nat → Nat → Int} (h : Pl w D K s x) (hg : w.grownBy w' (some H)) (hn : D ≠ H) : Pl w' D K s x := h.same (hg.block D h.lt (fun e => hn (Option.some.inj e))) hg.size
theorem Pl.keep {w w' : World} {D K : Nat} {s : Nat → Bool} {x : Nat → Nat → Int} (h : Pl w D K s x) (hb : Below w.heap.size w w') : Pl w' D K s x := h.same (hb.block D h.lt) hb.size
theorem Pl.congr {w : World} {D K : Nat} {s : Nat → Bool} {x y : Nat → Nat → Int} (h : Pl w D K s x) (e : ∀ i, i < K → ∀ t, lst (x i t) = lst (y i t)) : Pl w D K s y := by
  refine ⟨fun i hi => ?_, fun i hi hs t => by rw [← e i hi t]; exact h.z i hi hs t, h.fr, h.lt⟩
  obtain ⟨z, h1, h2, h3⟩ := h.c i hi
  exact ⟨z, h1, h2, fun hs => ⟨(h3 hs).1, fun t => ((h3 hs).2 t).trans (e i hi t)⟩⟩
theorem Pl.put {w : World} {D K i : Nat} {s : Nat → Bool} {x : Nat → Nat → Int} {f : Nat → Int} (h : Pl w D K s x) (hi : i < K) {q : E4} (hq : q.ok ∧ ∀ t, lst q.n = lst (f t)) : Pl ((setS w D (i * 5) q).setCell ⟨D, i * 5 + 4, none⟩ (.bool true)) D K (fun j => if j = i then true else s j) (fun j => if j = i then f else x j) := by
  obtain ⟨z0, k0, k1, -⟩ := h.c i hi
  have g1 : w.grownBy (setS w D (i * 5) q) (some D) := gb_setCells D [.int .u64 q.x0, .int .u64 q.x1, .int .u64 q.x2, .int .u64 q.x3] (i * 5) w
  have g := g1.trans (gb_set (setS w D (i * 5) q) D (i * 5 + 4) (.bool true))
  obtain ⟨w2, hw2⟩ : ∃ w2, (setS w D (i * 5) q).setCell ⟨D, i * 5 + 4, none⟩ (.bool true) = w2 := ⟨_, rfl⟩
  have th : w.there D (i * 5) 4 := there4 k0 (fun j hj => h.fr _ (by omega))
  have e : ∀ o, o < i * 5 ∨ i * 5 + 5 ≤ o → w2.cell? ⟨D, o, none⟩ = w.cell? ⟨D, o, none⟩ := fun o ho => by
    rw [← hw2, World.cell?_setCell_other _ _ _ _ (by simp <;> omega), setS_out _ _ _ _ (by omega)]
  have e0 : w2.rangeAt D (i * 5) [.int .u64 q.x0, .int .u64 q.x1, .int .u64 q.x2, .int .u64 q.x3] := fun j v hv => by
    have hj : j < 4 := by have := (List.getElem?_eq_some_iff.1 hv).1; simpa using this
    rw [← hw2, World.cell?_setCell_other _ _ _ _ (by simp <;> omega)]
    exact World.rangeAt_setCells_same w D (i * 5) [.int .u64 q.x0, .int .u64 q.x1, .int .u64 q.x2, .int .u64 q.x3] th j v hv
  have e1 : w2.cell? ⟨D, i * 5 + 4, none⟩ = some (.bool true) := by
    rw [← hw2]; exact World.cell?_setCell_same _ _ _ (by rw [setS_out _ _ _ _ (by omega)]; exact k1)
  have ef : ∀ o, w2.frozen? ⟨D, o, none⟩ = w.frozen? ⟨D, o, none⟩ := fun o => by rw [← hw2, World.frozen?_setCell, setS_frozen]
  rw [hw2] at g ⊢
  refine ⟨fun j hj => ?_, fun j hj hs t => ?_, fun o ho => by rw [ef]; exact h.fr o ho, Nat.lt_of_lt_of_le h.lt g.size⟩
  · by_cases ej : j = i
    · subst ej
      simp only [if_pos]
      exact ⟨q, e0, e1, fun _ => hq⟩
    · obtain ⟨z1, h1, h2, h3⟩ := h.c j hj
      simp only [if_neg ej]
      refine ⟨z1, fun b v hv => ?_, by rw [e _ (by omega)]; exact h2, h3⟩
      have hb : b < 4 := by have := (List.getElem?_eq_some_iff.1 hv).1; simpa using this
      rw [e _ (by omega)]; exact h1 b v hv
  · by_cases ej : j = i
    · subst ej; simp at hs
    · simp only [if_neg ej] at hs ⊢; exact h.z j hj hs t
/-- one element more on a pile of a row -/
theorem lay_pl (H D K i : Nat) (p : E4) (s : Nat → Bool) (x : Nat → Nat → Int) (f : Nat → Int) (w : World) (hT : Tb w) (hH : Hd w H) (hp : p.ok ∧ ∀ t, lst p.n = lst (f t)) (hP : Pl w D K s x) (hi : i < K) (neDH : D ≠ H) :
    Calls Tryz.prog 99 #[.pointer (some ⟨H, 0, none⟩), .pointer (some ⟨D, i * 5, none⟩), .agg #[.int .u64 p.x0, .int .u64 p.x1, .int .u64 p.x2, .int .u64 p.x3]] w fun e w' => e = .returned (.tuple #[]) ∧ Pl w' D K (fun j => if j = i then true else s j) (fun j => if j = i then (fun t => x i t + f t) else x j) ∧ Hd w' H ∧ ∃ wm, w.grownBy wm (some H) ∧ Hd wm H ∧ wm.grownBy w' (some D) := by
  obtain ⟨z0, k0, k1, k2⟩ := hP.c i hi
  have f0 := hP.fr (i * 5) (by omega)
  have f1 := hP.fr (i * 5 + 1) (by omega)
  have f2 := hP.fr (i * 5 + 2) (by omega)
  have f3 := hP.fr (i * 5 + 3) (by omega)
  have f4 := hP.fr (i * 5 + 4) (by omega)
  have c0 : w.cell? ⟨D, i * 5, none⟩ = some (.int .u64 z0.x0) := k0 0 _ rfl
  have c1 : w.cell? ⟨D, i * 5 + 1, none⟩ = some (.int .u64 z0.x1) := k0 1 _ rfl
  have c2 : w.cell? ⟨D, i * 5 + 2, none⟩ = some (.int .u64 z0.x2) := k0 2 _ rfl
  have c3 : w.cell? ⟨D, i * 5 + 3, none⟩ = some (.int .u64 z0.x3) := k0 3 _ rfl
  have fin : ∀ (w' : World) (y : Nat → Int), Ly w w' H D (i * 5) y → (∀ t, lst (y t) = lst (x i t + f t)) → Pl w' D K (fun j => if j = i then true else s j) (fun j => if j = i then (fun t => x i t + f t) else x j) ∧ Hd w' H ∧ ∃ wm, w.grownBy wm (some H) ∧ Hd wm H ∧ wm.grownBy w' (some D) := by
    rintro w' y ⟨z, wm, hg, rfl, hz, hm⟩ hy
    have q := (hP.hand hg neDH).put hi (q := z) (f := fun t => x i t + f t) ⟨hz.1, fun t => (hz.2 t).trans (hy t)⟩
    refine ⟨q, ?_, wm, hg, hm, (gb_setCells D [.int .u64 z.x0, .int .u64 z.x1, .int .u64 z.x2, .int .u64 z.x3] (i * 5) wm).trans (gb_set _ _ _ _)⟩
    unfold setS
    exact ((((hm.far neDH).far neDH).far neDH).far neDH).far neDH
  cases hs : s i with
  | false =>
    rw [hs] at k1
    refine (lay_no H D (i * 5) p z0 f w hT hH hp neDH c0 c1 c2 c3 k1 f0 f1 f2 f3 f4).mono ?_
    rintro e w' ⟨rfl, hl⟩
    refine ⟨rfl, fin w' f hl (fun t => ?_)⟩
    rw [lst_two ((hP.z i hi hs t).trans zero_lst.symm) (rfl : lst (f t) = lst (f t)), Int.zero_add]
  | true =>
    rw [hs] at k1
    refine (lay_on H D (i * 5) p z0 f (x i) w hT hH hp (k2 hs) neDH c0 c1 c2 c3 k1 f0 f1 f2 f3 f4).mono ?_
    rintro e w' ⟨rfl, hl⟩
    exact ⟨rfl, fin w' _ hl (fun t => rfl)⟩
end Go.Proofs.YtapieajkmpnmoaaGreatDoor.Li
namespace Go.Proofs.YtapieajkmpnmoaaGreatDoor.Li
open Go.RowKit
set_option linter.unusedVariables false
theorem Pl.made (w : World) (K : Nat) (t : TypeId) : Pl (w.alloc (.cells (madeCells #[.int .u64 0, .int .u64 0, .int .u64 0, .int .u64 0, .bool false] (K * 5)) t)) w.heap.size K (fun _ => false) (fun _ _ => 0) := by
  have h : ∀ o, o < K * 5 → (w.alloc (.cells (madeCells #[.int .u64 0, .int .u64 0, .int .u64 0, .int .u64 0, .bool false] (K * 5)) t)).cell? ⟨w.heap.size, o, none⟩ = some (if o % 5 = 4 then .bool false else .int .u64 0) := fun o ho => by
    rw [cell_of_row (w.alloc (.cells (madeCells #[.int .u64 0, .int .u64 0, .int .u64 0, .int .u64 0, .bool false] (K * 5)) t)) w.heap.size o _ t (0, 0) (heap_alloc_new w _)]
    have h2 : o % 5 = 0 ∨ o % 5 = 1 ∨ o % 5 = 2 ∨ o % 5 = 3 ∨ o % 5 = 4 := by omega
    rcases h2 with h2 | h2 | h2 | h2 | h2 <;> simp [madeCells, ho, h2]
  refine ⟨fun i hi => ⟨⟨0, 0, 0, 0⟩, range4 ?_ ?_ ?_ ?_, ?_, fun e => by simp at e⟩, fun i hi _ t => zero_lst, fun o ho => by go_simp, by simp⟩
  · rw [h _ (by omega), if_neg (by omega)]
  · rw [h _ (by omega), if_neg (by omega)]
  · rw [h _ (by omega), if_neg (by omega)]
  · rw [h _ (by omega), if_neg (by omega)]
  · rw [h _ (by omega), if_pos (by omega)]
def st11o : Array Oper := #[{ dst := some 47, op := Op.move (Operand.tmp 0), type := 150, pos := "ways.go:72", after := #[], guard := none },
  { dst := some 48, op := Op.move (Operand.tmp 7), type := 176, pos := "ways.go:72", after := #[], guard := none },
  { dst := some 49, op := Op.move (Operand.tmp 13), type := 3, pos := "ways.go:72", after := #[], guard := none },
  { dst := some 50, op := Op.indexAddr 176 (Operand.tmp 48) (Operand.tmp 49), type := 0, pos := "ways.go:72", after := #[{ on := 1, ground := Ground.data }, { on := 2, ground := Ground.data }], guard := none },
  { dst := some 51, op := Op.move (Operand.tmp 12), type := 46, pos := "ways.go:72", after := #[], guard := none },
  { dst := some 52, op := Op.move (Operand.tmp 14), type := 3, pos := "ways.go:72", after := #[], guard := none },
  { dst := some 53, op := Op.binOp BinOp.sub 3 (Operand.tmp 52) (Operand.const (Value.int IntKind.i64 1)) 3, type := 3, pos := "ways.go:72", after := #[{ on := 5, ground := Ground.data }], guard := none },
  { dst := some 54, op := Op.indexAddr 46 (Operand.tmp 51) (Operand.tmp 53), type := 0, pos := "ways.go:72", after := #[{ on := 4, ground := Ground.data }, { on := 6, ground := Ground.data }], guard := none },
  { dst := some 55, op := Op.load 51 (Operand.tmp 54), type := 51, pos := "ways.go:72", after := #[{ on := 7, ground := Ground.data }], guard := none },
  { dst := some 56, op := Op.call { callee := Callee.value (Operand.func 99), args := #[Operand.tmp 47, Operand.tmp 50, Operand.tmp 55], argTypes := #[150, 179, 51] }, type := 0, pos := "ways.go:72", after := #[{ on := 0, ground := Ground.data }, { on := 3, ground := Ground.data }, { on := 8, ground := Ground.data }], guard := none }]
set_option maxRecDepth 100000 in
set_option maxHeartbeats 16000000 in
theorem st11 (Q : Exit → Act → World → Prop) (H D K M T i d : Nat) (z : Int) (p : E4) (RW : World → Prop) (u1 u2 u3 u4 u5 u6 u8 u9 u10 u11 u15 u16 u17 u18 u19 u20 u21 u22 u23 u24 u25 u26 u27 u28 u29 u30 u31 u32 u33 u34 u35 u36 u37 u38 u39 u40 u41 u42 u43 u44 u45 u46 u47 u48 u49 u50 u51 u52 u53 u54 u55 u56 u57 u58 u59 u60 u61 u62 u63 u64 u65 u66 u67 u68 u69 u70 u71 u72 u73 u74 u75 u76 u77 u78 : Value) (W : World)
    (cm : W.rangeAt M (d * 4) [.int .u64 p.x0, .int .u64 p.x1, .int .u64 p.x2, .int .u64 p.x3]) (i0 : (0 : Int) ≤ (i : Int)) (i1 : (i : Int) < (K : Int)) (d0 : (0 : Int) ≤ (d : Int)) (d1 : (d : Int) < (T : Int)) (wz1 : IntKind.i64.wrap (z - 1) = (d : Int))
    (C9 : Hid (Calls Tryz.prog 99 #[.pointer (some ⟨H, 0, none⟩), .pointer (some ⟨D, i * 5, none⟩), .agg #[.int .u64 p.x0, .int .u64 p.x1, .int .u64 p.x2, .int .u64 p.x3]] W.drew fun e w' => e = .returned (.tuple #[]) ∧ w'.rangeAt M (d * 4) [.int .u64 p.x0, .int .u64 p.x1, .int .u64 p.x2, .int .u64 p.x3] ∧ RW w'))
    (HQ : Hid (∀ (wz : World), RW wz → Q .normal ⟨#[.pointer (some ⟨H, 0, none⟩), u1, u2, u3, u4, u5, u6, .slice (some ⟨D, 0, none⟩) K K, u8, u9, u10, u11, .slice (some ⟨M, 0, none⟩) T T, .int .i64 (i : Int), .int .i64 z, u15, u16, u17, u18, u19, u20, u21, u22, u23, u24, u25, u26, u27, u28, u29, u30, u31, u32, u33, u34, u35, u36, u37, u38, u39, u40, u41, u42, u43, u44, u45, u46, .pointer (some ⟨H, 0, none⟩), .slice (some ⟨D, 0, none⟩) K K, .int .i64 (i : Int), .pointer (some ⟨D, i * 5, none⟩), .slice (some ⟨M, 0, none⟩) T T, .int .i64 z, .int .i64 (d : Int), .pointer (some ⟨M, d * 4, none⟩), .agg #[.int .u64 p.x0, .int .u64 p.x1, .int .u64 p.x2, .int .u64 p.x3], .tuple #[], u57, u58, u59, u60, u61, u62, u63, u64, u65, u66, u67, u68, u69, u70, u71, u72, u73, u74, u75, u76, u77, u78], []⟩ wz)) : (Code.region 11 st11o true).wp Tryz.prog Q ⟨#[.pointer (some ⟨H, 0, none⟩), u1, u2, u3, u4, u5, u6, .slice (some ⟨D, 0, none⟩) K K, u8, u9, u10, u11, .slice (some ⟨M, 0, none⟩) T T, .int .i64 (i : Int), .int .i64 z, u15, u16, u17, u18, u19, u20, u21, u22, u23, u24, u25, u26, u27, u28, u29, u30, u31, u32, u33, u34, u35, u36, u37, u38, u39, u40, u41, u42, u43, u44, u45, u46, u47, u48, u49, u50, u51, u52, u53, u54, u55, u56, u57, u58, u59, u60, u61, u62, u63, u64, u65, u66, u67, u68, u69, u70, u71, u72, u73, u74, u75, u76, u77, u78], []⟩ W := by
  have UL : Hid (Tryz.prog.underlying 51 = some _) := hidden Tryz.underlying51
  have IL : Hid ((Tryz.prog.info? 51).map (·.size) = some ([.int .u64 p.x0, .int .u64 p.x1, .int .u64 p.x2, .int .u64 p.x3] : List Value).length) := hidden (by kernel_rfl)
  unfold st11o
  refine wp_region_noPanic ?_
  refine wp_region_held_drew (S := fun x => x.rangeAt M (d * 4) [.int .u64 p.x0, .int .u64 p.x1, .int .u64 p.x2, .int .u64 p.x3]) (by kernel_rfl) (range_bl cm (bl_drew W)) (fun hH0 => ?_)
  refine wpAnyH_take (i := 0) (oi := { dst := some 47, op := Op.move (Operand.tmp 0), type := 150, pos := "ways.go:72", after := #[], guard := none }) (v := .pointer (some ⟨H, 0, none⟩)) rfl (by kernel_rfl) (by kernel_rfl) (by kernel_rfl) (fun _ _ _ h => h) (Or.inl ⟨by rfl, fun w0 hSw => ?_⟩) hH0 ?_
  · (clear hSw; go_simp)
  simp only [Act.put, List.setIfInBounds_toArray, List.set_cons_zero, List.set_cons_succ]
  refine wpAnyH_take (i := 1) (oi := { dst := some 48, op := Op.move (Operand.tmp 7), type := 176, pos := "ways.go:72", after := #[], guard := none }) (v := .slice (some ⟨D, 0, none⟩) K K) rfl (by kernel_rfl) (by kernel_rfl) (by kernel_rfl) (fun _ _ _ h => h) (Or.inl ⟨by rfl, fun w0 hSw => ?_⟩) hH0 ?_
  · (clear hSw; go_simp)
  simp only [Act.put, List.setIfInBounds_toArray, List.set_cons_zero, List.set_cons_succ]
  refine wpAnyH_take (i := 2) (oi := { dst := some 49, op := Op.move (Operand.tmp 13), type := 3, pos := "ways.go:72", after := #[], guard := none }) (v := .int .i64 (i : Int)) rfl (by kernel_rfl) (by kernel_rfl) (by kernel_rfl) (fun _ _ _ h => h) (Or.inl ⟨by rfl, fun w0 hSw => ?_⟩) hH0 ?_
  · (clear hSw; go_simp)
  simp only [Act.put, List.setIfInBounds_toArray, List.set_cons_zero, List.set_cons_succ]
  refine wpAnyH_take (i := 4) (oi := { dst := some 51, op := Op.move (Operand.tmp 12), type := 46, pos := "ways.go:72", after := #[], guard := none }) (v := .slice (some ⟨M, 0, none⟩) T T) rfl (by kernel_rfl) (by kernel_rfl) (by kernel_rfl) (fun _ _ _ h => h) (Or.inl ⟨by rfl, fun w0 hSw => ?_⟩) hH0 ?_
  · (clear hSw; go_simp)
  simp only [Act.put, List.setIfInBounds_toArray, List.set_cons_zero, List.set_cons_succ]
  refine wpAnyH_take (i := 5) (oi := { dst := some 52, op := Op.move (Operand.tmp 14), type := 3, pos := "ways.go:72", after := #[], guard := none }) (v := .int .i64 z) rfl (by kernel_rfl) (by kernel_rfl) (by kernel_rfl) (fun _ _ _ h => h) (Or.inl ⟨by rfl, fun w0 hSw => ?_⟩) hH0 ?_
  · (clear hSw; go_simp)
  simp only [Act.put, List.setIfInBounds_toArray, List.set_cons_zero, List.set_cons_succ]
  refine wpAnyH_take (i := 3) (oi := { dst := some 50, op := Op.indexAddr 176 (Operand.tmp 48) (Operand.tmp 49), type := 0, pos := "ways.go:72", after := #[{ on := 1, ground := Ground.data }, { on := 2, ground := Ground.data }], guard := none }) (v := .pointer (some ⟨D, i * 5, none⟩)) rfl (by kernel_rfl) (by kernel_rfl) (by kernel_rfl) (fun _ _ _ h => h) (Or.inl ⟨by rfl, fun w0 hSw => ?_⟩) hH0 ?_
  · (clear hSw; go_simp)
  simp only [Act.put, List.setIfInBounds_toArray, List.set_cons_zero, List.set_cons_succ]
  refine wpAnyH_take (i := 6) (oi := { dst := some 53, op := Op.binOp BinOp.sub 3 (Operand.tmp 52) (Operand.const (Value.int IntKind.i64 1)) 3, type := 3, pos := "ways.go:72", after := #[{ on := 5, ground := Ground.data }], guard := none }) (v := .int .i64 (d : Int)) rfl (by kernel_rfl) (by kernel_rfl) (by kernel_rfl) (fun _ _ _ h => h) (Or.inl ⟨by rfl, fun w0 hSw => ?_⟩) hH0 ?_
  · (clear hSw; go_simp)
  simp only [Act.put, List.setIfInBounds_toArray, List.set_cons_zero, List.set_cons_succ]
  refine wpAnyH_take (i := 7) (oi := { dst := some 54, op := Op.indexAddr 46 (Operand.tmp 51) (Operand.tmp 53), type := 0, pos := "ways.go:72", after := #[{ on := 4, ground := Ground.data }, { on := 6, ground := Ground.data }], guard := none }) (v := .pointer (some ⟨M, d * 4, none⟩)) rfl (by kernel_rfl) (by kernel_rfl) (by kernel_rfl) (fun _ _ _ h => h) (Or.inl ⟨by rfl, fun w0 hSw => ?_⟩) hH0 ?_
  · (clear hSw; go_simp)
  simp only [Act.put, List.setIfInBounds_toArray, List.set_cons_zero, List.set_cons_succ]
  refine wpAnyH_take (i := 8) (oi := { dst := some 55, op := Op.load 51 (Operand.tmp 54), type := 51, pos := "ways.go:72", after := #[{ on := 7, ground := Ground.data }], guard := none }) (v := .agg ([.int .u64 p.x0, .int .u64 p.x1, .int .u64 p.x2, .int .u64 p.x3]).toArray) rfl (by kernel_rfl) (by kernel_rfl) (by kernel_rfl) (fun _ _ _ h => h) (yieldsIf_load_mid (by rfl) 51 _ rfl (M) (d * 4) rfl ([.int .u64 p.x0, .int .u64 p.x1, .int .u64 p.x2, .int .u64 p.x3]) _ (fun w0 hSw => hSw) UL.out rfl IL.out) hH0 ?_
  simp only [Act.put, List.setIfInBounds_toArray, List.set_cons_zero, List.set_cons_succ]
  refine wpAnyH_ready (rs := [9]) (by kernel_rfl) (by simp) ?_
  refine AllReadyH.cons (o := { dst := some 56, op := Op.call { callee := Callee.value (Operand.func 99), args := #[Operand.tmp 47, Operand.tmp 50, Operand.tmp 55], argTypes := #[150, 179, 51] }, type := 0, pos := "ways.go:72", after := #[{ on := 0, ground := Ground.data }, { on := 3, ground := Ground.data }, { on := 8, ground := Ground.data }], guard := none }) rfl (fun K hK => ?_) AllReadyH.nil
  have HH := hidden hH0
  clear hH0
  go_simp
  refine (C9.out).mono ?_
  rintro e wn1 ⟨rfl, hm, hr⟩
  have RR := hidden (hr)
  have SN := hidden (hm)
  clear HH C9 hm hr
  go_wp2_with fail
  refine hK.out _ _ SN.out (fun hH1 => ?_)
  clear hK K SN
  have HH := hidden hH1
  have FQ := hidden (HQ.out _ RR.out)
  refine wpAnyH_done (by kernel_rfl) ?_ _
  refine NoPanic.normal ?_
  exact FQ.out
def st13o : Array Oper := #[{ dst := some 60, op := Op.move (Operand.tmp 0), type := 150, pos := "ways.go:74", after := #[], guard := none },
  { dst := some 61, op := Op.move (Operand.tmp 7), type := 176, pos := "ways.go:74", after := #[], guard := none },
  { dst := some 62, op := Op.move (Operand.tmp 13), type := 3, pos := "ways.go:74", after := #[], guard := none },
  { dst := some 63, op := Op.indexAddr 176 (Operand.tmp 61) (Operand.tmp 62), type := 0, pos := "ways.go:74", after := #[{ on := 1, ground := Ground.data }, { on := 2, ground := Ground.data }], guard := none },
  { dst := some 64, op := Op.move (Operand.tmp 12), type := 46, pos := "ways.go:74", after := #[], guard := none },
  { dst := some 65, op := Op.move (Operand.tmp 14), type := 3, pos := "ways.go:74", after := #[], guard := none },
  { dst := some 66, op := Op.unOp UnOp.neg 3 (Operand.tmp 65), type := 3, pos := "ways.go:74", after := #[{ on := 5, ground := Ground.data }], guard := none },
  { dst := some 67, op := Op.binOp BinOp.sub 3 (Operand.tmp 66) (Operand.const (Value.int IntKind.i64 1)) 3, type := 3, pos := "ways.go:74", after := #[{ on := 6, ground := Ground.data }], guard := none },
  { dst := some 68, op := Op.indexAddr 46 (Operand.tmp 64) (Operand.tmp 67), type := 0, pos := "ways.go:74", after := #[{ on := 4, ground := Ground.data }, { on := 7, ground := Ground.data }], guard := none },
  { dst := some 69, op := Op.load 51 (Operand.tmp 68), type := 51, pos := "ways.go:74", after := #[{ on := 8, ground := Ground.data }], guard := none },
  { dst := some 70, op := Op.makeInterface 51 (Operand.tmp 69), type := 20, pos := "ways.go:74", after := #[{ on := 9, ground := Ground.data }], guard := none },
  { dst := some 71, op := Op.call { callee := Callee.invoke (Operand.tmp 70) "Neg", args := #[], argTypes := #[] }, type := 51, pos := "ways.go:74", after := #[{ on := 10, ground := Ground.data }], guard := none },
  { dst := some 72, op := Op.call { callee := Callee.value (Operand.func 99), args := #[Operand.tmp 60, Operand.tmp 63, Operand.tmp 71], argTypes := #[150, 179, 51] }, type := 0, pos := "ways.go:74", after := #[{ on := 0, ground := Ground.data }, { on := 3, ground := Ground.data }, { on := 11, ground := Ground.data }, { on := 11, ground := Ground.chain }], guard := none }]
set_option maxRecDepth 100000 in
set_option maxHeartbeats 16000000 in
theorem st13 (Q : Exit → Act → World → Prop) (H D K M T i d : Nat) (z : Int) (p : E4) (RW : World → Prop) (y : E4) (zn : Int) (u1 u2 u3 u4 u5 u6 u8 u9 u10 u11 u15 u16 u17 u18 u19 u20 u21 u22 u23 u24 u25 u26 u27 u28 u29 u30 u31 u32 u33 u34 u35 u36 u37 u38 u39 u40 u41 u42 u43 u44 u45 u46 u47 u48 u49 u50 u51 u52 u53 u54 u55 u56 u57 u58 u59 u60 u61 u62 u63 u64 u65 u66 u67 u68 u69 u70 u71 u72 u73 u74 u75 u76 u77 u78 : Value) (W : World)
    (cm : W.rangeAt M (d * 4) [.int .u64 p.x0, .int .u64 p.x1, .int .u64 p.x2, .int .u64 p.x3]) (i0 : (0 : Int) ≤ (i : Int)) (i1 : (i : Int) < (K : Int)) (d0 : (0 : Int) ≤ (d : Int)) (d1 : (d : Int) < (T : Int)) (wz0 : IntKind.i64.wrap (-z) = zn) (wz1 : IntKind.i64.wrap (zn - 1) = (d : Int)) (mt : ∀ w, (method 318 51 (.agg #[.int .u64 p.x0, .int .u64 p.x1, .int .u64 p.x2, .int .u64 p.x3]) "Neg").run Tryz.prog w = .ok (144, .agg #[.int .u64 p.x0, .int .u64 p.x1, .int .u64 p.x2, .int .u64 p.x3]) w)
    (C11 : Hid (Calls Tryz.prog 144 #[.agg #[.int .u64 p.x0, .int .u64 p.x1, .int .u64 p.x2, .int .u64 p.x3]] W.drew fun e w' => e = .returned (.agg #[.int .u64 y.x0, .int .u64 y.x1, .int .u64 y.x2, .int .u64 y.x3]) ∧ Below W.drew.heap.size W.drew w'))
    (C12 : Hid (∀ (x : World), Below W.drew.heap.size W.drew x → Calls Tryz.prog 99 #[.pointer (some ⟨H, 0, none⟩), .pointer (some ⟨D, i * 5, none⟩), .agg #[.int .u64 y.x0, .int .u64 y.x1, .int .u64 y.x2, .int .u64 y.x3]] x fun e w' => e = .returned (.tuple #[]) ∧ w'.rangeAt M (d * 4) [.int .u64 p.x0, .int .u64 p.x1, .int .u64 p.x2, .int .u64 p.x3] ∧ RW w'))
    (HQ : Hid (∀ (wz : World), RW wz → Q .normal ⟨#[.pointer (some ⟨H, 0, none⟩), u1, u2, u3, u4, u5, u6, .slice (some ⟨D, 0, none⟩) K K, u8, u9, u10, u11, .slice (some ⟨M, 0, none⟩) T T, .int .i64 (i : Int), .int .i64 z, u15, u16, u17, u18, u19, u20, u21, u22, u23, u24, u25, u26, u27, u28, u29, u30, u31, u32, u33, u34, u35, u36, u37, u38, u39, u40, u41, u42, u43, u44, u45, u46, u47, u48, u49, u50, u51, u52, u53, u54, u55, u56, u57, u58, u59, .pointer (some ⟨H, 0, none⟩), .slice (some ⟨D, 0, none⟩) K K, .int .i64 (i : Int), .pointer (some ⟨D, i * 5, none⟩), .slice (some ⟨M, 0, none⟩) T T, .int .i64 z, .int .i64 zn, .int .i64 (d : Int), .pointer (some ⟨M, d * 4, none⟩), .agg #[.int .u64 p.x0, .int .u64 p.x1, .int .u64 p.x2, .int .u64 p.x3], .iface 51 (.agg #[.int .u64 p.x0, .int .u64 p.x1, .int .u64 p.x2, .int .u64 p.x3]), .agg #[.int .u64 y.x0, .int .u64 y.x1, .int .u64 y.x2, .int .u64 y.x3], .tuple #[], u73, u74, u75, u76, u77, u78], []⟩ wz)) : (Code.region 13 st13o true).wp Tryz.prog Q ⟨#[.pointer (some ⟨H, 0, none⟩), u1, u2, u3, u4, u5, u6, .slice (some ⟨D, 0, none⟩) K K, u8, u9, u10, u11, .slice (some ⟨M, 0, none⟩) T T, .int .i64 (i : Int), .int .i64 z, u15, u16, u17, u18, u19, u20, u21, u22, u23, u24, u25, u26, u27, u28, u29, u30, u31, u32, u33, u34, u35, u36, u37, u38, u39, u40, u41, u42, u43, u44, u45, u46, u47, u48, u49, u50, u51, u52, u53, u54, u55, u56, u57, u58, u59, u60, u61, u62, u63, u64, u65, u66, u67, u68, u69, u70, u71, u72, u73, u74, u75, u76, u77, u78], []⟩ W := by
  have UL : Hid (Tryz.prog.underlying 51 = some _) := hidden Tryz.underlying51
  have IL : Hid ((Tryz.prog.info? 51).map (·.size) = some ([.int .u64 p.x0, .int .u64 p.x1, .int .u64 p.x2, .int .u64 p.x3] : List Value).length) := hidden (by kernel_rfl)
  unfold st13o
  refine wp_region_noPanic ?_
  refine wp_region_held_drew (S := fun x => x.rangeAt M (d * 4) [.int .u64 p.x0, .int .u64 p.x1, .int .u64 p.x2, .int .u64 p.x3]) (by kernel_rfl) (range_bl cm (bl_drew W)) (fun hH0 => ?_)
  refine wpAnyH_take (i := 0) (oi := { dst := some 60, op := Op.move (Operand.tmp 0), type := 150, pos := "ways.go:74", after := #[], guard := none }) (v := .pointer (some ⟨H, 0, none⟩)) rfl (by kernel_rfl) (by kernel_rfl) (by kernel_rfl) (fun _ _ _ h => h) (Or.inl ⟨by rfl, fun w0 hSw => ?_⟩) hH0 ?_
  · (clear hSw; go_simp)
  simp only [Act.put, List.setIfInBounds_toArray, List.set_cons_zero, List.set_cons_succ]
  refine wpAnyH_take (i := 1) (oi := { dst := some 61, op := Op.move (Operand.tmp 7), type := 176, pos := "ways.go:74", after := #[], guard := none }) (v := .slice (some ⟨D, 0, none⟩) K K) rfl (by kernel_rfl) (by kernel_rfl) (by kernel_rfl) (fun _ _ _ h => h) (Or.inl ⟨by rfl, fun w0 hSw => ?_⟩) hH0 ?_
  · (clear hSw; go_simp)
  simp only [Act.put, List.setIfInBounds_toArray, List.set_cons_zero, List.set_cons_succ]
  refine wpAnyH_take (i := 2) (oi := { dst := some 62, op := Op.move (Operand.tmp 13), type := 3, pos := "ways.go:74", after := #[], guard := none }) (v := .int .i64 (i : Int)) rfl (by kernel_rfl) (by kernel_rfl) (by kernel_rfl) (fun _ _ _ h => h) (Or.inl ⟨by rfl, fun w0 hSw => ?_⟩) hH0 ?_
  · (clear hSw; go_simp)
  simp only [Act.put, List.setIfInBounds_toArray, List.set_cons_zero, List.set_cons_succ]
  refine wpAnyH_take (i := 4) (oi := { dst := some 64, op := Op.move (Operand.tmp 12), type := 46, pos := "ways.go:74", after := #[], guard := none }) (v := .slice (some ⟨M, 0, none⟩) T T) rfl (by kernel_rfl) (by kernel_rfl) (by kernel_rfl) (fun _ _ _ h => h) (Or.inl ⟨by rfl, fun w0 hSw => ?_⟩) hH0 ?_
  · (clear hSw; go_simp)
  simp only [Act.put, List.setIfInBounds_toArray, List.set_cons_zero, List.set_cons_succ]
  refine wpAnyH_take (i := 5) (oi := { dst := some 65, op := Op.move (Operand.tmp 14), type := 3, pos := "ways.go:74", after := #[], guard := none }) (v := .int .i64 z) rfl (by kernel_rfl) (by kernel_rfl) (by kernel_rfl) (fun _ _ _ h => h) (Or.inl ⟨by rfl, fun w0 hSw => ?_⟩) hH0 ?_
  · (clear hSw; go_simp)
  simp only [Act.put, List.setIfInBounds_toArray, List.set_cons_zero, List.set_cons_succ]
  refine wpAnyH_take (i := 3) (oi := { dst := some 63, op := Op.indexAddr 176 (Operand.tmp 61) (Operand.tmp 62), type := 0, pos := "ways.go:74", after := #[{ on := 1, ground := Ground.data }, { on := 2, ground := Ground.data }], guard := none }) (v := .pointer (some ⟨D, i * 5, none⟩)) rfl (by kernel_rfl) (by kernel_rfl) (by kernel_rfl) (fun _ _ _ h => h) (Or.inl ⟨by rfl, fun w0 hSw => ?_⟩) hH0 ?_
  · (clear hSw; go_simp)
  simp only [Act.put, List.setIfInBounds_toArray, List.set_cons_zero, List.set_cons_succ]
  refine wpAnyH_take (i := 6) (oi := { dst := some 66, op := Op.unOp UnOp.neg 3 (Operand.tmp 65), type := 3, pos := "ways.go:74", after := #[{ on := 5, ground := Ground.data }], guard := none }) (v := .int .i64 zn) rfl (by kernel_rfl) (by kernel_rfl) (by kernel_rfl) (fun _ _ _ h => h) (Or.inl ⟨by rfl, fun w0 hSw => ?_⟩) hH0 ?_
  · (clear hSw; go_simp)
  simp only [Act.put, List.setIfInBounds_toArray, List.set_cons_zero, List.set_cons_succ]
  refine wpAnyH_take (i := 7) (oi := { dst := some 67, op := Op.binOp BinOp.sub 3 (Operand.tmp 66) (Operand.const (Value.int IntKind.i64 1)) 3, type := 3, pos := "ways.go:74", after := #[{ on := 6, ground := Ground.data }], guard := none }) (v := .int .i64 (d : Int)) rfl (by kernel_rfl) (by kernel_rfl) (by kernel_rfl) (fun _ _ _ h => h) (Or.inl ⟨by rfl, fun w0 hSw => ?_⟩) hH0 ?_
  · (clear hSw; go_simp)
  simp only [Act.put, List.setIfInBounds_toArray, List.set_cons_zero, List.set_cons_succ]
  refine wpAnyH_take (i := 8) (oi := { dst := some 68, op := Op.indexAddr 46 (Operand.tmp 64) (Operand.tmp 67), type := 0, pos := "ways.go:74", after := #[{ on := 4, ground := Ground.data }, { on := 7, ground := Ground.data }], guard := none }) (v := .pointer (some ⟨M, d * 4, none⟩)) rfl (by kernel_rfl) (by kernel_rfl) (by kernel_rfl) (fun _ _ _ h => h) (Or.inl ⟨by rfl, fun w0 hSw => ?_⟩) hH0 ?_
  · (clear hSw; go_simp)
  simp only [Act.put, List.setIfInBounds_toArray, List.set_cons_zero, List.set_cons_succ]
  refine wpAnyH_take (i := 9) (oi := { dst := some 69, op := Op.load 51 (Operand.tmp 68), type := 51, pos := "ways.go:74", after := #[{ on := 8, ground := Ground.data }], guard := none }) (v := .agg ([.int .u64 p.x0, .int .u64 p.x1, .int .u64 p.x2, .int .u64 p.x3]).toArray) rfl (by kernel_rfl) (by kernel_rfl) (by kernel_rfl) (fun _ _ _ h => h) (yieldsIf_load_mid (by rfl) 51 _ rfl (M) (d * 4) rfl ([.int .u64 p.x0, .int .u64 p.x1, .int .u64 p.x2, .int .u64 p.x3]) _ (fun w0 hSw => hSw) UL.out rfl IL.out) hH0 ?_
  simp only [Act.put, List.setIfInBounds_toArray, List.set_cons_zero, List.set_cons_succ]
  refine wpAnyH_take (i := 10) (oi := { dst := some 70, op := Op.makeInterface 51 (Operand.tmp 69), type := 20, pos := "ways.go:74", after := #[{ on := 9, ground := Ground.data }], guard := none }) (v := .iface 51 (.agg #[.int .u64 p.x0, .int .u64 p.x1, .int .u64 p.x2, .int .u64 p.x3])) rfl (by kernel_rfl) (by kernel_rfl) (by kernel_rfl) (fun _ _ _ h => h) (Or.inl ⟨by rfl, fun w0 hSw => ?_⟩) hH0 ?_
  · (clear hSw; go_simp)
  simp only [Act.put, List.setIfInBounds_toArray, List.set_cons_zero, List.set_cons_succ]
  refine wpAnyH_ready (rs := [11]) (by kernel_rfl) (by simp) ?_
  refine AllReadyH.cons (o := { dst := some 71, op := Op.call { callee := Callee.invoke (Operand.tmp 70) "Neg", args := #[], argTypes := #[] }, type := 51, pos := "ways.go:74", after := #[{ on := 10, ground := Ground.data }], guard := none }) rfl (fun K hK => ?_) AllReadyH.nil
  have HH := hidden hH0
  clear hH0
  go_simp
  refine (C11.out).mono ?_
  rintro e wn1 ⟨rfl, hb⟩
  have BB := hidden (hb)
  have SN := hidden (range_bl HH.out hb)
  clear HH C11 hb
  go_wp2_with fail
  refine hK.out _ _ SN.out (fun hH1 => ?_)
  clear hK K SN
  refine wpAnyH_ready (rs := [12]) (by kernel_rfl) (by simp) ?_
  refine AllReadyH.cons (o := { dst := some 72, op := Op.call { callee := Callee.value (Operand.func 99), args := #[Operand.tmp 60, Operand.tmp 63, Operand.tmp 71], argTypes := #[150, 179, 51] }, type := 0, pos := "ways.go:74", after := #[{ on := 0, ground := Ground.data }, { on := 3, ground := Ground.data }, { on := 11, ground := Ground.data }, { on := 11, ground := Ground.chain }], guard := none }) rfl (fun K hK => ?_) AllReadyH.nil
  have HH := hidden hH1
  clear hH1
  go_simp
  refine (C12.out _ BB.out).mono ?_
  rintro e wn2 ⟨rfl, hm, hr⟩
  have RR := hidden (hr)
  have SN := hidden (hm)
  clear HH C12 hm hr
  go_wp2_with fail
  refine hK.out _ _ SN.out (fun hH2 => ?_)
  clear hK K SN
  have HH := hidden hH2
  have FQ := hidden (HQ.out _ RR.out)
  refine wpAnyH_done (by kernel_rfl) ?_ _
  refine NoPanic.normal ?_
  exact FQ.out
def st6o : Array Oper := #[{ dst := some 31, op := Op.move (Operand.tmp 0), type := 150, pos := "ways.go:68", after := #[], guard := none },
  { dst := some 32, op := Op.fieldAddr 93 (Operand.tmp 9) 1, type := 0, pos := "ways.go:68", after := #[], guard := none },
  { dst := some 33, op := Op.load 51 (Operand.tmp 32), type := 51, pos := "ways.go:68", after := #[{ on := 1, ground := Ground.data }], guard := none },
  { dst := some 34, op := Op.move (Operand.tmp 10), type := 120, pos := "ways.go:68", after := #[], guard := none },
  { dst := some 35, op := Op.call { callee := Callee.value (Operand.func 59), args := #[Operand.tmp 34], argTypes := #[120] }, type := 3, pos := "ways.go:68", after := #[{ on := 3, ground := Ground.data }], guard := none },
  { dst := some 36, op := Op.call { callee := Callee.value (Operand.func 98), args := #[Operand.tmp 31, Operand.tmp 33, Operand.tmp 35], argTypes := #[150, 51, 3] }, type := 46, pos := "ways.go:68", after := #[{ on := 0, ground := Ground.data }, { on := 2, ground := Ground.data }, { on := 4, ground := Ground.data }, { on := 4, ground := Ground.chain }], guard := none },
  { dst := some 12, op := Op.assign (Operand.tmp 36), type := 46, pos := "ways.go:68", after := #[{ on := 5, ground := Ground.data }, { on := 5, ground := Ground.chain }, { on := 0, ground := Ground.phase }, { on := 1, ground := Ground.phase }, { on := 2, ground := Ground.phase }, { on := 3, ground := Ground.phase }, { on := 4, ground := Ground.phase }, { on := 5, ground := Ground.phase }], guard := none }]
set_option maxRecDepth 100000 in
set_option maxHeartbeats 16000000 in
theorem st6 (Q : Exit → Act → World → Prop) (H T9 B K : Nat) (p : E4) (TP : Nat → Prop) (RW : Nat → Nat → World → Prop) (u1 u2 u3 u4 u5 u6 u7 u8 u11 u12 u13 u14 u15 u16 u17 u18 u19 u20 u21 u22 u23 u24 u25 u26 u27 u28 u29 u30 u31 u32 u33 u34 u35 u36 u37 u38 u39 u40 u41 u42 u43 u44 u45 u46 u47 u48 u49 u50 u51 u52 u53 u54 u55 u56 u57 u58 u59 u60 u61 u62 u63 u64 u65 u66 u67 u68 u69 u70 u71 u72 u73 u74 u75 u76 u77 u78 : Value) (W : World)
    (cm : W.rangeAt T9 4 [.int .u64 p.x0, .int .u64 p.x1, .int .u64 p.x2, .int .u64 p.x3])
    (C4 : Hid (Calls Tryz.prog 59 #[.slice (some ⟨B, 0, none⟩) K K] W.drew fun e w' => ∃ T : Nat, e = .returned (.int .i64 (T : Int)) ∧ TP T ∧ Below W.drew.heap.size W.drew w'))
    (C5 : Hid (∀ (x : World) (T : Nat), TP T → Below W.drew.heap.size W.drew x → Calls Tryz.prog 98 #[.pointer (some ⟨H, 0, none⟩), .agg #[.int .u64 p.x0, .int .u64 p.x1, .int .u64 p.x2, .int .u64 p.x3], .int .i64 (T : Int)] x fun e w' => ∃ M : Nat, e = .returned (.slice (some ⟨M, 0, none⟩) T T) ∧ w'.rangeAt T9 4 [.int .u64 p.x0, .int .u64 p.x1, .int .u64 p.x2, .int .u64 p.x3] ∧ RW T M w'))
    (HQ : Hid (∀ (T M : Nat) (wz : World), TP T → RW T M wz → Q .normal ⟨#[.pointer (some ⟨H, 0, none⟩), u1, u2, u3, u4, u5, u6, u7, u8, .pointer (some ⟨T9, 0, none⟩), .slice (some ⟨B, 0, none⟩) K K, u11, .slice (some ⟨M, 0, none⟩) T T, u13, u14, u15, u16, u17, u18, u19, u20, u21, u22, u23, u24, u25, u26, u27, u28, u29, u30, .pointer (some ⟨H, 0, none⟩), .pointer (some ⟨T9, 4, none⟩), .agg #[.int .u64 p.x0, .int .u64 p.x1, .int .u64 p.x2, .int .u64 p.x3], .slice (some ⟨B, 0, none⟩) K K, .int .i64 (T : Int), .slice (some ⟨M, 0, none⟩) T T, u37, u38, u39, u40, u41, u42, u43, u44, u45, u46, u47, u48, u49, u50, u51, u52, u53, u54, u55, u56, u57, u58, u59, u60, u61, u62, u63, u64, u65, u66, u67, u68, u69, u70, u71, u72, u73, u74, u75, u76, u77, u78], []⟩ wz)) : (Code.region 6 st6o true).wp Tryz.prog Q ⟨#[.pointer (some ⟨H, 0, none⟩), u1, u2, u3, u4, u5, u6, u7, u8, .pointer (some ⟨T9, 0, none⟩), .slice (some ⟨B, 0, none⟩) K K, u11, u12, u13, u14, u15, u16, u17, u18, u19, u20, u21, u22, u23, u24, u25, u26, u27, u28, u29, u30, u31, u32, u33, u34, u35, u36, u37, u38, u39, u40, u41, u42, u43, u44, u45, u46, u47, u48, u49, u50, u51, u52, u53, u54, u55, u56, u57, u58, u59, u60, u61, u62, u63, u64, u65, u66, u67, u68, u69, u70, u71, u72, u73, u74, u75, u76, u77, u78], []⟩ W := by
  have UL : Hid (Tryz.prog.underlying 51 = some _) := hidden Tryz.underlying51
  have IL : Hid ((Tryz.prog.info? 51).map (·.size) = some ([.int .u64 p.x0, .int .u64 p.x1, .int .u64 p.x2, .int .u64 p.x3] : List Value).length) := hidden (by kernel_rfl)
  unfold st6o
  refine wp_region_noPanic ?_
  refine wp_region_held_drew (S := fun x => x.rangeAt T9 4 [.int .u64 p.x0, .int .u64 p.x1, .int .u64 p.x2, .int .u64 p.x3]) (by kernel_rfl) (range_bl cm (bl_drew W)) (fun hH0 => ?_)
  refine wpAnyH_take (i := 0) (oi := { dst := some 31, op := Op.move (Operand.tmp 0), type := 150, pos := "ways.go:68", after := #[], guard := none }) (v := .pointer (some ⟨H, 0, none⟩)) rfl (by kernel_rfl) (by kernel_rfl) (by kernel_rfl) (fun _ _ _ h => h) (Or.inl ⟨by rfl, fun w0 hSw => ?_⟩) hH0 ?_
  · (clear hSw; go_simp)
  simp only [Act.put, List.setIfInBounds_toArray, List.set_cons_zero, List.set_cons_succ]
  refine wpAnyH_take (i := 1) (oi := { dst := some 32, op := Op.fieldAddr 93 (Operand.tmp 9) 1, type := 0, pos := "ways.go:68", after := #[], guard := none }) (v := .pointer (some ⟨T9, 4, none⟩)) rfl (by kernel_rfl) (by kernel_rfl) (by kernel_rfl) (fun _ _ _ h => h) (Or.inl ⟨by rfl, fun w0 hSw => ?_⟩) hH0 ?_
  · (clear hSw; go_simp)
  simp only [Act.put, List.setIfInBounds_toArray, List.set_cons_zero, List.set_cons_succ]
  refine wpAnyH_take (i := 3) (oi := { dst := some 34, op := Op.move (Operand.tmp 10), type := 120, pos := "ways.go:68", after := #[], guard := none }) (v := .slice (some ⟨B, 0, none⟩) K K) rfl (by kernel_rfl) (by kernel_rfl) (by kernel_rfl) (fun _ _ _ h => h) (Or.inl ⟨by rfl, fun w0 hSw => ?_⟩) hH0 ?_
  · (clear hSw; go_simp)
  simp only [Act.put, List.setIfInBounds_toArray, List.set_cons_zero, List.set_cons_succ]
  refine wpAnyH_take (i := 2) (oi := { dst := some 33, op := Op.load 51 (Operand.tmp 32), type := 51, pos := "ways.go:68", after := #[{ on := 1, ground := Ground.data }], guard := none }) (v := .agg ([.int .u64 p.x0, .int .u64 p.x1, .int .u64 p.x2, .int .u64 p.x3]).toArray) rfl (by kernel_rfl) (by kernel_rfl) (by kernel_rfl) (fun _ _ _ h => h) (yieldsIf_load_mid (by rfl) 51 _ rfl (T9) (4) rfl ([.int .u64 p.x0, .int .u64 p.x1, .int .u64 p.x2, .int .u64 p.x3]) _ (fun w0 hSw => hSw) UL.out rfl IL.out) hH0 ?_
  simp only [Act.put, List.setIfInBounds_toArray, List.set_cons_zero, List.set_cons_succ]
  refine wpAnyH_ready (rs := [4]) (by kernel_rfl) (by simp) ?_
  refine AllReadyH.cons (o := { dst := some 35, op := Op.call { callee := Callee.value (Operand.func 59), args := #[Operand.tmp 34], argTypes := #[120] }, type := 3, pos := "ways.go:68", after := #[{ on := 3, ground := Ground.data }], guard := none }) rfl (fun K hK => ?_) AllReadyH.nil
  have HH := hidden hH0
  clear hH0
  go_simp
  refine (C4.out).mono ?_
  rintro e wn1 ⟨T, rfl, ht, hb⟩
  have HT := hidden (ht)
  have B4 := hidden (hb)
  have SN := hidden (range_bl HH.out hb)
  clear HH C4 ht hb
  go_wp2_with fail
  refine hK.out _ _ SN.out (fun hH1 => ?_)
  clear hK K SN
  refine wpAnyH_ready (rs := [5]) (by kernel_rfl) (by simp) ?_
  refine AllReadyH.cons (o := { dst := some 36, op := Op.call { callee := Callee.value (Operand.func 98), args := #[Operand.tmp 31, Operand.tmp 33, Operand.tmp 35], argTypes := #[150, 51, 3] }, type := 46, pos := "ways.go:68", after := #[{ on := 0, ground := Ground.data }, { on := 2, ground := Ground.data }, { on := 4, ground := Ground.data }, { on := 4, ground := Ground.chain }], guard := none }) rfl (fun K hK => ?_) AllReadyH.nil
  have HH := hidden hH1
  clear hH1
  go_simp
  refine (C5.out _ T HT.out B4.out).mono ?_
  rintro e wn2 ⟨M, rfl, hm, hr⟩
  have RR := hidden (hr)
  have SN := hidden (hm)
  clear HH C5 hm hr
  go_wp2_with fail
  refine hK.out _ _ SN.out (fun hH2 => ?_)
  clear hK K SN
  refine wpAnyH_take (i := 6) (oi := { dst := some 12, op := Op.assign (Operand.tmp 36), type := 46, pos := "ways.go:68", after := #[{ on := 5, ground := Ground.data }, { on := 5, ground := Ground.chain }, { on := 0, ground := Ground.phase }, { on := 1, ground := Ground.phase }, { on := 2, ground := Ground.phase }, { on := 3, ground := Ground.phase }, { on := 4, ground := Ground.phase }, { on := 5, ground := Ground.phase }], guard := none }) (v := .slice (some ⟨M, 0, none⟩) T T) rfl (by kernel_rfl) (by kernel_rfl) (by kernel_rfl) (fun _ _ _ h => h) (Or.inl ⟨by rfl, fun w0 hSw => ?_⟩) hH2 ?_
  · (clear hSw; go_simp)
  simp only [Act.put, List.setIfInBounds_toArray, List.set_cons_zero, List.set_cons_succ]
  have HH := hidden hH2
  have FQ := hidden (HQ.out T M _ HT.out RR.out)
  refine wpAnyH_done (by kernel_rfl) ?_ _
  refine NoPanic.normal ?_
  exact FQ.out
end Go.Proofs.YtapieajkmpnmoaaGreatDoor.Li
