import Derived.Test.YtljmgfclhbadjaaGreatDoorTk
import Derived.Test.YtljmgfclhbadjaaGreatDoorDnd
import Derived.Lib.AppendZeros
namespace Go.Proofs.YtljmgfclhbadjaaGreatDoor
open Go.RowKit
set_option linter.unusedVariables false
set_option linter.unusedSimpArgs false
open Cm (Wr Tm co bf Ls lf ins Eqm)
namespace Ci
set_option maxRecDepth 100000
set_option maxHeartbeats 16000000
section
variable {S S' : Nat → Prop} {d m q b lb o n c : Nat} {p : Pz} {x y : World} {V : Nat → Value} {X : Nat → List Tm}
theorem equal_any (h : Ds S d m p q b x) (hL : Zm S x lb 2 V X) (hf : ∀ j, j < 2 → ∀ z ∈ X j, hs m p.K z.1 = true) (hl : (X 0).length + (X 1).length ≤ 100000) (hq : p.Q.length < 4096) :
  Calls Tryz.prog 157 #[.pointer (some ⟨d, 0, none⟩), .slice (some ⟨lb, 0, none⟩) 2 2] x fun e w' => ZeP S d m (pReq p (sbX (X 0) (X 1))) q b x e w' := by
 have HD := Hn h
 have HL := Hn hL
 have HF := Hn (And.intro hf (And.intro hl hq))
 have z0 := (hL.el 0 (by omega)).2.1
 have z1 := (hL.el 1 (by omega)).2.1
 obtain ⟨P0, c0, e0, -⟩ := z0.sh
 obtain ⟨P1, c1, e1, -⟩ := z1.sh
 have x0 := (hL.el 0 (by omega)).1
 have x1 := (hL.el 1 (by omega)).1
 rw [e0] at x0 z0
 rw [e1] at x1 z1
 have ZZ := Hn (And.intro z0 z1)
 clear h hL hf hl hq z0 z1
 go_enter Tryz.func157, Tryz.ntmps157
 go_upto_region 1 with fail
 refine eq1 _ S d m q b lb (X 0).length c0 (X 1).length c1 P0 P1 (pReq p (sbX (X 0) (X 1))) (sbX (X 0) (X 1)) _ _ _ _ _ _ _ _ _ _ _ _ _ x x0 x1 (Hn HL.out.nb) (Hn (fun y hb => (subR (HD.out.keep hb).tb (ZZ.out.1.keep hb).r (ZZ.out.2.keep hb).r).mono (fun e w' h => LvP.s h))) (Hn (fun y tb P7 c7 hb htb hr hz => ?_)) (Hn ?_)
 ·have dz := dzero_any (HD.out.keep hb) tb 1 1 (fun _ => .slice P7 (sbX (X 0) (X 1)).length c7) (fun _ => sbX (X 0) (X 1)) ⟨fun e => by have := HD.out.lt _ e; omega, World.block_lt_of_cell? _ _ (hr 0 _ rfl), fun j hj => by
   obtain rfl : j = 0 := by omega
   exact ⟨hr 0 _ rfl, ⟨own_monoT hz.1 (Nat.zero_le _), hz.2, by have := sbX_len (X 0) (X 1); have := HF.out.2.1; omega⟩, fun k hk e => by have := (hz.1.lt k hk).1; have := HD.out.lt _ e; omega⟩⟩ (by omega) (by have := HF.out.2.2; omega) (fun j hj => hs_sb (HF.out.1 0 (by omega)) (HF.out.1 1 (by omega)))
  exact dz
 ·intro wz P7 c7 tb hE
  have FE := Hn hE
  clear hE
  go_wp2_with fail
  refine bodyPost_ret (v := .slice none 0 0) (by simp [results, Tryz.results157, go_sem]) rfl ⟨rfl, FE.out⟩
theorem Zm.at0 (h : Zm S x lb n V X) (k : Nat) (hk : k ≤ n) : Zq9 S x lb 0 k V X := ⟨h.nb, h.lt, fun j hj => by rw [Nat.zero_add]; exact h.el j (by omega)⟩
def pSh1 (m : Nat) (p : Pz) (C : List Tm) (X : Nat → List Tm) (n : Nat) : Pz := pPr m p (fun j => adX C (X j)) (n - 1)
def pSh2 (m : Nat) (p : Pz) (C : List Tm) (X : Nat → List Tm) (n : Nat) : Pz := pPr m (pSh1 m p C X n) (fun j => adX C (X (n + j))) (n - 1)
def shX (m : Nat) (p : Pz) (C : List Tm) (X : Nat → List Tm) (n : Nat) : List Tm := sbX (cuX p (fun j => adX C (X j)) (n - 1)) (cuX (pSh1 m p C X n) (fun j => adX C (X (n + j))) (n - 1))
def pSh (m : Nat) (p : Pz) (C : List Tm) (X : Nat → List Tm) (n : Nat) : Pz := pReq (pSh2 m p C X n) (shX m p C X n)
theorem pSh1_K (m : Nat) (p : Pz) (C : List Tm) (X : Nat → List Tm) (n : Nat) : (pSh1 m p C X n).K = p.K + (n - 1) := pPr_K _ _ _ _
theorem pSh2_K (m : Nat) (p : Pz) (C : List Tm) (X : Nat → List Tm) (n : Nat) : (pSh2 m p C X n).K = p.K + (n - 1) + (n - 1) := by unfold pSh2; rw [pPr_K, pSh1_K]
theorem pSh1_Q (m : Nat) (p : Pz) (C : List Tm) (X : Nat → List Tm) (n : Nat) : (pSh1 m p C X n).Q.length = p.Q.length + 2 * (n - 1) := pPr_Q _ _ _ _
theorem pSh2_Q (m : Nat) (p : Pz) (C : List Tm) (X : Nat → List Tm) (n : Nat) : (pSh2 m p C X n).Q.length = p.Q.length + 2 * (n - 1) + 2 * (n - 1) := by unfold pSh2; rw [pPr_Q, pSh1_Q]
theorem cuX_len {p : Pz} {T : Nat → List Tm} {k : Nat} (hT : (T 0).length ≤ k) (hk : 1 ≤ k) (i : Nat) : (cuX p T i).length ≤ k := by
 cases i with
 | zero => exact hT
 | succ i => exact hk
theorem shuffle1_any (h : Ds S d m p q b x) (bd bl lb n c nu cu : Nat) (Pu : Option Addr) (hbd : x.cell? ⟨bd, 0, none⟩ = some (.pointer (some ⟨d, 0, none⟩))) (hbl : x.cell? ⟨bl, 0, none⟩ = some (.func (.func 155) #[.slice Pu nu cu] #[])) (nbd : ¬ S bd) (nbl : ¬ S bl) (hL : Zm S x lb (n + n) V X) (hn : 1 ≤ n) (hn2 : n ≤ 40) (hc : n + n ≤ c) {C : List Tm} (hu : Zo S x (.slice Pu nu cu) C) (hC : ∀ z ∈ C, hs m p.K z.1 = true) (hf : ∀ j, j < n + n → ∀ z ∈ X j, hs m p.K z.1 = true) (hl : ∀ j, j < n + n → C.length + (X j).length ≤ 1000) (hq : p.Q.length + 2 * n + 2 * n ≤ 4096) (hK : p.K + n + n ≤ 1024) :
  Calls Tryz.prog 156 #[.slice (some ⟨lb, 0, none⟩) (n + n) c, .pointer (some ⟨bd, 0, none⟩), .pointer (some ⟨bl, 0, none⟩)] x fun e w' => ZeP S d m (pSh m p C X n) q b x e w' := by
 have HD := Hn h
 have HL := Hn hL
 have HU := Hn hu
 have HF := Hn (And.intro hC (And.intro hf hl))
 have HN := Hn (And.intro hn (And.intro hn2 (And.intro hq (And.intro hK hc))))
 have HB := Hn (And.intro hbd hbl)
 have NB := Hn (And.intro nbd nbl)
 have w2 : ((n : Int) + (n : Int)).tdiv 2 = (n : Int) := by rw [Int.tdiv_eq_ediv_of_nonneg (by omega)]; omega
 have w3 : IntKind.i64.wrap (n : Int) = (n : Int) := IntWalk.i64_in _ (by omega)
 clear h hL hu hC hf hl hn hn2 hq hK hc hbd hbl nbd nbl
 go_enter Tryz.func156, Tryz.ntmps156
 have w4 : wrap64 (n : Int) = (n : Int) := by have := HN.out.2.1; unfold wrap64; omega
 go_upto_region 2 with fail
 try rw [w2, w4]
 refine sh2 _ S d m q b lb bd bl (n + n) n c nu cu Pu (pSh1 m p C X n) (pSh2 m p C X n) (pSh m p C X n) (cuX p (fun j => adX C (X j)) (n - 1)) (cuX (pSh1 m p C X n) (fun j => adX C (X (n + j))) (n - 1)) _ _ _ _ _ _ _ _ _ _ _ _ _ _ _ _ _ _ _ _ x HB.out.1 HB.out.2 NB (Hn (by have := HN.out.2.2.2.2; refine ⟨by omega, by omega, by omega, by omega, by omega⟩)) (Hn (fun y hb => ?_)) (Hn (fun y S5 h5 g5 k5 => ?_)) (Hn (fun y S6 tb P5 c5 P6 c6 h6 g6 k6 hz => ?_)) (Hn ?_)
 ·exact (dprodN_any (HD.out.keep hb) ((HL.out.at0 n (by omega)).keep hb) HN.out.1 (by have := HN.out.2.1; omega) c (by have := HN.out.2.2.2.2; omega) (HU.out.keep hb) HF.out.1 (fun j hj => HF.out.2.1 j (by omega)) (fun j hj => by have := HF.out.2.2 j (by omega); omega) (by have := HN.out.2.2.1; omega) (by have := HN.out.2.2.2.1; omega)).mono (fun e w' k => LoP.s k)
 ·exact (dprodN_any h5 ((HL.out.at n n (by omega)).step g5 k5) HN.out.1 (by have := HN.out.2.1; omega) (c - n) (by have := HN.out.2.2.2.2; omega) (HU.out.step g5 k5) (by rw [pSh1_K]; exact fun z hz => hs_mono (HF.out.1 z hz) (by omega)) (fun j hj => by rw [pSh1_K]; exact fun z hz => hs_mono (HF.out.2.1 (n + j) (by omega) z hz) (by omega)) (fun j hj => by have := HF.out.2.2 (n + j) (by omega); omega) (by rw [pSh1_Q]; have := HN.out.2.2.1; have := HN.out.1; omega) (by rw [pSh1_K]; have := HN.out.2.2.2.1; have := HN.out.1; omega)).mono (fun e w' k => LoP.s k)
 ·have t1 : ∀ z ∈ cuX p (fun j => adX C (X j)) (n - 1), hs m (p.K + (n - 1)) z.1 = true := cuX_hs (hs_ad HF.out.1 (HF.out.2.1 0 (by have := HN.out.1; omega))) _
  have t2 : ∀ z ∈ cuX (pSh1 m p C X n) (fun j => adX C (X (n + j))) (n - 1), hs m ((pSh1 m p C X n).K + (n - 1)) z.1 = true := cuX_hs (by rw [pSh1_K]; exact fun z hz => hs_mono (hs_ad HF.out.1 (HF.out.2.1 (n + 0) (by have := HN.out.1; omega)) z hz) (by omega)) _
  have q1 : (cuX p (fun j => adX C (X j)) (n - 1)).length ≤ 1000 := cuX_len (by have := adX_len C (X 0); have := HF.out.2.2 0 (by have := HN.out.1; omega); omega) (by omega) _
  have q2 : (cuX (pSh1 m p C X n) (fun j => adX C (X (n + j))) (n - 1)).length ≤ 1000 := cuX_len (by have := adX_len C (X (n + 0)); have := HF.out.2.2 (n + 0) (by have := HN.out.1; omega); omega) (by omega) _
  have c := equal_any h6 hz (fun j hj => by
   have hj2 : j = 0 ∨ j = 1 := by omega
   rw [pSh2_K]
   rcases hj2 with rfl | rfl
   ·exact fun z hz => hs_mono (t1 z hz) (by omega)
   ·exact fun z hz => hs_mono (t2 z hz) (by rw [pSh1_K]; omega)) (show (cuX p (fun j => adX C (X j)) (n - 1)).length + (cuX (pSh1 m p C X n) (fun j => adX C (X (n + j))) (n - 1)).length ≤ 100000 by omega) (by rw [pSh2_Q]; have := HN.out.2.2.1; have := HN.out.1; omega)
  exact c
 ·intro wz P5 P6 c5 c6 tb hE
  have FE := Hn hE
  clear hE
  go_wp2_with fail
  refine bodyPost_ret (v := .slice none 0 0) (by simp [results, Tryz.results156, go_sem]) rfl ⟨rfl, FE.out⟩
end
end Ci
end Go.Proofs.YtljmgfclhbadjaaGreatDoor
namespace Go.Proofs.YtljmgfclhbadjaaGreatDoor
open Go.RowKit
set_option linter.unusedVariables false
set_option linter.unusedSimpArgs false
open Cm (Wr Tm co bf Ls lf ins Eqm)
namespace Ci
set_option maxRecDepth 100000
set_option maxHeartbeats 16000000
theorem wpList_stM {ops : Array Oper} {rest : List Oper} {op : Oper} {a : Act} {w : World} {Q : Exit → Act → World → Prop} (hgd : op.guard = none) (ty : TypeId) (x y : Operand) (ho : op.op = .store ty x y) (b o n c : Nat) (P : Option Addr) (hx : a.eval x = .pointer (some ⟨b, o, none⟩)) (hy : a.eval y = (.func (.func 155) #[.slice P n c] #[])) (ht : w.there b o 1) (hi : (Tryz.prog.info? ty).map (·.size) = some 1) (hd : op.dst = none)
  (h : ∀ w', w' = w.setCells b o [(.func (.func 155) #[.slice P n c] #[])] → wpList Tryz.prog ops Q rest a w') : wpList Tryz.prog ops Q (op :: rest) a w :=
 wpList_plain hgd fun K hK => by
  have hr : (storeVar ty ⟨b, o, none⟩ (.func (.func 155) #[.slice P n c] #[])).run Tryz.prog w = .ok () (w.setCells b o [(.func (.func 155) #[.slice P n c] #[])]) := run_storeVar_mid w b o ty #[(.func (.func 155) #[.slice P n c] #[])] ht hi (by simp [Value.oneCell'])
  have h1 : K a (w.setCells b o [(.func (.func 155) #[.slice P n c] #[])]) := hK _ _ (h _ rfl)
  unfold Oper.wp execOp
  simp only [ho, hx, hy, Instr.storeAt, Instr.sureAddr, Sem.run_bind, Sem.run_pure, Result.andThen_ok, hr]
  have h2 : K (a.put op.dst undef) (w.setCells b o [(.func (.func 155) #[.slice P n c] #[])]) := by rw [hd]; exact h1
  exact h2
theorem i1_fn : (Tryz.prog.info? 236).map (·.size) = some 1 := by kernel_rfl
def cnX (z : E4) : List Tm := lf Sm.L (glM z 1 oneT)
def SfP (d : Nat) (C : List Tm) (x : World) (e : Ending) (w' : World) : Prop := ∃ bd bl P c, e = .returned (.func (.func 156) #[] #[.pointer (some ⟨bd, 0, none⟩), .pointer (some ⟨bl, 0, none⟩)]) ∧ x.heap.size ≤ bd ∧ x.heap.size ≤ bl ∧ w'.cell? ⟨bd, 0, none⟩ = some (.pointer (some ⟨d, 0, none⟩)) ∧ w'.cell? ⟨bl, 0, none⟩ = some (.func (.func 155) #[.slice P C.length c] #[]) ∧ Lq x C (.slice P C.length c) w'
theorem shuffle_any (d : Nat) (r : E4) (hr : r.ok) (x : World) (hT : Tb x) : Calls Tryz.prog 86 #[.pointer (some ⟨d, 0, none⟩), .agg #[.int .u64 r.x0, .int .u64 r.x1, .int .u64 r.x2, .int .u64 r.x3]] x fun e w' => SfP d (cnX (lst (-r.n))) x e w' := by
 have C0 := Hn (fun y (hy : Below x.heap.size x y) => fix (R := lst (-r.n)) (Neg_any r y (hT.keep hy) hr) rfl)
 have C1 := Hn (fun y (hy : Below x.heap.size x y) => Const_any (lst (-r.n)) y (hT.keep hy) (lst_ok _))
 generalize hz : lst (-r.n) = z at *
 clear hz
 go_enter Tryz.func86, Tryz.ntmps86
 go_upto_region 1 with fail
 have BB := Hn (bl_alloc2 x (.cells #[.pointer (some ⟨d, 0, none⟩)] 33) (.cells #[.int .u64 r.x0, .int .u64 r.x1, .int .u64 r.x2, .int .u64 r.x3] 53))
 have k0 : ((x.alloc (.cells #[.pointer (some ⟨d, 0, none⟩)] 33)).alloc (.cells #[.int .u64 r.x0, .int .u64 r.x1, .int .u64 r.x2, .int .u64 r.x3] 53)).cell? ⟨x.heap.size, 0, none⟩ = some (.pointer (some ⟨d, 0, none⟩)) := by go_simp
 have c0 : ((x.alloc (.cells #[.pointer (some ⟨d, 0, none⟩)] 33)).alloc (.cells #[.int .u64 r.x0, .int .u64 r.x1, .int .u64 r.x2, .int .u64 r.x3] 53)).cell? ⟨x.heap.size + 1, 0, none⟩ = some (.int .u64 r.x0) := by go_simp
 have c1 : ((x.alloc (.cells #[.pointer (some ⟨d, 0, none⟩)] 33)).alloc (.cells #[.int .u64 r.x0, .int .u64 r.x1, .int .u64 r.x2, .int .u64 r.x3] 53)).cell? ⟨x.heap.size + 1, 1, none⟩ = some (.int .u64 r.x1) := by go_simp
 have c2 : ((x.alloc (.cells #[.pointer (some ⟨d, 0, none⟩)] 33)).alloc (.cells #[.int .u64 r.x0, .int .u64 r.x1, .int .u64 r.x2, .int .u64 r.x3] 53)).cell? ⟨x.heap.size + 1, 2, none⟩ = some (.int .u64 r.x2) := by go_simp
 have c3 : ((x.alloc (.cells #[.pointer (some ⟨d, 0, none⟩)] 33)).alloc (.cells #[.int .u64 r.x0, .int .u64 r.x1, .int .u64 r.x2, .int .u64 r.x3] 53)).cell? ⟨x.heap.size + 1, 3, none⟩ = some (.int .u64 r.x3) := by go_simp
 generalize hw0 : ((x.alloc (.cells #[.pointer (some ⟨d, 0, none⟩)] 33)).alloc (.cells #[.int .u64 r.x0, .int .u64 r.x1, .int .u64 r.x2, .int .u64 r.x3] 53)) = w0 at *
 clear hw0
 have K0 := Hn k0
 clear k0
 go_upto_region 2 with (first | (go_at_call 154; refine (C0.out _ BB.out).mono ?_; rintro e w1 ⟨rfl, hb⟩; have B1 := Hn hb; have B2 := Hn (bl_trans BB.out hb); clear hb C0; simp only [E4.v]) | (go_at_call 88; refine (C1.out _ B2.out).mono ?_; rintro e w2 ⟨v, rfl, hl⟩; obtain ⟨P, c, rfl, -⟩ := own_shT hl.1; have HL := Hn hl; clear hl C1) | (refine wpList_stM rfl 236 _ _ rfl w2.heap.size 0 (cnX z).length c P rfl rfl (there_newM w2 [.nilFunc] 236) i1_fn rfl ?_; intro w3 hw; have HW := Hn hw; clear hw))
 have hn := heap_alloc_new w2 (.cells #[.nilFunc] 236)
 have h6 := heap_setCell_same (w2.alloc (.cells #[.nilFunc] 236)) w2.heap.size 0 _ 236 (.func (.func 155) #[.slice P (cnX z).length c] #[]) hn
 have gb : (w2.alloc (.cells #[.nilFunc] 236)).grownBy w3 (some w2.heap.size) := by rw [HW.out]; exact gb_setCells _ _ _ _
 have h7 : w3.heap[w2.heap.size]? = some (.cells #[(.func (.func 155) #[.slice P (cnX z).length c] #[])] 236 (0, 0)) := by rw [HW.out]; exact h6
 have b2 : Below w2.heap.size w2 w3 := below_tr (bl_alloc w2 _) (below_grown gb (by simp) (fun k hk => by rw [← Option.some.inj hk]; exact Nat.le_refl _))
 have HH := Hn (And.intro h7 b2)
 clear hn h6 gb h7 b2 HW
 go_wp2_with fail
 have bx := bl_trans B2.out HL.out.2.1
 exact bodyPost_ret (v := .func (.func 156) #[] #[.pointer (some ⟨x.heap.size, 0, none⟩), .pointer (some ⟨w2.heap.size, 0, none⟩)]) (by simp [results, Tryz.results86, go_sem]) rfl ⟨x.heap.size, w2.heap.size, P, c, rfl, Nat.le_refl _, bx.size, cell_keep (cell_keep (cell_keep K0.out B1.out) HL.out.2.1) HH.out.2, cell_of_row _ _ 0 _ _ (0, 0) HH.out.1, own_monoT (own_keepT HL.out.1 HH.out.2) B2.out.size, bl_trans bx HH.out.2, HL.out.2.2⟩
end Ci
end Go.Proofs.YtljmgfclhbadjaaGreatDoor
namespace Go.Proofs.YtljmgfclhbadjaaGreatDoor
open Go.RowKit
set_option linter.unusedVariables false
set_option linter.unusedSimpArgs false
open Cm (Wr Tm co bf Ls lf ins Eqm)
namespace Ci
set_option maxRecDepth 100000
set_option maxHeartbeats 16000000
theorem growL_any (n : Nat) (w : World) (h0 : 0 < n) (hn : n ≤ 100000) :
  Calls Tryz.prog 158 #[.slice none 0 0, .int .i64 n] w fun e w' => ∃ (v : Value), e = .returned v ∧ w'.ownsRow w.heap.size 50 1 v 0 [] ∧ Below w.heap.size w w' := by
 have hi : Tryz.prog.info? 50 = some (Tryz.prog.info? 50).get! := by kernel_rfl
 have hz : (Tryz.prog.info? 50).get!.zero = some (.slice none 0 0) := by kernel_rfl
 have hs : (Tryz.prog.info? 50).get!.size = 1 := by kernel_rfl
 have hy : (Tryz.prog.info? 50).get!.bytes = 24 := by kernel_rfl
 have hge := grownCap_ge w n 0 50
 have hle := grownCap_le_maxLen w n 0 50 (by unfold maxLen; omega)
 have hr := Lib.run_append_nil_zeros w 48 3 48 50 (Tryz.prog.info? 50).get! (.slice none 0 0) .i64 .i64 (by kernel_rfl) (by kernel_rfl) hi hz n h0 (by rw [hs]; decide) (by omega) (by rw [hy]; omega)
 obtain ⟨G, hG⟩ : ∃ G, G = grownCap w n 0 50 := ⟨_, rfl⟩
 rw [← hG] at hge hle hr
 obtain ⟨Z, hZ⟩ : ∃ Z, Z = Builtin.zeroCells (Value.slice none 0 0).cells n ++ Builtin.zeroCells (Value.slice none 0 0).cells (G - n) := ⟨_, rfl⟩
 rw [← hZ] at hr
 have hZs : Z.size = G * 1 := by rw [hZ]; simp [size_zeroCells, Value.cells]; omega
 have OW := Hn (World.ownsRow_made (base := w.heap.size) (e := 50) (size := 1) w.drew Z G (Nat.le_refl _) hle hZs)
 have BB := Hn (bl_trans (bl_drew w) (bl_alloc w.drew (.cells Z 50)))
 have HR := Hn hr
 have w1 : IntKind.i64.wrap ((n : Int) - 0) = (n : Int) := by rw [IntWalk.i64_in _ (by omega)]; omega
 have w2 : IntKind.i64.wrap (n : Int) = (n : Int) := IntWalk.i64_in _ (by omega)
 have n0 : ¬ ((n : Int) < 0) := by omega
 have n1 : (0 : Int) < (n : Int) := by omega
 have n2 : (n : Int) > 0 := by omega
 have g0 : (0 : Int) ≤ (G : Int) := by omega
 clear hi hz hs hy hr hZ hZs hG hn
 go_enter Tryz.func158, Tryz.ntmps158
 go_wp2_with (first | (at_builtin; refine Lib.wpList_append_run _ rfl _ _ _ _ rfl _ _ rfl rfl _ _ HR.out ?_))
 refine bodyPost_ret (v := .slice (some ⟨w.heap.size, 0, none⟩) 0 G) (by simp [results, Tryz.results158, go_sem]) rfl ⟨_, rfl, OW.out, BB.out⟩
def vsL (U : Nat → Value) (m : Nat) : List Value := (List.range m).map U
theorem vsL_add (U : Nat → Value) (a b : Nat) : vsL U (a + b) = vsL U a ++ (List.range b).map fun j => U (a + j) := by
 unfold vsL
 rw [List.range_add, List.map_append, List.map_map]
 rfl
theorem vsL_get {U : Nat → Value} {m j : Nat} (h : j < m) : (vsL U m)[j]? = some (U j) := by simp [vsL, h]
theorem concatL_any (n : Nat) (tb : Nat) (lk ck : Nat → Nat) (U : Nat → Value) (w : World) (h0 : 0 < n) (hn : n ≤ 1000) (hc : ∀ k, k < 2 → w.cell? ⟨tb, k, none⟩ = some (.slice (some ⟨lk k, 0, none⟩) n (ck k))) (he : ∀ k, k < 2 → ∀ j, j < n → w.cell? ⟨lk k, j, none⟩ = some (U (k * n + j))) (h1 : ∀ j, j < n + n → (U j).oneCell' = true) :
  Calls Tryz.prog 87 #[.slice (some ⟨tb, 0, none⟩) 2 2] w fun e w' => ∃ v, e = .returned v ∧ w'.ownsRow w.heap.size 50 1 v (n + n) (vsL U (n + n)) ∧ Below w.heap.size w w' := by
 have HC := Hn (And.intro hc (And.intro he h1))
 have HN := Hn (And.intro h0 hn)
 have GR := Hn (growL_any (n + n) w (by omega) (by omega))
 clear hc he h1
 go_enter Tryz.func87, Tryz.ntmps87
 go_wp2_with fail
 go_loopw [3, 11] (fun zv kv w' => ∃ k : Nat, k ≤ 2 ∧ kv = .int .i64 (k : Int) ∧ zv = .int .i64 ((k * n : Nat) : Int) ∧ w' = w) (fun _ k _ => 2 - (intOf k).toNat)
 case atStart => exact ⟨0, by omega, rfl, by simp, rfl⟩
 case round =>
  obtain ⟨k, hk, rfl, rfl, rfl⟩ := hrel
  by_cases hkn : k < 2
  ·have x0 := HC.out.1 k hkn
   have k0 : (0 : Int) ≤ (k : Int) := by omega
   have k1 : (k : Int) < 2 := by omega
   have kn : k * n ≤ 2000 := by have : k * n ≤ 1 * n := Nat.mul_le_mul_right n (by omega); omega
   generalize hs : k * n = s at *
   have w8 : IntKind.i64.wrap ((s : Int) + (n : Int)) = (s : Int) + (n : Int) := IntWalk.i64_in _ (by omega)
   have w9 : IntKind.i64.wrap ((k : Int) + 1) = (k : Int) + 1 := IntWalk.i64_in _ (by omega)
   have n9 : ¬ ((s : Int) + (n : Int) < 0) := by omega
   go_wp2_with fail
   go_roundw
   case rel => exact ⟨k + 1, by omega, by go_num, by congr 1; rw [Nat.add_mul, hs]; omega, trivial⟩
   case measure => simp [intOf]; omega
  ·obtain rfl : k = 2 := by omega
   have e2 : 2 * n = n + n := by omega
   rw [e2]
   go_wp2_with (first | (go_at_call 158; refine (GR.out).mono ?_; rintro e wa ⟨v0, rfl, ho, hb⟩; have HO := Hn ho; have HB := Hn hb; clear ho hb))
   go_loopw [6, 27] (fun vv kv w' => ∃ k : Nat, k ≤ 2 ∧ kv = .int .i64 (k : Int) ∧ Hid (w'.ownsRow wr.heap.size 50 1 vv (k * n) (vsL U (k * n))) ∧ Hid (Below wr.heap.size wr w')) (fun _ k _ => 2 - (intOf k).toNat)
   case atStart => exact ⟨0, by omega, rfl, Hn (by rw [Nat.zero_mul]; exact HO.out), HB⟩
   case round =>
    clear HO HB GR
    obtain ⟨k, hk, rfl, HO, HB⟩ := hrel
    by_cases hkn : k < 2
    ·have x0 := cell_keep (HC.out.1 k hkn) HB.out
     have k0 : (0 : Int) ≤ (k : Int) := by omega
     have k1 : (k : Int) < 2 := by omega
     have kn : k * n ≤ 2000 := by have : k * n ≤ 1 * n := Nat.mul_le_mul_right n (by omega); omega
     have EL := Hn (fun j (hj : j < n) => cell_keep (HC.out.2.1 k hkn j hj) HB.out)
     have U1 : Hid (∀ u ∈ (List.range n).map (fun j => U (k * n + j)), u.oneCell' = true) := Hn (fun u hu => by
      simp only [List.mem_map, List.mem_range] at hu
      obtain ⟨j, hj, rfl⟩ := hu
      exact HC.out.2.2 (k * n + j) (by have : k * n ≤ 1 * n := Nat.mul_le_mul_right n (by omega); omega))
     have NX := Hn (show (k + 1) * n = k * n + n by rw [Nat.add_mul]; omega)
     have w9 : IntKind.i64.wrap ((k : Int) + 1) = (k : Int) + 1 := IntWalk.i64_in _ (by omega)
     generalize hs : k * n = s at *
     go_wp2_with (first | (at_builtin; refine wpL_apL rfl _ _ rfl _ s _ _ rfl HO.out (lk k) n (ck k) ((List.range n).map fun j => U (s + j)) rfl (by simp) (fun j u hu => by have hj : j < n := (by have := (List.getElem?_eq_some_iff.1 hu).1; simpa using this); have e : u = U (s + j) := (by simp [hj] at hu; exact hu.symm); rw [e]; exact EL.out j hj) U1.out (by omega) HB.out.size ?_; intro v2 w2 ho2 hg2 hv2; have HO2 := Hn ho2; have HB2 := Hn (below_tr HB.out (below_grown hg2 HB.out.size (fun k hk => (HO.out.lt k hk).1))); clear ho2 hg2 hv2))
     go_roundw
     case rel => exact ⟨k + 1, by omega, by go_num, by rw [NX.out, vsL_add]; exact HO2, HB2⟩
     case measure => simp [intOf]; omega
    ·obtain rfl : k = 2 := by omega
     have e2 : 2 * n = n + n := by omega
     rw [e2] at HO
     go_wp2_with fail
     refine bodyPost_ret (v := u6) (by simp [results, Tryz.results87, go_sem]) rfl ⟨u6, rfl, HO.out, HB.out⟩
end Ci
end Go.Proofs.YtljmgfclhbadjaaGreatDoor
namespace Go.Proofs.YtljmgfclhbadjaaGreatDoor
open Go.RowKit
set_option linter.unusedVariables false
set_option linter.unusedSimpArgs false
open Cm (Wr Tm co bf Ls lf ins Eqm)
namespace Ci
set_option maxRecDepth 100000
set_option maxHeartbeats 16000000
theorem wholeS_any {S : Nat → Prop} {d m q b lb : Nat} {p : Pz} {x : World} {V : Nat → Value} {X : Nat → List Tm} (h : Ds S d m p q b x) (bd bl n c nu cu : Nat) (Pu : Option Addr) (hbd : x.cell? ⟨bd, 0, none⟩ = some (.pointer (some ⟨d, 0, none⟩))) (hbl : x.cell? ⟨bl, 0, none⟩ = some (.func (.func 155) #[.slice Pu nu cu] #[])) (nbd : ¬ S bd) (nbl : ¬ S bl) (hL : Zm S x lb (n + n) V X) (hn : 1 ≤ n) (hn2 : n ≤ 40) (hc : n + n ≤ c) {C : List Tm} (hu : Zo S x (.slice Pu nu cu) C) (hC : ∀ z ∈ C, hs m p.K z.1 = true) (hf : ∀ j, j < n + n → ∀ z ∈ X j, hs m p.K z.1 = true) (hl : ∀ j, j < n + n → C.length + (X j).length ≤ 1000) (hq : p.Q.length + 2 * n + 2 * n ≤ 4096) (hK : p.K + n + n ≤ 1024) :
  Calls Tryz.prog 144 #[.pointer (some ⟨d, 0, none⟩), .func (.func 156) #[] #[.pointer (some ⟨bd, 0, none⟩), .pointer (some ⟨bl, 0, none⟩)], .slice (some ⟨lb, 0, none⟩) (n + n) c] x fun e w' => WnP S d m (pSh m p C X n) x e w' := by
 obtain ⟨⟨vv, vs, R, hz, ha, hvs⟩, hln, hl3, hm⟩ := h
 have HZ := Hn hz
 have HA := Hn (And.intro ha (And.intro hvs (And.intro hln (And.intro hl3 hm))))
 have HL := Hn hL
 have HU := Hn hu
 have HF := Hn (And.intro hC (And.intro hf hl))
 have CX := Hn (And.intro hbd hbl)
 have NX := Hn (And.intro nbd nbl)
 have LX := Hn (And.intro (World.block_lt_of_cell? x _ hbd) (World.block_lt_of_cell? x _ hbl))
 have HN := Hn (And.intro hn (And.intro hn2 (And.intro hc (And.intro hq hK))))
 have C0 := Hn (dnone_any hz)
 have C1 := Hn (dcontainsZ hz lb (n + n) c V X (by omega) (fun j hj => ⟨(hL.el j hj).1, (hL.el j hj).2.1⟩) hf)
 clear hz ha hvs hln hl3 hm hL hu hC hf hl hbd hbl nbd nbl hn hn2 hc hq hK
 go_enter Tryz.func144, Tryz.ntmps144
 go_upto_region 5 with (first | (go_at_call 41; refine C0.out.mono ?_; rintro e w0 ⟨rfl, hw1⟩; have hw2 := hw1.symm; clear hw1; subst hw2; clear C0) | (go_at_call 209; refine C1.out.mono ?_; rintro e w1 ⟨rfl, hb⟩; have B1 := Hn hb; clear hb C1))
 have D1 := Hn (HZ.out.keep B1.out)
 have c0 := D1.out.c 0
 have c1 := D1.out.c 1
 have c2 := D1.out.c 2
 have c3 := D1.out.c 3
 have c4 := D1.out.c 4
 have c5 := D1.out.c 5
 have TN : Hid ((w1.alloc (.cells #[.pointer none, .nilFunc, .nilFunc, .nilFunc, .nilFunc, .int .i64 0] 111)).there w1.heap.size 0 6) := Hn (there_newM w1 [.pointer none, .nilFunc, .nilFunc, .nilFunc, .nilFunc, .int .i64 0] 111)
 go_upto_region 6 with (refine wpList_stA rfl 111 _ _ rfl w1.heap.size 0 [.pointer (some ⟨q, 0, none⟩), fn1 b, fn2 b, fn3 b, fn4 b, .int .i64 0] rfl rfl TN.out i6_dk (by simp [Value.oneCell', fn1, fn2, fn3, fn4]) rfl ?_; intro x1 hx1)
 clear c0 c1 c2 c3 c4 c5 TN
 have HX : Hid (Hd9 x1 w1.heap.size q b) := Hn (by rw [hx1]; exact hd6_set (heap_alloc_new w1 _))
 have B2 : Hid (Below x.heap.size x x1) := Hn (by rw [hx1]; exact below_tr (bl_trans B1.out (bl_alloc w1 _)) (below_grown (gb_setCells w1.heap.size _ 0 _) (Nat.le_trans B1.out.size (by simp)) (fun k hk => by rw [← Option.some.inj hk]; exact B1.out.size)))
 have DN : Hid (d ≠ w1.heap.size) := Hn (by have := D1.out.ob.lt d D1.out.pd; omega)
 obtain ⟨xs, hxs⟩ : ∃ xs, w1.heap.size = xs := ⟨_, rfl⟩
 rw [hxs] at HX DN
 simp only [hxs, fn1, fn2, fn3, fn4]
 clear hx1 hxs B1 D1
 have D2 := Hn (HZ.out.keep B2.out)
 have x0 := cell_of_row x1 xs 0 _ _ (0, 0) HX.out
 have x4 := cell_of_row x1 xs 4 _ _ (0, 0) HX.out
 refine wh6 _ d q b xs m p.K p.Q vs R _ _ _ _ _ _ _ _ _ _ _ _ _ _ _ _ _ _ _ _ _ _ _ _ _ _ _ _ _ _ _ _ _ _ _ _ _ _ _ _ _ _ _ _ _ _ _ x1 x0 x4 DN D2.out.hd (Hn (fun y hb => cloneP (D2.out.keep hb).sy D2.out.wk.q)) (Hn (fun y hb => known4_any y (D2.out.keep hb).ob)) (Hn ?_)
 intro wz q2 v' b' R' hw
 obtain ⟨S1, z1, a1, u1, g1, k1⟩ := D2.out.whole HA.out.1 HA.out.2.1 hw
 have D3 : Hid (Ds S1 d m p q2 b' wz) := Hn ⟨⟨v', vs, R', z1, a1, u1⟩, HA.out.2.2.1, HA.out.2.2.2.1, HA.out.2.2.2.2⟩
 have G3 : Hid (Gs S x wz) := Hn ((Gs.bl B2.out).trans g1 Sk.refl)
 have K3 : Hid (Sk S S1 x) := Hn (Sk.trans Sk.refl k1 B2.out.size)
 have L3 := Hn (HL.out.step G3.out K3.out)
 have CP := Hn (shuffle1_any D3.out bd bl lb n c nu cu Pu (G3.out.cell CX.out.1 NX.out.1) (G3.out.cell CX.out.2 NX.out.2) (out_sk NX.out.1 K3.out LX.out.1) (out_sk NX.out.2 K3.out LX.out.2) L3.out HN.out.1 HN.out.2.1 HN.out.2.2.1 (HU.out.step G3.out K3.out) HF.out.1 HF.out.2.1 HF.out.2.2 HN.out.2.2.2.1 HN.out.2.2.2.2)
 clear x0 x4 hw z1 a1 u1 g1 k1
 go_upto_region 8 with (go_at_call 156; refine CP.out.mono ?_; rintro e w4 ⟨rfl, S4, d4, g4, k4⟩; have D4 := Hn d4; have G4 := Hn (And.intro g4 k4); clear d4 g4 k4; clear CP)
 have c5 := D4.out.h.c 5
 go_wp2_with fail
 exact bodyPost_ret (v := .tuple #[.slice none 0 0, .int .i64 0]) (by simp [results, Tryz.results144, go_sem]) rfl ⟨S4, q2, b', .slice none 0 0, rfl, D4.out, G3.out.trans G4.out.1 K3.out, K3.out.trans G4.out.2 G3.out.size⟩
section
variable {S : Nat → Prop} {d m q b lb : Nat} {p : Pz} {x : World} {V V' : Nat → Value} {X X' : Nat → List Tm}
theorem onlyS_any (h : Ds S d m p q b x) (bd bl n c nu cu : Nat) (Pu : Option Addr) (hbd : x.cell? ⟨bd, 0, none⟩ = some (.pointer (some ⟨d, 0, none⟩))) (hbl : x.cell? ⟨bl, 0, none⟩ = some (.func (.func 155) #[.slice Pu nu cu] #[])) (nbd : ¬ S bd) (nbl : ¬ S bl) (hL : Zm S x lb (n + n) V X) (hn : 1 ≤ n) (hn2 : n ≤ 40) (hc : n + n ≤ c) {C : List Tm} (hu : Zo S x (.slice Pu nu cu) C) (hC : ∀ z ∈ C, hs m p.K z.1 = true) (hf : ∀ j, j < n + n → ∀ z ∈ X j, hs m p.K z.1 = true) (hl : ∀ j, j < n + n → C.length + (X j).length ≤ 1000) (hq : p.Q.length + 2 * n + 2 * n ≤ 4096) (hK : p.K + n + n ≤ 1024) :
  Calls Tryz.prog 83 #[.pointer (some ⟨d, 0, none⟩), .func (.func 156) #[] #[.pointer (some ⟨bd, 0, none⟩), .pointer (some ⟨bl, 0, none⟩)], .slice (some ⟨lb, 0, none⟩) (n + n) c] x fun e w' => OnP S d m (pSh m p C X n) x e w' := by
 have C0 := Hn (wholeS_any h bd bl n c nu cu Pu hbd hbl nbd nbl hL hn hn2 hc hu hC hf hl hq hK)
 clear h hL hf hbd hbl nbd nbl hu hC hl
 go_enter Tryz.func83, Tryz.ntmps83
 go_wp2_with (go_at_call 144; refine C0.out.mono ?_; rintro e w1 ⟨S1, q1, b1, v1, rfl, d1, g1, k1⟩; have FE : Hid (OnP S d m (pSh m p C X n) x (.returned (.int .i64 0)) w1) := Hn ⟨S1, q1, b1, rfl, d1, g1, k1⟩; clear d1 g1 k1 C0)
 exact bodyPost_ret (v := .int .i64 0) (by simp [results, Tryz.results83, go_sem]) rfl FE.out
theorem cnX_len (z : E4) : (cnX z).length ≤ 1 := lf_len_le _
theorem hs_cn {m K : Nat} (k : E4) : ∀ z ∈ cnX k, hs m K z.1 = true := fun z hz => by
 obtain ⟨y, hy, e⟩ := lf_mem hz
 rw [e]
 simp only [glM, List.range_one, List.map_cons, List.map_nil, List.mem_singleton] at hy
 subst hy
 rfl
end
end Ci
end Go.Proofs.YtljmgfclhbadjaaGreatDoor
namespace Go.Proofs.YtljmgfclhbadjaaGreatDoor
open Go.RowKit
set_option linter.unusedVariables false
set_option linter.unusedSimpArgs false
open Cm (Wr Tm co bf Ls lf ins Eqm)
namespace Ci
set_option maxRecDepth 100000
set_option maxHeartbeats 16000000
section
variable {S : Nat → Prop} {d m q b l1 l2 n : Nat} {p : Pz} {x : World} {V V' : Nat → Value} {X X' : Nat → List Tm}
def bh {α : Type} (n : Nat) (V V' : Nat → α) : Nat → α := fun j => if j < n then V j else V' (j - n)
theorem bh_l {α : Type} {n : Nat} {V V' : Nat → α} {j : Nat} (h : j < n) : bh n V V' j = V j := if_pos h
theorem bh_r {α : Type} {n : Nat} {V V' : Nat → α} (j : Nat) : bh n V V' (n + j) = V' j := by unfold bh; rw [if_neg (by omega), Nat.add_sub_cancel_left]
theorem Zm.one1 (h : Zm S x l1 n V X) {j : Nat} (hj : j < n) : (V j).oneCell' = true := by
 obtain ⟨P, c, e, -⟩ := (h.el j hj).2.1.sh
 rw [e]
 simp [Value.oneCell']
theorem Zm.cat {y z : World} {g c : Nat} (h1 : Zm S x l1 n V X) (h2 : Zm S x l2 n V' X') (hS : ∀ i, S i → i < y.heap.size) (hb : Below x.heap.size x z) (ho : z.ownsRow y.heap.size 50 1 (.slice (some ⟨g, 0, none⟩) (n + n) c) (n + n) (vsL (bh n V V') (n + n))) (hn : 0 < n) : Zm S z g (n + n) (bh n V V') (bh n X X') := by
 have hg := ho.lt g rfl
 refine ⟨fun e => by have := hS g e; omega, hg.2, fun j hj => ⟨by have h9 := ho.cells (g := g) rfl j _ (vsL_get hj); rwa [Addr.add_mid, Nat.zero_add] at h9, ?_⟩⟩
 by_cases e : j < n
 ·rw [bh_l e, bh_l e]
  exact (h1.el j e).2.keep hb
 ·obtain ⟨k, rfl⟩ : ∃ k, j = n + k := ⟨j - n, by omega⟩
  rw [bh_r, bh_r]
  exact (h2.el k (by omega)).2.keep hb
theorem own_shG {w : World} {b0 k s : Nat} {T : TypeId} {v : Value} {xs : List Value} (h : w.ownsRow b0 T s v k xs) (hk : 0 < k) : ∃ g c, v = .slice (some ⟨g, 0, none⟩) k c ∧ k ≤ c := by
 rcases h.2 with h2 | ⟨g, c, cur, e1, _, _, e4, _⟩
 ·have := h2.2
  omega
 ·exact ⟨g, c, e1, e4⟩
theorem dnoneD (h : Ds S d m p q b x) : Calls Tryz.prog 41 #[.pointer (some ⟨d, 0, none⟩)] x fun e w' => e = .returned (.bool false) ∧ w' = x := by
 obtain ⟨⟨vv, vs, R, hz, ha, hvs⟩, hln, hl3, hm⟩ := h
 exact dnone_any hz
theorem Shuffle_desk (h : Ds S d m p q b x) (c1 c2 : Nat) (h1 : Zm S x l1 n V X) (h2 : Zm S x l2 n V' X') (hn : 1 ≤ n) (hn2 : n ≤ 40) (r : E4) (hr : r.ok) (hf1 : ∀ j, j < n → ∀ z ∈ X j, hs m p.K z.1 = true) (hf2 : ∀ j, j < n → ∀ z ∈ X' j, hs m p.K z.1 = true) (hl1 : ∀ j, j < n → (X j).length ≤ 100) (hl2 : ∀ j, j < n → (X' j).length ≤ 100) (hq : p.Q.length + 2 * n + 2 * n ≤ 4096) (hK : p.K + n + n ≤ 1024) :
  Calls Tryz.prog 37 #[.pointer (some ⟨d, 0, none⟩), .slice (some ⟨l1, 0, none⟩) n c1, .slice (some ⟨l2, 0, none⟩) n c2, .agg #[.int .u64 r.x0, .int .u64 r.x1, .int .u64 r.x2, .int .u64 r.x3]] x fun e w' => OnP S d m (pSh m p (cnX (lst (-r.n))) (bh n X X') n) x e w' := by
 have HD := Hn h
 have H12 := Hn (And.intro h1 h2)
 have HN := Hn (And.intro hn (And.intro hn2 (And.intro hq hK)))
 have HF := Hn (And.intro hf1 (And.intro hf2 (And.intro hl1 hl2)))
 have C0 := Hn (fun y (hy : Below x.heap.size x y) => dnoneD (h.keep hy))
 have C1 := Hn (fun y (hy : Below x.heap.size x y) => shuffle_any d r hr y (h.keep hy).tb)
 have n0 : ¬ (n : Int) = 0 := by omega
 clear h h1 h2 hn hn2 hf1 hf2 hl1 hl2 hq hK
 go_enter Tryz.func37, Tryz.ntmps37
 have BB := Hn (bl_alloc x (.cells #[.int .u64 r.x0, .int .u64 r.x1, .int .u64 r.x2, .int .u64 r.x3] 53))
 have CN := Hn (C0.out _ BB.out)
 go_upto_region 7 with (go_at_call 41; refine CN.out.mono ?_; rintro e w0 ⟨rfl, hw1⟩; have hw2 := hw1.symm; clear hw1; subst hw2; clear CN)
 have c0 : (x.alloc (.cells #[.int .u64 r.x0, .int .u64 r.x1, .int .u64 r.x2, .int .u64 r.x3] 53)).cell? ⟨x.heap.size, 0, none⟩ = some (.int .u64 r.x0) := by go_simp
 have c1' : (x.alloc (.cells #[.int .u64 r.x0, .int .u64 r.x1, .int .u64 r.x2, .int .u64 r.x3] 53)).cell? ⟨x.heap.size, 1, none⟩ = some (.int .u64 r.x1) := by go_simp
 have c2' : (x.alloc (.cells #[.int .u64 r.x0, .int .u64 r.x1, .int .u64 r.x2, .int .u64 r.x3] 53)).cell? ⟨x.heap.size, 2, none⟩ = some (.int .u64 r.x2) := by go_simp
 have c3 : (x.alloc (.cells #[.int .u64 r.x0, .int .u64 r.x1, .int .u64 r.x2, .int .u64 r.x3] 53)).cell? ⟨x.heap.size, 3, none⟩ = some (.int .u64 r.x3) := by go_simp
 have CS := Hn (C1.out _ BB.out)
 generalize (x.alloc (.cells #[.int .u64 r.x0, .int .u64 r.x1, .int .u64 r.x2, .int .u64 r.x3] 53)) = w0 at *
 clear C0 C1
 have UO : Hid (∀ j, j < n + n → (bh n V V' j).oneCell' = true) := Hn (fun j hj => by
  by_cases e : j < n
  ·rw [bh_l e]; exact H12.out.1.one1 e
  ·obtain ⟨k, rfl⟩ : ∃ k, j = n + k := ⟨j - n, by omega⟩
   rw [bh_r]; exact H12.out.2.one1 (show k < n by omega))
 have CO := Hn (fun (y y1 w2 : World) (hb1 : Below x.heap.size x y) (hb2 : Below y.heap.size y y1) (hb3 : Below y1.heap.size y1 w2) (bd bl g c c9 : Nat) (P : Option Addr) (k1 : x.heap.size ≤ bd) (k2 : x.heap.size ≤ bl) (k3 : y.cell? ⟨bd, 0, none⟩ = some (.pointer (some ⟨d, 0, none⟩))) (k4 : y.cell? ⟨bl, 0, none⟩ = some (.func (.func 155) #[.slice P (cnX (lst (-r.n))).length c] #[])) (hu : Zo S y (.slice P (cnX (lst (-r.n))).length c) (cnX (lst (-r.n)))) (ho : w2.ownsRow y1.heap.size 50 1 (.slice (some ⟨g, 0, none⟩) (n + n) c9) (n + n) (vsL (bh n V V') (n + n))) (hc9 : n + n ≤ c9) => by
  have bx := bl_trans (bl_trans hb1 hb2) hb3
  have by2 := bl_trans hb2 hb3
  have o1 := onlyS_any (HD.out.keep bx) bd bl n c9 (cnX (lst (-r.n))).length c P (cell_keep k3 by2) (cell_keep k4 by2) (fun e => by have := HD.out.lt _ e; omega) (fun e => by have := HD.out.lt _ e; omega) (H12.out.1.cat H12.out.2 (fun i hi => by have := HD.out.lt _ hi; have := hb1.size; have := hb2.size; omega) bx ho HN.out.1) HN.out.1 HN.out.2.1 hc9 (hu.keep by2) (hs_cn _) (fun j hj => by
   by_cases e : j < n
   ·rw [bh_l e]; exact HF.out.1 j e
   ·obtain ⟨k, rfl⟩ : ∃ k, j = n + k := ⟨j - n, by omega⟩
    rw [bh_r]; exact HF.out.2.1 k (by omega)) (fun j hj => by
   have cl := cnX_len (lst (-r.n))
   by_cases e : j < n
   ·rw [bh_l e]; have := HF.out.2.2.1 j e; omega
   ·obtain ⟨k, rfl⟩ : ∃ k, j = n + k := ⟨j - n, by omega⟩
    rw [bh_r]; have := HF.out.2.2.2 k (by omega); omega) HN.out.2.2.1 HN.out.2.2.2
  exact (show Calls Tryz.prog 83 #[.pointer (some ⟨d, 0, none⟩), .func (.func 156) #[] #[.pointer (some ⟨bd, 0, none⟩), .pointer (some ⟨bl, 0, none⟩)], .slice (some ⟨g, 0, none⟩) (n + n) c9] w2 (fun e w' => OnP S d m (pSh m p (cnX (lst (-r.n))) (bh n X X') n) x e w') from o1.mono (fun e w' k => by
   obtain ⟨S', q', b', e1, e2, e3, e4⟩ := k
   exact ⟨S', q', b', e1, e2, (Gs.bl bx).trans e3 Sk.refl, Sk.trans Sk.refl e4 bx.size⟩)))
 have CC : Hid (∀ y, Below x.heap.size x y → Calls Tryz.prog 87 #[.slice (some ⟨y.heap.size, 0, none⟩) 2 2] (y.alloc (.cells #[.slice (some ⟨l1, 0, none⟩) n c1, .slice (some ⟨l2, 0, none⟩) n c2] 48)) fun e w' => ∃ v, e = .returned v ∧ w'.ownsRow (y.alloc (.cells #[.slice (some ⟨l1, 0, none⟩) n c1, .slice (some ⟨l2, 0, none⟩) n c2] 48)).heap.size 50 1 v (n + n) (vsL (bh n V V') (n + n)) ∧ Below (y.alloc (.cells #[.slice (some ⟨l1, 0, none⟩) n c1, .slice (some ⟨l2, 0, none⟩) n c2] 48)).heap.size (y.alloc (.cells #[.slice (some ⟨l1, 0, none⟩) n c1, .slice (some ⟨l2, 0, none⟩) n c2] 48)) w') := Hn (fun y hy => by
  have bl := bl_trans hy (bl_alloc y (.cells #[.slice (some ⟨l1, 0, none⟩) n c1, .slice (some ⟨l2, 0, none⟩) n c2] 48))
  refine concatL_any n y.heap.size (fun k => if k = 0 then l1 else l2) (fun k => if k = 0 then c1 else c2) (bh n V V') _ HN.out.1 (by have := HN.out.2.1; omega) (fun k hk => ?_) (fun k hk j hj => ?_) UO.out
  ·have hk2 : k = 0 ∨ k = 1 := by omega
   rcases hk2 with rfl | rfl
   ·exact cell_of_row _ _ 0 _ _ (0, 0) (heap_alloc_new y _)
   ·exact cell_of_row _ _ 1 _ _ (0, 0) (heap_alloc_new y _)
  ·have hk2 : k = 0 ∨ k = 1 := by omega
   rcases hk2 with rfl | rfl
   ·rw [Nat.zero_mul, Nat.zero_add, bh_l hj]
    exact cell_keep (H12.out.1.el j hj).1 bl
   ·rw [Nat.one_mul, bh_r]
    exact cell_keep (H12.out.2.el j hj).1 bl)
 go_wp2_with (first | (go_at_call 86; refine CS.out.mono ?_; rintro e w1 ⟨bd, bl, P, c, rfl, g1, g2, g3, g4, hl⟩; have SH := Hn (And.intro g1 (And.intro g2 (And.intro g3 (And.intro g4 hl)))); have B1 := Hn (bl_trans BB.out hl.2.1); clear g1 g2 g3 g4 hl CS) | (go_at_call 87; refine (CC.out w1 B1.out).mono ?_; rintro e w2 ⟨v, rfl, ho, hb⟩; obtain ⟨g, c9, rfl, hc9⟩ := own_shG ho (by have := HN.out.1; omega); have HO := Hn (And.intro ho (And.intro hb hc9)); clear ho hb hc9 CC) | (go_at_call 83; refine (CO.out w1 _ w2 B1.out (bl_alloc w1 _) HO.out.2.1 bd bl g c c9 P (Nat.le_trans BB.out.size SH.out.1) (Nat.le_trans BB.out.size SH.out.2.1) SH.out.2.2.1 SH.out.2.2.2.1 (Zo.new SH.out.2.2.2.2 (fun i hi => Nat.lt_of_lt_of_le (HD.out.lt i hi) BB.out.size) (by have := cnX_len (lst (-r.n)); omega)) HO.out.1 HO.out.2.2).mono ?_; rintro e w3 ⟨S3, q3, b3, rfl, d3, g3, s3⟩; have FE : Hid (OnP S d m (pSh m p (cnX (lst (-r.n))) (bh n X X') n) x (.returned (.int .i64 0)) w3) := Hn ⟨S3, q3, b3, rfl, d3, g3, s3⟩; clear d3 g3 s3 CO))
 exact bodyPost_ret (v := .int .i64 0) (by simp [results, Tryz.results37, go_sem]) rfl FE.out
end
end Ci
end Go.Proofs.YtljmgfclhbadjaaGreatDoor
