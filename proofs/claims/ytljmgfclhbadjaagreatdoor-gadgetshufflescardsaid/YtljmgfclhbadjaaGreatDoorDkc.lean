import Derived.Test.YtljmgfclhbadjaaGreatDoorTk
import Derived.Test.YtljmgfclhbadjaaGreatDoorDaz
namespace Go.Proofs.YtljmgfclhbadjaaGreatDoor
set_option maxRecDepth 100000
set_option maxHeartbeats 16000000
open Go.RowKit
set_option linter.unusedVariables false
set_option linter.unusedSimpArgs false
open Cm (Wr Tm co bf Ls lf ins Eqm)
namespace Ci
theorem there_gbO {x y : World} {b o m : Nat} {row : Option Nat} (h : x.there b o m) (hg : x.grownBy y row) (hne : some b ≠ row) : y.there b o m := fun j hj => by
 obtain ⟨h1, h2⟩ := h j hj
 obtain ⟨u, hu⟩ := Option.isSome_iff_exists.1 h1
 have hl := World.block_lt_of_cell? x _ hu
 refine ⟨by rw [hg.cell hu hne]; rfl, ?_⟩
 unfold World.frozen? at h2 ⊢
 rw [hg.block b hl hne]
 exact h2
theorem Ro.keep {x y : World} {s : Sl} (h : Ro x s) (hb : Below x.heap.size x y) : Ro y s := ⟨own_keepT h.own hb, h.ok, h.n⟩
def ApR (W wz : World) (b j : Nat) (s : Sl) (z : E4) (p : Option Addr) (c : Nat) : Prop := ∃ w1 w2, Below W.heap.size W w1 ∧ w1.grownBy w2 s.v.ownBlock ∧ w2.ownsRow 0 53 4 (.slice p (s.n + 1) c) (s.n + 1) (s4s (s.n + 1) (snc s.n z s.g)) ∧ (∀ k, (Value.slice p (s.n + 1) c).ownBlock = some k → s.v.ownBlock = some k ∨ W.heap.size ≤ k) ∧ wz = w2.setCells b j [.slice p (s.n + 1) c]
def ag1o_0 : Oper := oO 6 (Op.move (Operand.tmp 0)) 233 "numbers.go:31" #[]
def ag1o_1 : Oper := oO 7 (Op.move (Operand.tmp 0)) 233 "numbers.go:31" #[]
def ag1o_2 : Oper := oO 8 (Op.nilCheck (Operand.tmp 7)) 0 "numbers.go:31" #[DD 1]
def ag1o_3 : Oper := oO 9 (Op.fieldAddr 43 (Operand.tmp 8) 0) 0 "numbers.go:31" #[DD 2]
def ag1o_4 : Oper := oO 10 (Op.load 41 (Operand.tmp 9)) 41 "numbers.go:31" #[DD 3]
def ag1o_5 : Oper := oO 11 (Op.load 53 (Operand.tmp 4)) 53 "numbers.go:31" #[]
def ag1o_6 : Oper := oO 12 (Op.buildSlice 41 1 #[(0, Operand.tmp 11)]) 41 "numbers.go:31" #[DD 5]
def ag1o_7 : Oper := oO 13 (Op.call { callee := Callee.builtin Builtin.append, args := #[Operand.tmp 10, Operand.tmp 12], argTypes := #[41, 41] }) 41 "numbers.go:31" #[DD 4, DD 6]
def ag1o_8 : Oper := oO 14 (Op.nilCheck (Operand.tmp 6)) 0 "numbers.go:31" #[DD 0, PH 0, PH 1, PH 2, PH 3, PH 4, PH 5, PH 6, PH 7]
def ag1o_9 : Oper := oO 15 (Op.fieldAddr 43 (Operand.tmp 14) 0) 0 "numbers.go:31" #[DD 8, PH 0, PH 1, PH 2, PH 3, PH 4, PH 5, PH 6, PH 7]
def ag1o_10 : Oper := oN (Op.store 41 (Operand.tmp 15) (Operand.tmp 13)) "numbers.go:31" #[DD 9, DD 7, CH 7, PH 0, PH 1, PH 2, PH 3, PH 4, PH 5, PH 6, PH 7]
def ag1o : Array Oper := #[ag1o_0, ag1o_1, ag1o_2, ag1o_3, ag1o_4, ag1o_5, ag1o_6, ag1o_7, ag1o_8, ag1o_9, ag1o_10]
theorem ag1 (Q : Exit → Act → World → Prop) (b xa : Nat) (z : E4) (s : Sl) (u1 u2 u3 u5 u6 u7 u8 u9 aa ab ad ae af ag ah ai aj ak al am an ao ap aq au av aw ax ay az aA aB aC aD aE aF : Value) (W : World)
  (q00 : W.cell? ⟨xa, 0, none⟩ = some (.int .u64 z.x0)) (q01 : W.cell? ⟨xa, 1, none⟩ = some (.int .u64 z.x1)) (q02 : W.cell? ⟨xa, 2, none⟩ = some (.int .u64 z.x2)) (q03 : W.cell? ⟨xa, 3, none⟩ = some (.int .u64 z.x3)) (cb : W.cell? ⟨b, 0, none⟩ = some (.slice s.p s.n s.c)) (RO : Hid (Ro W s)) (th : W.there b 0 1) (nb : Hid (s.v.ownBlock ≠ some b)) (n0 : Hid (s.v.ownBlock ≠ some xa)) (m0 : Hid (xa ≠ b))
  (HQ : Hid (∀ (wz : World) (tb : Nat) (p' : Option Addr) (c' : Nat), ApR W wz b 0 s z p' c' → Q .normal ⟨#[.pointer (some ⟨b, 0, none⟩), u1, u2, u3, .pointer (some ⟨xa, 0, none⟩), u5, .pointer (some ⟨b, 0, none⟩), .pointer (some ⟨b, 0, none⟩), .pointer (some ⟨b, 0, none⟩), .pointer (some ⟨b, 0, none⟩), .slice s.p s.n s.c, .agg #[.int .u64 z.x0, .int .u64 z.x1, .int .u64 z.x2, .int .u64 z.x3], .slice (some ⟨tb, 0, none⟩) 1 1, (.slice p' (s.n + 1) c'), .pointer (some ⟨b, 0, none⟩), .pointer (some ⟨b, 0, none⟩), ah, ai, aj, ak, al, am, an, ao, ap, aq, au, av, aw, ax, ay, az, aA, aB, aC, aD, aE, aF], []⟩ wz)) : (Code.region 1 ag1o true).wp Tryz.prog Q ⟨#[.pointer (some ⟨b, 0, none⟩), u1, u2, u3, .pointer (some ⟨xa, 0, none⟩), u5, u6, u7, u8, u9, aa, ab, ad, ae, af, ag, ah, ai, aj, ak, al, am, an, ao, ap, aq, au, av, aw, ax, ay, az, aA, aB, aC, aD, aE, aF], []⟩ W := by
 have BB := Hn (bl_drew W)
 have CB := Hn (cell_keep cb (bl_drew W))
 clear cb
 unfold ag1o
 refine wp_region_noPanic ?_
 refine wp_region_held_drew (S := fun x => x.cell? ⟨xa, 0, none⟩ = some (.int .u64 z.x0) ∧ x.cell? ⟨xa, 1, none⟩ = some (.int .u64 z.x1) ∧ x.cell? ⟨xa, 2, none⟩ = some (.int .u64 z.x2) ∧ x.cell? ⟨xa, 3, none⟩ = some (.int .u64 z.x3)) (by kernel_rfl) (⟨cell_keep q00 (bl_drew W), cell_keep q01 (bl_drew W), cell_keep q02 (bl_drew W), cell_keep q03 (bl_drew W)⟩) (fun hH0 => ?_)
 refine tj 0 ag1o_0 (.pointer (some ⟨b, 0, none⟩)) hH0 (fun w0 hSw => ?_) ?_
 ·(unfold ag1o_0 oO; clear hSw; go_simp)
 simp only [ag1o_0, oO, Act.put, sA, sB, sC]
 refine tj 1 ag1o_1 (.pointer (some ⟨b, 0, none⟩)) hH0 (fun w0 hSw => ?_) ?_
 ·(unfold ag1o_1 oO; clear hSw; go_simp)
 simp only [ag1o_1, oO, Act.put, sA, sB, sC]
 refine tj 5 ag1o_5 (.agg #[.int .u64 z.x0, .int .u64 z.x1, .int .u64 z.x2, .int .u64 z.x3]) hH0 (fun w0 hSw => ?_) ?_
 ·(unfold ag1o_5 oO; have hS : w0.cell? ⟨xa, 0, none⟩ = some (.int .u64 z.x0) ∧ w0.cell? ⟨xa, 1, none⟩ = some (.int .u64 z.x1) ∧ w0.cell? ⟨xa, 2, none⟩ = some (.int .u64 z.x2) ∧ w0.cell? ⟨xa, 3, none⟩ = some (.int .u64 z.x3) := hSw; have a0 := hS.1; have a1 := hS.2.1; have a2 := hS.2.2.1; have a3 := hS.2.2.2; clear hS hSw; go_simp)
 simp only [ag1o_5, oO, Act.put, sA, sB, sC]
 refine tj 2 ag1o_2 (.pointer (some ⟨b, 0, none⟩)) hH0 (fun w0 hSw => ?_) ?_
 ·(unfold ag1o_2 oO; clear hSw; go_simp)
 simp only [ag1o_2, oO, Act.put, sA, sB, sC]
 refine tj 3 ag1o_3 (.pointer (some ⟨b, 0, none⟩)) hH0 (fun w0 hSw => ?_) ?_
 ·(unfold ag1o_3 oO; clear hSw; go_simp)
 simp only [ag1o_3, oO, Act.put, sA, sB, sC]
 refine ar [4, 6] ?_
 refine ac ag1o_4 (fun K hK => ?_) (ac ag1o_6 (fun K hK => ?_) AllReadyH.nil)
 ·unfold ag1o_4 oO
  have HH := Hn hH0
  clear hH0
  refine wp_ldSl _ rfl b 0 s.p s.n s.c rfl CB.out ?_
  simp only [Act.put, sA, sB, sC]
  have SN := HH
  clear HH
  refine hK.out _ _ SN.out (fun hH1 => ?_)
  clear hK K SN
  refine ar [6] ?_
  refine ac ag1o_6 (fun K hK => ?_) AllReadyH.nil
  unfold ag1o_6 oO
  have HH := Hn hH1
  clear hH1
  refine wp_bs1 _ rfl z rfl (fun tb wn2 hbb hrg => ?_)
  have SN := Hn (And.intro (cell_keep HH.out.1 hbb) (And.intro (cell_keep HH.out.2.1 hbb) (And.intro (cell_keep HH.out.2.2.1 hbb) (cell_keep HH.out.2.2.2 hbb))))
  replace BB := Hn (bl_trans BB.out hbb)
  have RG := Hn (hrg)
  clear HH hbb hrg
  simp only [Act.put, sA, sB, sC]
  refine hK.out _ _ SN.out (fun hH2 => ?_)
  clear hK K SN
  refine ar [7] ?_
  refine ac ag1o_7 (fun K hK => ?_) AllReadyH.nil
  unfold ag1o_7 oO
  have HH := Hn hH2
  clear hH2
  refine wp_apS s (RO.out.keep BB.out) _ _ rfl rfl tb rfl z RG.out (fun p' c' wn3 ho hg hk => ?_)
  have SN := Hn (And.intro (hg.cell HH.out.1 (fun e9 => n0.out e9.symm)) (And.intro (hg.cell HH.out.2.1 (fun e9 => n0.out e9.symm)) (And.intro (hg.cell HH.out.2.2.1 (fun e9 => n0.out e9.symm)) (hg.cell HH.out.2.2.2 (fun e9 => n0.out e9.symm)))))
  have W1 := Hn (hg)
  have OW := Hn (ho)
  have HK := Hn ((fun k hk1 => (hk k hk1).imp id (fun h9 => Nat.le_trans BB.out.size h9)))
  clear HH ho hg hk RG
  simp only [Act.put, sA, sB, sC]
  refine hK.out _ _ SN.out (fun hH3 => ?_)
  clear hK K SN
  refine tj 8 ag1o_8 (.pointer (some ⟨b, 0, none⟩)) hH3 (fun w0 hSw => ?_) ?_
  ·(unfold ag1o_8 oO; clear hSw; go_simp)
  simp only [ag1o_8, oO, Act.put, sA, sB, sC]
  refine tj 9 ag1o_9 (.pointer (some ⟨b, 0, none⟩)) hH3 (fun w0 hSw => ?_) ?_
  ·(unfold ag1o_9 oO; clear hSw; go_simp)
  simp only [ag1o_9, oO, Act.put, sA, sB, sC]
  refine ar [10] ?_
  refine ac ag1o_10 (fun K hK => ?_) AllReadyH.nil
  unfold ag1o_10 oN
  have HH := Hn hH3
  clear hH3
  refine wp_storeV 41 _ _ rfl b 0 p' (s.n + 1) c' (by rfl) (by rfl) (there_gbO (there_bl th BB.out) W1.out (fun e9 => nb.out e9.symm)) i1_S rfl (fun wn4 hw => ?_)
  have SN := Hn (And.intro ((gb_setCells b [.slice p' (s.n + 1) c'] 0 _).cell HH.out.1 (fun e9 => m0.out (Option.some.inj e9))) (And.intro ((gb_setCells b [.slice p' (s.n + 1) c'] 0 _).cell HH.out.2.1 (fun e9 => m0.out (Option.some.inj e9))) (And.intro ((gb_setCells b [.slice p' (s.n + 1) c'] 0 _).cell HH.out.2.2.1 (fun e9 => m0.out (Option.some.inj e9))) ((gb_setCells b [.slice p' (s.n + 1) c'] 0 _).cell HH.out.2.2.2 (fun e9 => m0.out (Option.some.inj e9))))))
  have FE := Hn ((⟨_, _, BB.out, W1.out, OW.out, HK.out, hw⟩ : ApR W _ b 0 s z p' c'))
  rw [← hw] at SN
  clear HH hw
  refine hK.out _ _ SN.out (fun hH4 => ?_)
  clear hK K SN
  have HH := Hn hH4
  have FQ := Hn (HQ.out _ tb p' c' FE.out)
  refine wpAnyH_done (by kernel_rfl) ?_ _
  refine NoPanic.normal ?_
  exact FQ.out
 ·unfold ag1o_6 oO
  have HH := Hn hH0
  clear hH0
  refine wp_bs1 _ rfl z rfl (fun tb wn1 hbb hrg => ?_)
  have SN := Hn (And.intro (cell_keep HH.out.1 hbb) (And.intro (cell_keep HH.out.2.1 hbb) (And.intro (cell_keep HH.out.2.2.1 hbb) (cell_keep HH.out.2.2.2 hbb))))
  replace BB := Hn (bl_trans BB.out hbb)
  have RG := Hn (hrg)
  replace CB := Hn (cell_keep CB.out hbb)
  clear HH hbb hrg
  simp only [Act.put, sA, sB, sC]
  refine hK.out _ _ SN.out (fun hH1 => ?_)
  clear hK K SN
  refine ar [4] ?_
  refine ac ag1o_4 (fun K hK => ?_) AllReadyH.nil
  unfold ag1o_4 oO
  have HH := Hn hH1
  clear hH1
  refine wp_ldSl _ rfl b 0 s.p s.n s.c rfl CB.out ?_
  simp only [Act.put, sA, sB, sC]
  have SN := HH
  clear HH
  refine hK.out _ _ SN.out (fun hH2 => ?_)
  clear hK K SN
  refine ar [7] ?_
  refine ac ag1o_7 (fun K hK => ?_) AllReadyH.nil
  unfold ag1o_7 oO
  have HH := Hn hH2
  clear hH2
  refine wp_apS s (RO.out.keep BB.out) _ _ rfl rfl tb rfl z RG.out (fun p' c' wn3 ho hg hk => ?_)
  have SN := Hn (And.intro (hg.cell HH.out.1 (fun e9 => n0.out e9.symm)) (And.intro (hg.cell HH.out.2.1 (fun e9 => n0.out e9.symm)) (And.intro (hg.cell HH.out.2.2.1 (fun e9 => n0.out e9.symm)) (hg.cell HH.out.2.2.2 (fun e9 => n0.out e9.symm)))))
  have W1 := Hn (hg)
  have OW := Hn (ho)
  have HK := Hn ((fun k hk1 => (hk k hk1).imp id (fun h9 => Nat.le_trans BB.out.size h9)))
  clear HH ho hg hk RG
  simp only [Act.put, sA, sB, sC]
  refine hK.out _ _ SN.out (fun hH3 => ?_)
  clear hK K SN
  refine tj 8 ag1o_8 (.pointer (some ⟨b, 0, none⟩)) hH3 (fun w0 hSw => ?_) ?_
  ·(unfold ag1o_8 oO; clear hSw; go_simp)
  simp only [ag1o_8, oO, Act.put, sA, sB, sC]
  refine tj 9 ag1o_9 (.pointer (some ⟨b, 0, none⟩)) hH3 (fun w0 hSw => ?_) ?_
  ·(unfold ag1o_9 oO; clear hSw; go_simp)
  simp only [ag1o_9, oO, Act.put, sA, sB, sC]
  refine ar [10] ?_
  refine ac ag1o_10 (fun K hK => ?_) AllReadyH.nil
  unfold ag1o_10 oN
  have HH := Hn hH3
  clear hH3
  refine wp_storeV 41 _ _ rfl b 0 p' (s.n + 1) c' (by rfl) (by rfl) (there_gbO (there_bl th BB.out) W1.out (fun e9 => nb.out e9.symm)) i1_S rfl (fun wn4 hw => ?_)
  have SN := Hn (And.intro ((gb_setCells b [.slice p' (s.n + 1) c'] 0 _).cell HH.out.1 (fun e9 => m0.out (Option.some.inj e9))) (And.intro ((gb_setCells b [.slice p' (s.n + 1) c'] 0 _).cell HH.out.2.1 (fun e9 => m0.out (Option.some.inj e9))) (And.intro ((gb_setCells b [.slice p' (s.n + 1) c'] 0 _).cell HH.out.2.2.1 (fun e9 => m0.out (Option.some.inj e9))) ((gb_setCells b [.slice p' (s.n + 1) c'] 0 _).cell HH.out.2.2.2 (fun e9 => m0.out (Option.some.inj e9))))))
  have FE := Hn ((⟨_, _, BB.out, W1.out, OW.out, HK.out, hw⟩ : ApR W _ b 0 s z p' c'))
  rw [← hw] at SN
  clear HH hw
  refine hK.out _ _ SN.out (fun hH4 => ?_)
  clear hK K SN
  have HH := Hn hH4
  have FQ := Hn (HQ.out _ tb p' c' FE.out)
  refine wpAnyH_done (by kernel_rfl) ?_ _
  refine NoPanic.normal ?_
  exact FQ.out
def ag2o_0 : Oper := oO 16 (Op.move (Operand.tmp 0)) 233 "numbers.go:32" #[]
def ag2o_1 : Oper := oO 17 (Op.move (Operand.tmp 0)) 233 "numbers.go:32" #[]
def ag2o_2 : Oper := oO 18 (Op.nilCheck (Operand.tmp 17)) 0 "numbers.go:32" #[DD 1]
def ag2o_3 : Oper := oO 19 (Op.fieldAddr 43 (Operand.tmp 18) 1) 0 "numbers.go:32" #[DD 2]
def ag2o_4 : Oper := oO 20 (Op.load 41 (Operand.tmp 19)) 41 "numbers.go:32" #[DD 3]
def ag2o_5 : Oper := oO 21 (Op.load 53 (Operand.tmp 5)) 53 "numbers.go:32" #[]
def ag2o_6 : Oper := oO 22 (Op.buildSlice 41 1 #[(0, Operand.tmp 21)]) 41 "numbers.go:32" #[DD 5]
def ag2o_7 : Oper := oO 23 (Op.call { callee := Callee.builtin Builtin.append, args := #[Operand.tmp 20, Operand.tmp 22], argTypes := #[41, 41] }) 41 "numbers.go:32" #[DD 4, DD 6]
def ag2o_8 : Oper := oO 24 (Op.nilCheck (Operand.tmp 16)) 0 "numbers.go:32" #[DD 0, PH 0, PH 1, PH 2, PH 3, PH 4, PH 5, PH 6, PH 7]
def ag2o_9 : Oper := oO 25 (Op.fieldAddr 43 (Operand.tmp 24) 1) 0 "numbers.go:32" #[DD 8, PH 0, PH 1, PH 2, PH 3, PH 4, PH 5, PH 6, PH 7]
def ag2o_10 : Oper := oN (Op.store 41 (Operand.tmp 25) (Operand.tmp 23)) "numbers.go:32" #[DD 9, DD 7, CH 7, PH 0, PH 1, PH 2, PH 3, PH 4, PH 5, PH 6, PH 7]
def ag2o : Array Oper := #[ag2o_0, ag2o_1, ag2o_2, ag2o_3, ag2o_4, ag2o_5, ag2o_6, ag2o_7, ag2o_8, ag2o_9, ag2o_10]
theorem ag2 (Q : Exit → Act → World → Prop) (b xa : Nat) (z : E4) (s : Sl) (u1 u2 u3 u4 u6 u7 u8 u9 aa ab ad ae af ag ah ai aj ak al am an ao ap aq au av aw ax ay az aA aB aC aD aE aF : Value) (W : World)
  (q00 : W.cell? ⟨xa, 0, none⟩ = some (.int .u64 z.x0)) (q01 : W.cell? ⟨xa, 1, none⟩ = some (.int .u64 z.x1)) (q02 : W.cell? ⟨xa, 2, none⟩ = some (.int .u64 z.x2)) (q03 : W.cell? ⟨xa, 3, none⟩ = some (.int .u64 z.x3)) (cb : W.cell? ⟨b, 1, none⟩ = some (.slice s.p s.n s.c)) (RO : Hid (Ro W s)) (th : W.there b 1 1) (nb : Hid (s.v.ownBlock ≠ some b)) (n0 : Hid (s.v.ownBlock ≠ some xa)) (m0 : Hid (xa ≠ b))
  (HQ : Hid (∀ (wz : World) (tb : Nat) (p' : Option Addr) (c' : Nat), ApR W wz b 1 s z p' c' → Q .normal ⟨#[.pointer (some ⟨b, 0, none⟩), u1, u2, u3, u4, .pointer (some ⟨xa, 0, none⟩), u6, u7, u8, u9, aa, ab, ad, ae, af, ag, .pointer (some ⟨b, 0, none⟩), .pointer (some ⟨b, 0, none⟩), .pointer (some ⟨b, 0, none⟩), .pointer (some ⟨b, 1, none⟩), .slice s.p s.n s.c, .agg #[.int .u64 z.x0, .int .u64 z.x1, .int .u64 z.x2, .int .u64 z.x3], .slice (some ⟨tb, 0, none⟩) 1 1, (.slice p' (s.n + 1) c'), .pointer (some ⟨b, 0, none⟩), .pointer (some ⟨b, 1, none⟩), au, av, aw, ax, ay, az, aA, aB, aC, aD, aE, aF], []⟩ wz)) : (Code.region 2 ag2o true).wp Tryz.prog Q ⟨#[.pointer (some ⟨b, 0, none⟩), u1, u2, u3, u4, .pointer (some ⟨xa, 0, none⟩), u6, u7, u8, u9, aa, ab, ad, ae, af, ag, ah, ai, aj, ak, al, am, an, ao, ap, aq, au, av, aw, ax, ay, az, aA, aB, aC, aD, aE, aF], []⟩ W := by
 have BB := Hn (bl_drew W)
 have CB := Hn (cell_keep cb (bl_drew W))
 clear cb
 unfold ag2o
 refine wp_region_noPanic ?_
 refine wp_region_held_drew (S := fun x => x.cell? ⟨xa, 0, none⟩ = some (.int .u64 z.x0) ∧ x.cell? ⟨xa, 1, none⟩ = some (.int .u64 z.x1) ∧ x.cell? ⟨xa, 2, none⟩ = some (.int .u64 z.x2) ∧ x.cell? ⟨xa, 3, none⟩ = some (.int .u64 z.x3)) (by kernel_rfl) (⟨cell_keep q00 (bl_drew W), cell_keep q01 (bl_drew W), cell_keep q02 (bl_drew W), cell_keep q03 (bl_drew W)⟩) (fun hH0 => ?_)
 refine tj 0 ag2o_0 (.pointer (some ⟨b, 0, none⟩)) hH0 (fun w0 hSw => ?_) ?_
 ·(unfold ag2o_0 oO; clear hSw; go_simp)
 simp only [ag2o_0, oO, Act.put, sA, sB, sC]
 refine tj 1 ag2o_1 (.pointer (some ⟨b, 0, none⟩)) hH0 (fun w0 hSw => ?_) ?_
 ·(unfold ag2o_1 oO; clear hSw; go_simp)
 simp only [ag2o_1, oO, Act.put, sA, sB, sC]
 refine tj 5 ag2o_5 (.agg #[.int .u64 z.x0, .int .u64 z.x1, .int .u64 z.x2, .int .u64 z.x3]) hH0 (fun w0 hSw => ?_) ?_
 ·(unfold ag2o_5 oO; have hS : w0.cell? ⟨xa, 0, none⟩ = some (.int .u64 z.x0) ∧ w0.cell? ⟨xa, 1, none⟩ = some (.int .u64 z.x1) ∧ w0.cell? ⟨xa, 2, none⟩ = some (.int .u64 z.x2) ∧ w0.cell? ⟨xa, 3, none⟩ = some (.int .u64 z.x3) := hSw; have a0 := hS.1; have a1 := hS.2.1; have a2 := hS.2.2.1; have a3 := hS.2.2.2; clear hS hSw; go_simp)
 simp only [ag2o_5, oO, Act.put, sA, sB, sC]
 refine tj 2 ag2o_2 (.pointer (some ⟨b, 0, none⟩)) hH0 (fun w0 hSw => ?_) ?_
 ·(unfold ag2o_2 oO; clear hSw; go_simp)
 simp only [ag2o_2, oO, Act.put, sA, sB, sC]
 refine tj 3 ag2o_3 (.pointer (some ⟨b, 1, none⟩)) hH0 (fun w0 hSw => ?_) ?_
 ·(unfold ag2o_3 oO; clear hSw; go_simp)
 simp only [ag2o_3, oO, Act.put, sA, sB, sC]
 refine ar [4, 6] ?_
 refine ac ag2o_4 (fun K hK => ?_) (ac ag2o_6 (fun K hK => ?_) AllReadyH.nil)
 ·unfold ag2o_4 oO
  have HH := Hn hH0
  clear hH0
  refine wp_ldSl _ rfl b 1 s.p s.n s.c rfl CB.out ?_
  simp only [Act.put, sA, sB, sC]
  have SN := HH
  clear HH
  refine hK.out _ _ SN.out (fun hH1 => ?_)
  clear hK K SN
  refine ar [6] ?_
  refine ac ag2o_6 (fun K hK => ?_) AllReadyH.nil
  unfold ag2o_6 oO
  have HH := Hn hH1
  clear hH1
  refine wp_bs1 _ rfl z rfl (fun tb wn2 hbb hrg => ?_)
  have SN := Hn (And.intro (cell_keep HH.out.1 hbb) (And.intro (cell_keep HH.out.2.1 hbb) (And.intro (cell_keep HH.out.2.2.1 hbb) (cell_keep HH.out.2.2.2 hbb))))
  replace BB := Hn (bl_trans BB.out hbb)
  have RG := Hn (hrg)
  clear HH hbb hrg
  simp only [Act.put, sA, sB, sC]
  refine hK.out _ _ SN.out (fun hH2 => ?_)
  clear hK K SN
  refine ar [7] ?_
  refine ac ag2o_7 (fun K hK => ?_) AllReadyH.nil
  unfold ag2o_7 oO
  have HH := Hn hH2
  clear hH2
  refine wp_apS s (RO.out.keep BB.out) _ _ rfl rfl tb rfl z RG.out (fun p' c' wn3 ho hg hk => ?_)
  have SN := Hn (And.intro (hg.cell HH.out.1 (fun e9 => n0.out e9.symm)) (And.intro (hg.cell HH.out.2.1 (fun e9 => n0.out e9.symm)) (And.intro (hg.cell HH.out.2.2.1 (fun e9 => n0.out e9.symm)) (hg.cell HH.out.2.2.2 (fun e9 => n0.out e9.symm)))))
  have W1 := Hn (hg)
  have OW := Hn (ho)
  have HK := Hn ((fun k hk1 => (hk k hk1).imp id (fun h9 => Nat.le_trans BB.out.size h9)))
  clear HH ho hg hk RG
  simp only [Act.put, sA, sB, sC]
  refine hK.out _ _ SN.out (fun hH3 => ?_)
  clear hK K SN
  refine tj 8 ag2o_8 (.pointer (some ⟨b, 0, none⟩)) hH3 (fun w0 hSw => ?_) ?_
  ·(unfold ag2o_8 oO; clear hSw; go_simp)
  simp only [ag2o_8, oO, Act.put, sA, sB, sC]
  refine tj 9 ag2o_9 (.pointer (some ⟨b, 1, none⟩)) hH3 (fun w0 hSw => ?_) ?_
  ·(unfold ag2o_9 oO; clear hSw; go_simp)
  simp only [ag2o_9, oO, Act.put, sA, sB, sC]
  refine ar [10] ?_
  refine ac ag2o_10 (fun K hK => ?_) AllReadyH.nil
  unfold ag2o_10 oN
  have HH := Hn hH3
  clear hH3
  refine wp_storeV 41 _ _ rfl b 1 p' (s.n + 1) c' (by rfl) (by rfl) (there_gbO (there_bl th BB.out) W1.out (fun e9 => nb.out e9.symm)) i1_S rfl (fun wn4 hw => ?_)
  have SN := Hn (And.intro ((gb_setCells b [.slice p' (s.n + 1) c'] 1 _).cell HH.out.1 (fun e9 => m0.out (Option.some.inj e9))) (And.intro ((gb_setCells b [.slice p' (s.n + 1) c'] 1 _).cell HH.out.2.1 (fun e9 => m0.out (Option.some.inj e9))) (And.intro ((gb_setCells b [.slice p' (s.n + 1) c'] 1 _).cell HH.out.2.2.1 (fun e9 => m0.out (Option.some.inj e9))) ((gb_setCells b [.slice p' (s.n + 1) c'] 1 _).cell HH.out.2.2.2 (fun e9 => m0.out (Option.some.inj e9))))))
  have FE := Hn ((⟨_, _, BB.out, W1.out, OW.out, HK.out, hw⟩ : ApR W _ b 1 s z p' c'))
  rw [← hw] at SN
  clear HH hw
  refine hK.out _ _ SN.out (fun hH4 => ?_)
  clear hK K SN
  have HH := Hn hH4
  have FQ := Hn (HQ.out _ tb p' c' FE.out)
  refine wpAnyH_done (by kernel_rfl) ?_ _
  refine NoPanic.normal ?_
  exact FQ.out
 ·unfold ag2o_6 oO
  have HH := Hn hH0
  clear hH0
  refine wp_bs1 _ rfl z rfl (fun tb wn1 hbb hrg => ?_)
  have SN := Hn (And.intro (cell_keep HH.out.1 hbb) (And.intro (cell_keep HH.out.2.1 hbb) (And.intro (cell_keep HH.out.2.2.1 hbb) (cell_keep HH.out.2.2.2 hbb))))
  replace BB := Hn (bl_trans BB.out hbb)
  have RG := Hn (hrg)
  replace CB := Hn (cell_keep CB.out hbb)
  clear HH hbb hrg
  simp only [Act.put, sA, sB, sC]
  refine hK.out _ _ SN.out (fun hH1 => ?_)
  clear hK K SN
  refine ar [4] ?_
  refine ac ag2o_4 (fun K hK => ?_) AllReadyH.nil
  unfold ag2o_4 oO
  have HH := Hn hH1
  clear hH1
  refine wp_ldSl _ rfl b 1 s.p s.n s.c rfl CB.out ?_
  simp only [Act.put, sA, sB, sC]
  have SN := HH
  clear HH
  refine hK.out _ _ SN.out (fun hH2 => ?_)
  clear hK K SN
  refine ar [7] ?_
  refine ac ag2o_7 (fun K hK => ?_) AllReadyH.nil
  unfold ag2o_7 oO
  have HH := Hn hH2
  clear hH2
  refine wp_apS s (RO.out.keep BB.out) _ _ rfl rfl tb rfl z RG.out (fun p' c' wn3 ho hg hk => ?_)
  have SN := Hn (And.intro (hg.cell HH.out.1 (fun e9 => n0.out e9.symm)) (And.intro (hg.cell HH.out.2.1 (fun e9 => n0.out e9.symm)) (And.intro (hg.cell HH.out.2.2.1 (fun e9 => n0.out e9.symm)) (hg.cell HH.out.2.2.2 (fun e9 => n0.out e9.symm)))))
  have W1 := Hn (hg)
  have OW := Hn (ho)
  have HK := Hn ((fun k hk1 => (hk k hk1).imp id (fun h9 => Nat.le_trans BB.out.size h9)))
  clear HH ho hg hk RG
  simp only [Act.put, sA, sB, sC]
  refine hK.out _ _ SN.out (fun hH3 => ?_)
  clear hK K SN
  refine tj 8 ag2o_8 (.pointer (some ⟨b, 0, none⟩)) hH3 (fun w0 hSw => ?_) ?_
  ·(unfold ag2o_8 oO; clear hSw; go_simp)
  simp only [ag2o_8, oO, Act.put, sA, sB, sC]
  refine tj 9 ag2o_9 (.pointer (some ⟨b, 1, none⟩)) hH3 (fun w0 hSw => ?_) ?_
  ·(unfold ag2o_9 oO; clear hSw; go_simp)
  simp only [ag2o_9, oO, Act.put, sA, sB, sC]
  refine ar [10] ?_
  refine ac ag2o_10 (fun K hK => ?_) AllReadyH.nil
  unfold ag2o_10 oN
  have HH := Hn hH3
  clear hH3
  refine wp_storeV 41 _ _ rfl b 1 p' (s.n + 1) c' (by rfl) (by rfl) (there_gbO (there_bl th BB.out) W1.out (fun e9 => nb.out e9.symm)) i1_S rfl (fun wn4 hw => ?_)
  have SN := Hn (And.intro ((gb_setCells b [.slice p' (s.n + 1) c'] 1 _).cell HH.out.1 (fun e9 => m0.out (Option.some.inj e9))) (And.intro ((gb_setCells b [.slice p' (s.n + 1) c'] 1 _).cell HH.out.2.1 (fun e9 => m0.out (Option.some.inj e9))) (And.intro ((gb_setCells b [.slice p' (s.n + 1) c'] 1 _).cell HH.out.2.2.1 (fun e9 => m0.out (Option.some.inj e9))) ((gb_setCells b [.slice p' (s.n + 1) c'] 1 _).cell HH.out.2.2.2 (fun e9 => m0.out (Option.some.inj e9))))))
  have FE := Hn ((⟨_, _, BB.out, W1.out, OW.out, HK.out, hw⟩ : ApR W _ b 1 s z p' c'))
  rw [← hw] at SN
  clear HH hw
  refine hK.out _ _ SN.out (fun hH4 => ?_)
  clear hK K SN
  have HH := Hn hH4
  have FQ := Hn (HQ.out _ tb p' c' FE.out)
  refine wpAnyH_done (by kernel_rfl) ?_ _
  refine NoPanic.normal ?_
  exact FQ.out
def ag3o_0 : Oper := oO 26 (Op.move (Operand.tmp 0)) 233 "numbers.go:33" #[]
def ag3o_1 : Oper := oO 27 (Op.move (Operand.tmp 0)) 233 "numbers.go:33" #[]
def ag3o_2 : Oper := oO 28 (Op.nilCheck (Operand.tmp 27)) 0 "numbers.go:33" #[DD 1]
def ag3o_3 : Oper := oO 29 (Op.fieldAddr 43 (Operand.tmp 28) 2) 0 "numbers.go:33" #[DD 2]
def ag3o_4 : Oper := oO 30 (Op.load 41 (Operand.tmp 29)) 41 "numbers.go:33" #[DD 3]
def ag3o_5 : Oper := oO 31 (Op.load 53 (Operand.tmp 4)) 53 "numbers.go:33" #[]
def ag3o_6 : Oper := oO 32 (Op.load 53 (Operand.tmp 5)) 53 "numbers.go:33" #[]
def ag3o_7 : Oper := oO 33 (Op.call { callee := Callee.value (Operand.func 122), args := #[Operand.tmp 31, Operand.tmp 32], argTypes := #[53, 53] }) 53 "numbers.go:33" #[DD 5, DD 6]
def ag3o_8 : Oper := oO 34 (Op.buildSlice 41 1 #[(0, Operand.tmp 33)]) 41 "numbers.go:33" #[DD 7]
def ag3o_9 : Oper := oO 35 (Op.call { callee := Callee.builtin Builtin.append, args := #[Operand.tmp 30, Operand.tmp 34], argTypes := #[41, 41] }) 41 "numbers.go:33" #[DD 4, DD 8, CH 7]
def ag3o_10 : Oper := oO 36 (Op.nilCheck (Operand.tmp 26)) 0 "numbers.go:33" #[DD 0, PH 0, PH 1, PH 2, PH 3, PH 4, PH 5, PH 6, PH 7, PH 8, PH 9]
def ag3o_11 : Oper := oO 37 (Op.fieldAddr 43 (Operand.tmp 36) 2) 0 "numbers.go:33" #[DD 10, PH 0, PH 1, PH 2, PH 3, PH 4, PH 5, PH 6, PH 7, PH 8, PH 9]
def ag3o_12 : Oper := oN (Op.store 41 (Operand.tmp 37) (Operand.tmp 35)) "numbers.go:33" #[DD 11, DD 9, CH 9, PH 0, PH 1, PH 2, PH 3, PH 4, PH 5, PH 6, PH 7, PH 8, PH 9]
def ag3o : Array Oper := #[ag3o_0, ag3o_1, ag3o_2, ag3o_3, ag3o_4, ag3o_5, ag3o_6, ag3o_7, ag3o_8, ag3o_9, ag3o_10, ag3o_11, ag3o_12]
theorem ag3 (Q : Exit → Act → World → Prop) (b xa xc : Nat) (zl zr z : E4) (s : Sl) (u1 u2 u3 u6 u7 u8 u9 aa ab ad ae af ag ah ai aj ak al am an ao ap aq au av aw ax ay az aA aB aC aD aE aF : Value) (W : World)
  (q00 : W.cell? ⟨xa, 0, none⟩ = some (.int .u64 zl.x0)) (q01 : W.cell? ⟨xa, 1, none⟩ = some (.int .u64 zl.x1)) (q02 : W.cell? ⟨xa, 2, none⟩ = some (.int .u64 zl.x2)) (q03 : W.cell? ⟨xa, 3, none⟩ = some (.int .u64 zl.x3)) (q10 : W.cell? ⟨xc, 0, none⟩ = some (.int .u64 zr.x0)) (q11 : W.cell? ⟨xc, 1, none⟩ = some (.int .u64 zr.x1)) (q12 : W.cell? ⟨xc, 2, none⟩ = some (.int .u64 zr.x2)) (q13 : W.cell? ⟨xc, 3, none⟩ = some (.int .u64 zr.x3)) (cb : W.cell? ⟨b, 2, none⟩ = some (.slice s.p s.n s.c)) (RO : Hid (Ro W s)) (th : W.there b 2 1) (nb : Hid (s.v.ownBlock ≠ some b)) (n0 : Hid (s.v.ownBlock ≠ some xa)) (m0 : Hid (xa ≠ b)) (n1 : Hid (s.v.ownBlock ≠ some xc)) (m1 : Hid (xc ≠ b))
  (CM : Hid (∀ y, Below W.heap.size W y → Calls Tryz.prog 122 #[.agg #[.int .u64 zl.x0, .int .u64 zl.x1, .int .u64 zl.x2, .int .u64 zl.x3], .agg #[.int .u64 zr.x0, .int .u64 zr.x1, .int .u64 zr.x2, .int .u64 zr.x3]] y fun e w' => e = .returned (.agg #[.int .u64 z.x0, .int .u64 z.x1, .int .u64 z.x2, .int .u64 z.x3]) ∧ Below y.heap.size y w'))
  (HQ : Hid (∀ (wz : World) (tb : Nat) (p' : Option Addr) (c' : Nat), ApR W wz b 2 s z p' c' → Q .normal ⟨#[.pointer (some ⟨b, 0, none⟩), u1, u2, u3, .pointer (some ⟨xa, 0, none⟩), .pointer (some ⟨xc, 0, none⟩), u6, u7, u8, u9, aa, ab, ad, ae, af, ag, ah, ai, aj, ak, al, am, an, ao, ap, aq, .pointer (some ⟨b, 0, none⟩), .pointer (some ⟨b, 0, none⟩), .pointer (some ⟨b, 0, none⟩), .pointer (some ⟨b, 2, none⟩), .slice s.p s.n s.c, .agg #[.int .u64 zl.x0, .int .u64 zl.x1, .int .u64 zl.x2, .int .u64 zl.x3], .agg #[.int .u64 zr.x0, .int .u64 zr.x1, .int .u64 zr.x2, .int .u64 zr.x3], .agg #[.int .u64 z.x0, .int .u64 z.x1, .int .u64 z.x2, .int .u64 z.x3], .slice (some ⟨tb, 0, none⟩) 1 1, (.slice p' (s.n + 1) c'), .pointer (some ⟨b, 0, none⟩), .pointer (some ⟨b, 2, none⟩)], []⟩ wz)) : (Code.region 3 ag3o true).wp Tryz.prog Q ⟨#[.pointer (some ⟨b, 0, none⟩), u1, u2, u3, .pointer (some ⟨xa, 0, none⟩), .pointer (some ⟨xc, 0, none⟩), u6, u7, u8, u9, aa, ab, ad, ae, af, ag, ah, ai, aj, ak, al, am, an, ao, ap, aq, au, av, aw, ax, ay, az, aA, aB, aC, aD, aE, aF], []⟩ W := by
 have BB := Hn (bl_drew W)
 have CB := Hn (cell_keep cb (bl_drew W))
 clear cb
 unfold ag3o
 refine wp_region_noPanic ?_
 refine wp_region_held_drew (S := fun x => x.cell? ⟨xa, 0, none⟩ = some (.int .u64 zl.x0) ∧ x.cell? ⟨xa, 1, none⟩ = some (.int .u64 zl.x1) ∧ x.cell? ⟨xa, 2, none⟩ = some (.int .u64 zl.x2) ∧ x.cell? ⟨xa, 3, none⟩ = some (.int .u64 zl.x3) ∧ x.cell? ⟨xc, 0, none⟩ = some (.int .u64 zr.x0) ∧ x.cell? ⟨xc, 1, none⟩ = some (.int .u64 zr.x1) ∧ x.cell? ⟨xc, 2, none⟩ = some (.int .u64 zr.x2) ∧ x.cell? ⟨xc, 3, none⟩ = some (.int .u64 zr.x3)) (by kernel_rfl) (⟨cell_keep q00 (bl_drew W), cell_keep q01 (bl_drew W), cell_keep q02 (bl_drew W), cell_keep q03 (bl_drew W), cell_keep q10 (bl_drew W), cell_keep q11 (bl_drew W), cell_keep q12 (bl_drew W), cell_keep q13 (bl_drew W)⟩) (fun hH0 => ?_)
 refine tj 0 ag3o_0 (.pointer (some ⟨b, 0, none⟩)) hH0 (fun w0 hSw => ?_) ?_
 ·(unfold ag3o_0 oO; clear hSw; go_simp)
 simp only [ag3o_0, oO, Act.put, sA, sB, sC]
 refine tj 1 ag3o_1 (.pointer (some ⟨b, 0, none⟩)) hH0 (fun w0 hSw => ?_) ?_
 ·(unfold ag3o_1 oO; clear hSw; go_simp)
 simp only [ag3o_1, oO, Act.put, sA, sB, sC]
 refine tj 5 ag3o_5 (.agg #[.int .u64 zl.x0, .int .u64 zl.x1, .int .u64 zl.x2, .int .u64 zl.x3]) hH0 (fun w0 hSw => ?_) ?_
 ·(unfold ag3o_5 oO; have hS : w0.cell? ⟨xa, 0, none⟩ = some (.int .u64 zl.x0) ∧ w0.cell? ⟨xa, 1, none⟩ = some (.int .u64 zl.x1) ∧ w0.cell? ⟨xa, 2, none⟩ = some (.int .u64 zl.x2) ∧ w0.cell? ⟨xa, 3, none⟩ = some (.int .u64 zl.x3) ∧ w0.cell? ⟨xc, 0, none⟩ = some (.int .u64 zr.x0) ∧ w0.cell? ⟨xc, 1, none⟩ = some (.int .u64 zr.x1) ∧ w0.cell? ⟨xc, 2, none⟩ = some (.int .u64 zr.x2) ∧ w0.cell? ⟨xc, 3, none⟩ = some (.int .u64 zr.x3) := hSw; have a0 := hS.1; have a1 := hS.2.1; have a2 := hS.2.2.1; have a3 := hS.2.2.2.1; clear hS hSw; go_simp)
 simp only [ag3o_5, oO, Act.put, sA, sB, sC]
 refine tj 6 ag3o_6 (.agg #[.int .u64 zr.x0, .int .u64 zr.x1, .int .u64 zr.x2, .int .u64 zr.x3]) hH0 (fun w0 hSw => ?_) ?_
 ·(unfold ag3o_6 oO; have hS : w0.cell? ⟨xa, 0, none⟩ = some (.int .u64 zl.x0) ∧ w0.cell? ⟨xa, 1, none⟩ = some (.int .u64 zl.x1) ∧ w0.cell? ⟨xa, 2, none⟩ = some (.int .u64 zl.x2) ∧ w0.cell? ⟨xa, 3, none⟩ = some (.int .u64 zl.x3) ∧ w0.cell? ⟨xc, 0, none⟩ = some (.int .u64 zr.x0) ∧ w0.cell? ⟨xc, 1, none⟩ = some (.int .u64 zr.x1) ∧ w0.cell? ⟨xc, 2, none⟩ = some (.int .u64 zr.x2) ∧ w0.cell? ⟨xc, 3, none⟩ = some (.int .u64 zr.x3) := hSw; have a0 := hS.2.2.2.2.1; have a1 := hS.2.2.2.2.2.1; have a2 := hS.2.2.2.2.2.2.1; have a3 := hS.2.2.2.2.2.2.2; clear hS hSw; go_simp)
 simp only [ag3o_6, oO, Act.put, sA, sB, sC]
 refine tj 2 ag3o_2 (.pointer (some ⟨b, 0, none⟩)) hH0 (fun w0 hSw => ?_) ?_
 ·(unfold ag3o_2 oO; clear hSw; go_simp)
 simp only [ag3o_2, oO, Act.put, sA, sB, sC]
 refine tj 3 ag3o_3 (.pointer (some ⟨b, 2, none⟩)) hH0 (fun w0 hSw => ?_) ?_
 ·(unfold ag3o_3 oO; clear hSw; go_simp)
 simp only [ag3o_3, oO, Act.put, sA, sB, sC]
 refine ar [4, 7] ?_
 refine ac ag3o_4 (fun K hK => ?_) (ac ag3o_7 (fun K hK => ?_) AllReadyH.nil)
 ·unfold ag3o_4 oO
  have HH := Hn hH0
  clear hH0
  refine wp_ldSl _ rfl b 2 s.p s.n s.c rfl CB.out ?_
  simp only [Act.put, sA, sB, sC]
  have SN := HH
  clear HH
  refine hK.out _ _ SN.out (fun hH1 => ?_)
  clear hK K SN
  refine ar [7] ?_
  refine ac ag3o_7 (fun K hK => ?_) AllReadyH.nil
  unfold ag3o_7 oO
  have HH := Hn hH1
  clear hH1
  go_simp
  refine (CM.out _ BB.out).mono ?_
  rintro e wn2 ⟨rfl, hb⟩
  have SN := Hn (And.intro (cell_keep HH.out.1 hb) (And.intro (cell_keep HH.out.2.1 hb) (And.intro (cell_keep HH.out.2.2.1 hb) (And.intro (cell_keep HH.out.2.2.2.1 hb) (And.intro (cell_keep HH.out.2.2.2.2.1 hb) (And.intro (cell_keep HH.out.2.2.2.2.2.1 hb) (And.intro (cell_keep HH.out.2.2.2.2.2.2.1 hb) (cell_keep HH.out.2.2.2.2.2.2.2 hb))))))))
  replace BB := Hn (bl_trans BB.out hb)
  clear HH CM hb
  go_wp2_with fail
  refine hK.out _ _ SN.out (fun hH2 => ?_)
  clear hK K SN
  refine ar [8] ?_
  refine ac ag3o_8 (fun K hK => ?_) AllReadyH.nil
  unfold ag3o_8 oO
  have HH := Hn hH2
  clear hH2
  refine wp_bs1 _ rfl z rfl (fun tb wn3 hbb hrg => ?_)
  have SN := Hn (And.intro (cell_keep HH.out.1 hbb) (And.intro (cell_keep HH.out.2.1 hbb) (And.intro (cell_keep HH.out.2.2.1 hbb) (And.intro (cell_keep HH.out.2.2.2.1 hbb) (And.intro (cell_keep HH.out.2.2.2.2.1 hbb) (And.intro (cell_keep HH.out.2.2.2.2.2.1 hbb) (And.intro (cell_keep HH.out.2.2.2.2.2.2.1 hbb) (cell_keep HH.out.2.2.2.2.2.2.2 hbb))))))))
  replace BB := Hn (bl_trans BB.out hbb)
  have RG := Hn (hrg)
  clear HH hbb hrg
  simp only [Act.put, sA, sB, sC]
  refine hK.out _ _ SN.out (fun hH3 => ?_)
  clear hK K SN
  refine ar [9] ?_
  refine ac ag3o_9 (fun K hK => ?_) AllReadyH.nil
  unfold ag3o_9 oO
  have HH := Hn hH3
  clear hH3
  refine wp_apS s (RO.out.keep BB.out) _ _ rfl rfl tb rfl z RG.out (fun p' c' wn4 ho hg hk => ?_)
  have SN := Hn (And.intro (hg.cell HH.out.1 (fun e9 => n0.out e9.symm)) (And.intro (hg.cell HH.out.2.1 (fun e9 => n0.out e9.symm)) (And.intro (hg.cell HH.out.2.2.1 (fun e9 => n0.out e9.symm)) (And.intro (hg.cell HH.out.2.2.2.1 (fun e9 => n0.out e9.symm)) (And.intro (hg.cell HH.out.2.2.2.2.1 (fun e9 => n1.out e9.symm)) (And.intro (hg.cell HH.out.2.2.2.2.2.1 (fun e9 => n1.out e9.symm)) (And.intro (hg.cell HH.out.2.2.2.2.2.2.1 (fun e9 => n1.out e9.symm)) (hg.cell HH.out.2.2.2.2.2.2.2 (fun e9 => n1.out e9.symm)))))))))
  have W1 := Hn (hg)
  have OW := Hn (ho)
  have HK := Hn ((fun k hk1 => (hk k hk1).imp id (fun h9 => Nat.le_trans BB.out.size h9)))
  clear HH ho hg hk RG
  simp only [Act.put, sA, sB, sC]
  refine hK.out _ _ SN.out (fun hH4 => ?_)
  clear hK K SN
  refine tj 10 ag3o_10 (.pointer (some ⟨b, 0, none⟩)) hH4 (fun w0 hSw => ?_) ?_
  ·(unfold ag3o_10 oO; clear hSw; go_simp)
  simp only [ag3o_10, oO, Act.put, sA, sB, sC]
  refine tj 11 ag3o_11 (.pointer (some ⟨b, 2, none⟩)) hH4 (fun w0 hSw => ?_) ?_
  ·(unfold ag3o_11 oO; clear hSw; go_simp)
  simp only [ag3o_11, oO, Act.put, sA, sB, sC]
  refine ar [12] ?_
  refine ac ag3o_12 (fun K hK => ?_) AllReadyH.nil
  unfold ag3o_12 oN
  have HH := Hn hH4
  clear hH4
  refine wp_storeV 41 _ _ rfl b 2 p' (s.n + 1) c' (by rfl) (by rfl) (there_gbO (there_bl th BB.out) W1.out (fun e9 => nb.out e9.symm)) i1_S rfl (fun wn5 hw => ?_)
  have SN := Hn (And.intro ((gb_setCells b [.slice p' (s.n + 1) c'] 2 _).cell HH.out.1 (fun e9 => m0.out (Option.some.inj e9))) (And.intro ((gb_setCells b [.slice p' (s.n + 1) c'] 2 _).cell HH.out.2.1 (fun e9 => m0.out (Option.some.inj e9))) (And.intro ((gb_setCells b [.slice p' (s.n + 1) c'] 2 _).cell HH.out.2.2.1 (fun e9 => m0.out (Option.some.inj e9))) (And.intro ((gb_setCells b [.slice p' (s.n + 1) c'] 2 _).cell HH.out.2.2.2.1 (fun e9 => m0.out (Option.some.inj e9))) (And.intro ((gb_setCells b [.slice p' (s.n + 1) c'] 2 _).cell HH.out.2.2.2.2.1 (fun e9 => m1.out (Option.some.inj e9))) (And.intro ((gb_setCells b [.slice p' (s.n + 1) c'] 2 _).cell HH.out.2.2.2.2.2.1 (fun e9 => m1.out (Option.some.inj e9))) (And.intro ((gb_setCells b [.slice p' (s.n + 1) c'] 2 _).cell HH.out.2.2.2.2.2.2.1 (fun e9 => m1.out (Option.some.inj e9))) ((gb_setCells b [.slice p' (s.n + 1) c'] 2 _).cell HH.out.2.2.2.2.2.2.2 (fun e9 => m1.out (Option.some.inj e9))))))))))
  have FE := Hn ((⟨_, _, BB.out, W1.out, OW.out, HK.out, hw⟩ : ApR W _ b 2 s z p' c'))
  rw [← hw] at SN
  clear HH hw
  refine hK.out _ _ SN.out (fun hH5 => ?_)
  clear hK K SN
  have HH := Hn hH5
  have FQ := Hn (HQ.out _ tb p' c' FE.out)
  refine wpAnyH_done (by kernel_rfl) ?_ _
  refine NoPanic.normal ?_
  exact FQ.out
 ·unfold ag3o_7 oO
  have HH := Hn hH0
  clear hH0
  go_simp
  refine (CM.out _ BB.out).mono ?_
  rintro e wn1 ⟨rfl, hb⟩
  have SN := Hn (And.intro (cell_keep HH.out.1 hb) (And.intro (cell_keep HH.out.2.1 hb) (And.intro (cell_keep HH.out.2.2.1 hb) (And.intro (cell_keep HH.out.2.2.2.1 hb) (And.intro (cell_keep HH.out.2.2.2.2.1 hb) (And.intro (cell_keep HH.out.2.2.2.2.2.1 hb) (And.intro (cell_keep HH.out.2.2.2.2.2.2.1 hb) (cell_keep HH.out.2.2.2.2.2.2.2 hb))))))))
  replace BB := Hn (bl_trans BB.out hb)
  replace CB := Hn (cell_keep CB.out hb)
  clear HH CM hb
  go_wp2_with fail
  refine hK.out _ _ SN.out (fun hH1 => ?_)
  clear hK K SN
  refine ar [4, 8] ?_
  refine ac ag3o_4 (fun K hK => ?_) (ac ag3o_8 (fun K hK => ?_) AllReadyH.nil)
  ·unfold ag3o_4 oO
   have HH := Hn hH1
   clear hH1
   refine wp_ldSl _ rfl b 2 s.p s.n s.c rfl CB.out ?_
   simp only [Act.put, sA, sB, sC]
   have SN := HH
   clear HH
   refine hK.out _ _ SN.out (fun hH2 => ?_)
   clear hK K SN
   refine ar [8] ?_
   refine ac ag3o_8 (fun K hK => ?_) AllReadyH.nil
   unfold ag3o_8 oO
   have HH := Hn hH2
   clear hH2
   refine wp_bs1 _ rfl z rfl (fun tb wn3 hbb hrg => ?_)
   have SN := Hn (And.intro (cell_keep HH.out.1 hbb) (And.intro (cell_keep HH.out.2.1 hbb) (And.intro (cell_keep HH.out.2.2.1 hbb) (And.intro (cell_keep HH.out.2.2.2.1 hbb) (And.intro (cell_keep HH.out.2.2.2.2.1 hbb) (And.intro (cell_keep HH.out.2.2.2.2.2.1 hbb) (And.intro (cell_keep HH.out.2.2.2.2.2.2.1 hbb) (cell_keep HH.out.2.2.2.2.2.2.2 hbb))))))))
   replace BB := Hn (bl_trans BB.out hbb)
   have RG := Hn (hrg)
   clear HH hbb hrg
   simp only [Act.put, sA, sB, sC]
   refine hK.out _ _ SN.out (fun hH3 => ?_)
   clear hK K SN
   refine ar [9] ?_
   refine ac ag3o_9 (fun K hK => ?_) AllReadyH.nil
   unfold ag3o_9 oO
   have HH := Hn hH3
   clear hH3
   refine wp_apS s (RO.out.keep BB.out) _ _ rfl rfl tb rfl z RG.out (fun p' c' wn4 ho hg hk => ?_)
   have SN := Hn (And.intro (hg.cell HH.out.1 (fun e9 => n0.out e9.symm)) (And.intro (hg.cell HH.out.2.1 (fun e9 => n0.out e9.symm)) (And.intro (hg.cell HH.out.2.2.1 (fun e9 => n0.out e9.symm)) (And.intro (hg.cell HH.out.2.2.2.1 (fun e9 => n0.out e9.symm)) (And.intro (hg.cell HH.out.2.2.2.2.1 (fun e9 => n1.out e9.symm)) (And.intro (hg.cell HH.out.2.2.2.2.2.1 (fun e9 => n1.out e9.symm)) (And.intro (hg.cell HH.out.2.2.2.2.2.2.1 (fun e9 => n1.out e9.symm)) (hg.cell HH.out.2.2.2.2.2.2.2 (fun e9 => n1.out e9.symm)))))))))
   have W1 := Hn (hg)
   have OW := Hn (ho)
   have HK := Hn ((fun k hk1 => (hk k hk1).imp id (fun h9 => Nat.le_trans BB.out.size h9)))
   clear HH ho hg hk RG
   simp only [Act.put, sA, sB, sC]
   refine hK.out _ _ SN.out (fun hH4 => ?_)
   clear hK K SN
   refine tj 10 ag3o_10 (.pointer (some ⟨b, 0, none⟩)) hH4 (fun w0 hSw => ?_) ?_
   ·(unfold ag3o_10 oO; clear hSw; go_simp)
   simp only [ag3o_10, oO, Act.put, sA, sB, sC]
   refine tj 11 ag3o_11 (.pointer (some ⟨b, 2, none⟩)) hH4 (fun w0 hSw => ?_) ?_
   ·(unfold ag3o_11 oO; clear hSw; go_simp)
   simp only [ag3o_11, oO, Act.put, sA, sB, sC]
   refine ar [12] ?_
   refine ac ag3o_12 (fun K hK => ?_) AllReadyH.nil
   unfold ag3o_12 oN
   have HH := Hn hH4
   clear hH4
   refine wp_storeV 41 _ _ rfl b 2 p' (s.n + 1) c' (by rfl) (by rfl) (there_gbO (there_bl th BB.out) W1.out (fun e9 => nb.out e9.symm)) i1_S rfl (fun wn5 hw => ?_)
   have SN := Hn (And.intro ((gb_setCells b [.slice p' (s.n + 1) c'] 2 _).cell HH.out.1 (fun e9 => m0.out (Option.some.inj e9))) (And.intro ((gb_setCells b [.slice p' (s.n + 1) c'] 2 _).cell HH.out.2.1 (fun e9 => m0.out (Option.some.inj e9))) (And.intro ((gb_setCells b [.slice p' (s.n + 1) c'] 2 _).cell HH.out.2.2.1 (fun e9 => m0.out (Option.some.inj e9))) (And.intro ((gb_setCells b [.slice p' (s.n + 1) c'] 2 _).cell HH.out.2.2.2.1 (fun e9 => m0.out (Option.some.inj e9))) (And.intro ((gb_setCells b [.slice p' (s.n + 1) c'] 2 _).cell HH.out.2.2.2.2.1 (fun e9 => m1.out (Option.some.inj e9))) (And.intro ((gb_setCells b [.slice p' (s.n + 1) c'] 2 _).cell HH.out.2.2.2.2.2.1 (fun e9 => m1.out (Option.some.inj e9))) (And.intro ((gb_setCells b [.slice p' (s.n + 1) c'] 2 _).cell HH.out.2.2.2.2.2.2.1 (fun e9 => m1.out (Option.some.inj e9))) ((gb_setCells b [.slice p' (s.n + 1) c'] 2 _).cell HH.out.2.2.2.2.2.2.2 (fun e9 => m1.out (Option.some.inj e9))))))))))
   have FE := Hn ((⟨_, _, BB.out, W1.out, OW.out, HK.out, hw⟩ : ApR W _ b 2 s z p' c'))
   rw [← hw] at SN
   clear HH hw
   refine hK.out _ _ SN.out (fun hH5 => ?_)
   clear hK K SN
   have HH := Hn hH5
   have FQ := Hn (HQ.out _ tb p' c' FE.out)
   refine wpAnyH_done (by kernel_rfl) ?_ _
   refine NoPanic.normal ?_
   exact FQ.out
  ·unfold ag3o_8 oO
   have HH := Hn hH1
   clear hH1
   refine wp_bs1 _ rfl z rfl (fun tb wn2 hbb hrg => ?_)
   have SN := Hn (And.intro (cell_keep HH.out.1 hbb) (And.intro (cell_keep HH.out.2.1 hbb) (And.intro (cell_keep HH.out.2.2.1 hbb) (And.intro (cell_keep HH.out.2.2.2.1 hbb) (And.intro (cell_keep HH.out.2.2.2.2.1 hbb) (And.intro (cell_keep HH.out.2.2.2.2.2.1 hbb) (And.intro (cell_keep HH.out.2.2.2.2.2.2.1 hbb) (cell_keep HH.out.2.2.2.2.2.2.2 hbb))))))))
   replace BB := Hn (bl_trans BB.out hbb)
   have RG := Hn (hrg)
   replace CB := Hn (cell_keep CB.out hbb)
   clear HH hbb hrg
   simp only [Act.put, sA, sB, sC]
   refine hK.out _ _ SN.out (fun hH2 => ?_)
   clear hK K SN
   refine ar [4] ?_
   refine ac ag3o_4 (fun K hK => ?_) AllReadyH.nil
   unfold ag3o_4 oO
   have HH := Hn hH2
   clear hH2
   refine wp_ldSl _ rfl b 2 s.p s.n s.c rfl CB.out ?_
   simp only [Act.put, sA, sB, sC]
   have SN := HH
   clear HH
   refine hK.out _ _ SN.out (fun hH3 => ?_)
   clear hK K SN
   refine ar [9] ?_
   refine ac ag3o_9 (fun K hK => ?_) AllReadyH.nil
   unfold ag3o_9 oO
   have HH := Hn hH3
   clear hH3
   refine wp_apS s (RO.out.keep BB.out) _ _ rfl rfl tb rfl z RG.out (fun p' c' wn4 ho hg hk => ?_)
   have SN := Hn (And.intro (hg.cell HH.out.1 (fun e9 => n0.out e9.symm)) (And.intro (hg.cell HH.out.2.1 (fun e9 => n0.out e9.symm)) (And.intro (hg.cell HH.out.2.2.1 (fun e9 => n0.out e9.symm)) (And.intro (hg.cell HH.out.2.2.2.1 (fun e9 => n0.out e9.symm)) (And.intro (hg.cell HH.out.2.2.2.2.1 (fun e9 => n1.out e9.symm)) (And.intro (hg.cell HH.out.2.2.2.2.2.1 (fun e9 => n1.out e9.symm)) (And.intro (hg.cell HH.out.2.2.2.2.2.2.1 (fun e9 => n1.out e9.symm)) (hg.cell HH.out.2.2.2.2.2.2.2 (fun e9 => n1.out e9.symm)))))))))
   have W1 := Hn (hg)
   have OW := Hn (ho)
   have HK := Hn ((fun k hk1 => (hk k hk1).imp id (fun h9 => Nat.le_trans BB.out.size h9)))
   clear HH ho hg hk RG
   simp only [Act.put, sA, sB, sC]
   refine hK.out _ _ SN.out (fun hH4 => ?_)
   clear hK K SN
   refine tj 10 ag3o_10 (.pointer (some ⟨b, 0, none⟩)) hH4 (fun w0 hSw => ?_) ?_
   ·(unfold ag3o_10 oO; clear hSw; go_simp)
   simp only [ag3o_10, oO, Act.put, sA, sB, sC]
   refine tj 11 ag3o_11 (.pointer (some ⟨b, 2, none⟩)) hH4 (fun w0 hSw => ?_) ?_
   ·(unfold ag3o_11 oO; clear hSw; go_simp)
   simp only [ag3o_11, oO, Act.put, sA, sB, sC]
   refine ar [12] ?_
   refine ac ag3o_12 (fun K hK => ?_) AllReadyH.nil
   unfold ag3o_12 oN
   have HH := Hn hH4
   clear hH4
   refine wp_storeV 41 _ _ rfl b 2 p' (s.n + 1) c' (by rfl) (by rfl) (there_gbO (there_bl th BB.out) W1.out (fun e9 => nb.out e9.symm)) i1_S rfl (fun wn5 hw => ?_)
   have SN := Hn (And.intro ((gb_setCells b [.slice p' (s.n + 1) c'] 2 _).cell HH.out.1 (fun e9 => m0.out (Option.some.inj e9))) (And.intro ((gb_setCells b [.slice p' (s.n + 1) c'] 2 _).cell HH.out.2.1 (fun e9 => m0.out (Option.some.inj e9))) (And.intro ((gb_setCells b [.slice p' (s.n + 1) c'] 2 _).cell HH.out.2.2.1 (fun e9 => m0.out (Option.some.inj e9))) (And.intro ((gb_setCells b [.slice p' (s.n + 1) c'] 2 _).cell HH.out.2.2.2.1 (fun e9 => m0.out (Option.some.inj e9))) (And.intro ((gb_setCells b [.slice p' (s.n + 1) c'] 2 _).cell HH.out.2.2.2.2.1 (fun e9 => m1.out (Option.some.inj e9))) (And.intro ((gb_setCells b [.slice p' (s.n + 1) c'] 2 _).cell HH.out.2.2.2.2.2.1 (fun e9 => m1.out (Option.some.inj e9))) (And.intro ((gb_setCells b [.slice p' (s.n + 1) c'] 2 _).cell HH.out.2.2.2.2.2.2.1 (fun e9 => m1.out (Option.some.inj e9))) ((gb_setCells b [.slice p' (s.n + 1) c'] 2 _).cell HH.out.2.2.2.2.2.2.2 (fun e9 => m1.out (Option.some.inj e9))))))))))
   have FE := Hn ((⟨_, _, BB.out, W1.out, OW.out, HK.out, hw⟩ : ApR W _ b 2 s z p' c'))
   rw [← hw] at SN
   clear HH hw
   refine hK.out _ _ SN.out (fun hH5 => ?_)
   clear hK K SN
   have HH := Hn hH5
   have FQ := Hn (HQ.out _ tb p' c' FE.out)
   refine wpAnyH_done (by kernel_rfl) ?_ _
   refine NoPanic.normal ?_
   exact FQ.out
end Ci
end Go.Proofs.YtljmgfclhbadjaaGreatDoor
