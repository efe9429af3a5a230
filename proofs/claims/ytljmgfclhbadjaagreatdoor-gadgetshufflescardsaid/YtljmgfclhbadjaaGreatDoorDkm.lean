import Derived.Test.YtljmgfclhbadjaaGreatDoorTk
import Derived.Test.YtljmgfclhbadjaaGreatDoorDcz
namespace Go.Proofs.YtljmgfclhbadjaaGreatDoor
set_option maxRecDepth 100000
set_option maxHeartbeats 16000000
open Go.RowKit
set_option linter.unusedVariables false
set_option linter.unusedSimpArgs false
open Cm (Wr Tm co bf Ls lf ins Eqm)
namespace Ci
def en5o_0 : Oper := oO 12 (Op.fieldAddr 43 (Operand.tmp 3) 3) 0 "numbers.go:23" #[]
def en5o_1 : Oper := oO 13 (Op.load 41 (Operand.tmp 12)) 41 "numbers.go:23" #[DD 0]
def en5o_2 : Oper := oO 14 (Op.load 53 (Operand.tmp 5)) 53 "numbers.go:23" #[]
def en5o_3 : Oper := oO 15 (Op.call { callee := Callee.value (Operand.func 96), args := #[Operand.tmp 14], argTypes := #[53] }) 53 "numbers.go:23" #[DD 2]
def en5o_4 : Oper := oO 16 (Op.buildSlice 41 1 #[(0, Operand.tmp 15)]) 41 "numbers.go:23" #[DD 3]
def en5o_5 : Oper := oO 17 (Op.call { callee := Callee.builtin Builtin.append, args := #[Operand.tmp 13, Operand.tmp 16], argTypes := #[41, 41] }) 41 "numbers.go:23" #[DD 1, DD 4, CH 3]
def en5o_6 : Oper := oO 18 (Op.fieldAddr 43 (Operand.tmp 3) 3) 0 "numbers.go:23" #[PH 0, PH 1, PH 2, PH 3, PH 4, PH 5]
def en5o_7 : Oper := oN (Op.store 41 (Operand.tmp 18) (Operand.tmp 17)) "numbers.go:23" #[DD 6, DD 5, CH 5, PH 0, PH 1, PH 2, PH 3, PH 4, PH 5]
def en5o : Array Oper := #[en5o_0, en5o_1, en5o_2, en5o_3, en5o_4, en5o_5, en5o_6, en5o_7]
theorem en5 (Q : Exit → Act → World → Prop) (b xa : Nat) (z0 z : E4) (s : Sl) (u0 u1 u2 u4 u6 u7 u8 u9 aa ab ad ae af ag ah ai aj ak al am an ao ap : Value) (W : World)
  (q00 : W.cell? ⟨xa, 0, none⟩ = some (.int .u64 z0.x0)) (q01 : W.cell? ⟨xa, 1, none⟩ = some (.int .u64 z0.x1)) (q02 : W.cell? ⟨xa, 2, none⟩ = some (.int .u64 z0.x2)) (q03 : W.cell? ⟨xa, 3, none⟩ = some (.int .u64 z0.x3)) (cb : W.cell? ⟨b, 3, none⟩ = some (.slice s.p s.n s.c)) (RO : Hid (Ro W s)) (th : W.there b 3 1) (nb : Hid (s.v.ownBlock ≠ some b)) (n0 : Hid (s.v.ownBlock ≠ some xa)) (m0 : Hid (xa ≠ b))
  (CM : Hid (∀ y, Below W.heap.size W y → Calls Tryz.prog 96 #[.agg #[.int .u64 z0.x0, .int .u64 z0.x1, .int .u64 z0.x2, .int .u64 z0.x3]] y fun e w' => e = .returned (.agg #[.int .u64 z.x0, .int .u64 z.x1, .int .u64 z.x2, .int .u64 z.x3]) ∧ Below y.heap.size y w'))
  (HQ : Hid (∀ (wz : World) (tb : Nat) (p' : Option Addr) (c' : Nat), ApR W wz b 3 s z p' c' → Q .normal ⟨#[u0, u1, u2, .pointer (some ⟨b, 0, none⟩), u4, .pointer (some ⟨xa, 0, none⟩), u6, u7, u8, u9, aa, ab, .pointer (some ⟨b, 3, none⟩), .slice s.p s.n s.c, .agg #[.int .u64 z0.x0, .int .u64 z0.x1, .int .u64 z0.x2, .int .u64 z0.x3], .agg #[.int .u64 z.x0, .int .u64 z.x1, .int .u64 z.x2, .int .u64 z.x3], .slice (some ⟨tb, 0, none⟩) 1 1, (.slice p' (s.n + 1) c'), .pointer (some ⟨b, 3, none⟩), ak, al, am, an, ao, ap], []⟩ wz)) : (Code.region 5 en5o true).wp Tryz.prog Q ⟨#[u0, u1, u2, .pointer (some ⟨b, 0, none⟩), u4, .pointer (some ⟨xa, 0, none⟩), u6, u7, u8, u9, aa, ab, ad, ae, af, ag, ah, ai, aj, ak, al, am, an, ao, ap], []⟩ W := by
 have BB := Hn (bl_drew W)
 have CB := Hn (cell_keep cb (bl_drew W))
 clear cb
 unfold en5o
 refine wp_region_noPanic ?_
 refine wp_region_held_drew (S := fun x => x.cell? ⟨xa, 0, none⟩ = some (.int .u64 z0.x0) ∧ x.cell? ⟨xa, 1, none⟩ = some (.int .u64 z0.x1) ∧ x.cell? ⟨xa, 2, none⟩ = some (.int .u64 z0.x2) ∧ x.cell? ⟨xa, 3, none⟩ = some (.int .u64 z0.x3)) (by kernel_rfl) (⟨cell_keep q00 (bl_drew W), cell_keep q01 (bl_drew W), cell_keep q02 (bl_drew W), cell_keep q03 (bl_drew W)⟩) (fun hH0 => ?_)
 refine tj 0 en5o_0 (.pointer (some ⟨b, 3, none⟩)) hH0 (fun w0 hSw => ?_) ?_
 ·(unfold en5o_0 oO; clear hSw; go_simp)
 simp only [en5o_0, oO, Act.put, sA, sB, sC]
 refine tj 2 en5o_2 (.agg #[.int .u64 z0.x0, .int .u64 z0.x1, .int .u64 z0.x2, .int .u64 z0.x3]) hH0 (fun w0 hSw => ?_) ?_
 ·(unfold en5o_2 oO; have hS : w0.cell? ⟨xa, 0, none⟩ = some (.int .u64 z0.x0) ∧ w0.cell? ⟨xa, 1, none⟩ = some (.int .u64 z0.x1) ∧ w0.cell? ⟨xa, 2, none⟩ = some (.int .u64 z0.x2) ∧ w0.cell? ⟨xa, 3, none⟩ = some (.int .u64 z0.x3) := hSw; have a0 := hS.1; have a1 := hS.2.1; have a2 := hS.2.2.1; have a3 := hS.2.2.2; clear hS hSw; go_simp)
 simp only [en5o_2, oO, Act.put, sA, sB, sC]
 refine ar [1, 3] ?_
 refine ac en5o_1 (fun K hK => ?_) (ac en5o_3 (fun K hK => ?_) AllReadyH.nil)
 ·unfold en5o_1 oO
  have HH := Hn hH0
  clear hH0
  refine wp_ldSl _ rfl b 3 s.p s.n s.c rfl CB.out ?_
  simp only [Act.put, sA, sB, sC]
  have SN := HH
  clear HH
  refine hK.out _ _ SN.out (fun hH1 => ?_)
  clear hK K SN
  refine ar [3] ?_
  refine ac en5o_3 (fun K hK => ?_) AllReadyH.nil
  unfold en5o_3 oO
  have HH := Hn hH1
  clear hH1
  go_simp
  refine (CM.out _ BB.out).mono ?_
  rintro e wn2 ⟨rfl, hb⟩
  have SN := Hn (And.intro (cell_keep HH.out.1 hb) (And.intro (cell_keep HH.out.2.1 hb) (And.intro (cell_keep HH.out.2.2.1 hb) (cell_keep HH.out.2.2.2 hb))))
  replace BB := Hn (bl_trans BB.out hb)
  clear HH CM hb
  go_wp2_with fail
  refine hK.out _ _ SN.out (fun hH2 => ?_)
  clear hK K SN
  refine ar [4] ?_
  refine ac en5o_4 (fun K hK => ?_) AllReadyH.nil
  unfold en5o_4 oO
  have HH := Hn hH2
  clear hH2
  refine wp_bs1 _ rfl z rfl (fun tb wn3 hbb hrg => ?_)
  have SN := Hn (And.intro (cell_keep HH.out.1 hbb) (And.intro (cell_keep HH.out.2.1 hbb) (And.intro (cell_keep HH.out.2.2.1 hbb) (cell_keep HH.out.2.2.2 hbb))))
  replace BB := Hn (bl_trans BB.out hbb)
  have RG := Hn (hrg)
  clear HH hbb hrg
  simp only [Act.put, sA, sB, sC]
  refine hK.out _ _ SN.out (fun hH3 => ?_)
  clear hK K SN
  refine ar [5] ?_
  refine ac en5o_5 (fun K hK => ?_) AllReadyH.nil
  unfold en5o_5 oO
  have HH := Hn hH3
  clear hH3
  refine wp_apS s (RO.out.keep BB.out) _ _ rfl rfl tb rfl z RG.out (fun p' c' wn4 ho hg hk => ?_)
  have SN := Hn (And.intro (hg.cell HH.out.1 (fun e9 => n0.out e9.symm)) (And.intro (hg.cell HH.out.2.1 (fun e9 => n0.out e9.symm)) (And.intro (hg.cell HH.out.2.2.1 (fun e9 => n0.out e9.symm)) (hg.cell HH.out.2.2.2 (fun e9 => n0.out e9.symm)))))
  have W1 := Hn (hg)
  have OW := Hn (ho)
  have HK := Hn ((fun k hk1 => (hk k hk1).imp id (fun h9 => Nat.le_trans BB.out.size h9)))
  clear HH ho hg hk RG
  simp only [Act.put, sA, sB, sC]
  refine hK.out _ _ SN.out (fun hH4 => ?_)
  clear hK K SN
  refine tj 6 en5o_6 (.pointer (some ⟨b, 3, none⟩)) hH4 (fun w0 hSw => ?_) ?_
  ·(unfold en5o_6 oO; clear hSw; go_simp)
  simp only [en5o_6, oO, Act.put, sA, sB, sC]
  refine ar [7] ?_
  refine ac en5o_7 (fun K hK => ?_) AllReadyH.nil
  unfold en5o_7 oN
  have HH := Hn hH4
  clear hH4
  refine wp_storeV 41 _ _ rfl b 3 p' (s.n + 1) c' (by rfl) (by rfl) (there_gbO (there_bl th BB.out) W1.out (fun e9 => nb.out e9.symm)) i1_S rfl (fun wn5 hw => ?_)
  have SN := Hn (And.intro ((gb_setCells b [.slice p' (s.n + 1) c'] 3 _).cell HH.out.1 (fun e9 => m0.out (Option.some.inj e9))) (And.intro ((gb_setCells b [.slice p' (s.n + 1) c'] 3 _).cell HH.out.2.1 (fun e9 => m0.out (Option.some.inj e9))) (And.intro ((gb_setCells b [.slice p' (s.n + 1) c'] 3 _).cell HH.out.2.2.1 (fun e9 => m0.out (Option.some.inj e9))) ((gb_setCells b [.slice p' (s.n + 1) c'] 3 _).cell HH.out.2.2.2 (fun e9 => m0.out (Option.some.inj e9))))))
  have FE := Hn ((⟨_, _, BB.out, W1.out, OW.out, HK.out, hw⟩ : ApR W _ b 3 s z p' c'))
  rw [← hw] at SN
  clear HH hw
  refine hK.out _ _ SN.out (fun hH5 => ?_)
  clear hK K SN
  have HH := Hn hH5
  have FQ := Hn (HQ.out _ tb p' c' FE.out)
  refine wpAnyH_done (by kernel_rfl) ?_ _
  refine NoPanic.normal ?_
  exact FQ.out
 ·unfold en5o_3 oO
  have HH := Hn hH0
  clear hH0
  go_simp
  refine (CM.out _ BB.out).mono ?_
  rintro e wn1 ⟨rfl, hb⟩
  have SN := Hn (And.intro (cell_keep HH.out.1 hb) (And.intro (cell_keep HH.out.2.1 hb) (And.intro (cell_keep HH.out.2.2.1 hb) (cell_keep HH.out.2.2.2 hb))))
  replace BB := Hn (bl_trans BB.out hb)
  replace CB := Hn (cell_keep CB.out hb)
  clear HH CM hb
  go_wp2_with fail
  refine hK.out _ _ SN.out (fun hH1 => ?_)
  clear hK K SN
  refine ar [1, 4] ?_
  refine ac en5o_1 (fun K hK => ?_) (ac en5o_4 (fun K hK => ?_) AllReadyH.nil)
  ·unfold en5o_1 oO
   have HH := Hn hH1
   clear hH1
   refine wp_ldSl _ rfl b 3 s.p s.n s.c rfl CB.out ?_
   simp only [Act.put, sA, sB, sC]
   have SN := HH
   clear HH
   refine hK.out _ _ SN.out (fun hH2 => ?_)
   clear hK K SN
   refine ar [4] ?_
   refine ac en5o_4 (fun K hK => ?_) AllReadyH.nil
   unfold en5o_4 oO
   have HH := Hn hH2
   clear hH2
   refine wp_bs1 _ rfl z rfl (fun tb wn3 hbb hrg => ?_)
   have SN := Hn (And.intro (cell_keep HH.out.1 hbb) (And.intro (cell_keep HH.out.2.1 hbb) (And.intro (cell_keep HH.out.2.2.1 hbb) (cell_keep HH.out.2.2.2 hbb))))
   replace BB := Hn (bl_trans BB.out hbb)
   have RG := Hn (hrg)
   clear HH hbb hrg
   simp only [Act.put, sA, sB, sC]
   refine hK.out _ _ SN.out (fun hH3 => ?_)
   clear hK K SN
   refine ar [5] ?_
   refine ac en5o_5 (fun K hK => ?_) AllReadyH.nil
   unfold en5o_5 oO
   have HH := Hn hH3
   clear hH3
   refine wp_apS s (RO.out.keep BB.out) _ _ rfl rfl tb rfl z RG.out (fun p' c' wn4 ho hg hk => ?_)
   have SN := Hn (And.intro (hg.cell HH.out.1 (fun e9 => n0.out e9.symm)) (And.intro (hg.cell HH.out.2.1 (fun e9 => n0.out e9.symm)) (And.intro (hg.cell HH.out.2.2.1 (fun e9 => n0.out e9.symm)) (hg.cell HH.out.2.2.2 (fun e9 => n0.out e9.symm)))))
   have W1 := Hn (hg)
   have OW := Hn (ho)
   have HK := Hn ((fun k hk1 => (hk k hk1).imp id (fun h9 => Nat.le_trans BB.out.size h9)))
   clear HH ho hg hk RG
   simp only [Act.put, sA, sB, sC]
   refine hK.out _ _ SN.out (fun hH4 => ?_)
   clear hK K SN
   refine tj 6 en5o_6 (.pointer (some ⟨b, 3, none⟩)) hH4 (fun w0 hSw => ?_) ?_
   ·(unfold en5o_6 oO; clear hSw; go_simp)
   simp only [en5o_6, oO, Act.put, sA, sB, sC]
   refine ar [7] ?_
   refine ac en5o_7 (fun K hK => ?_) AllReadyH.nil
   unfold en5o_7 oN
   have HH := Hn hH4
   clear hH4
   refine wp_storeV 41 _ _ rfl b 3 p' (s.n + 1) c' (by rfl) (by rfl) (there_gbO (there_bl th BB.out) W1.out (fun e9 => nb.out e9.symm)) i1_S rfl (fun wn5 hw => ?_)
   have SN := Hn (And.intro ((gb_setCells b [.slice p' (s.n + 1) c'] 3 _).cell HH.out.1 (fun e9 => m0.out (Option.some.inj e9))) (And.intro ((gb_setCells b [.slice p' (s.n + 1) c'] 3 _).cell HH.out.2.1 (fun e9 => m0.out (Option.some.inj e9))) (And.intro ((gb_setCells b [.slice p' (s.n + 1) c'] 3 _).cell HH.out.2.2.1 (fun e9 => m0.out (Option.some.inj e9))) ((gb_setCells b [.slice p' (s.n + 1) c'] 3 _).cell HH.out.2.2.2 (fun e9 => m0.out (Option.some.inj e9))))))
   have FE := Hn ((⟨_, _, BB.out, W1.out, OW.out, HK.out, hw⟩ : ApR W _ b 3 s z p' c'))
   rw [← hw] at SN
   clear HH hw
   refine hK.out _ _ SN.out (fun hH5 => ?_)
   clear hK K SN
   have HH := Hn hH5
   have FQ := Hn (HQ.out _ tb p' c' FE.out)
   refine wpAnyH_done (by kernel_rfl) ?_ _
   refine NoPanic.normal ?_
   exact FQ.out
  ·unfold en5o_4 oO
   have HH := Hn hH1
   clear hH1
   refine wp_bs1 _ rfl z rfl (fun tb wn2 hbb hrg => ?_)
   have SN := Hn (And.intro (cell_keep HH.out.1 hbb) (And.intro (cell_keep HH.out.2.1 hbb) (And.intro (cell_keep HH.out.2.2.1 hbb) (cell_keep HH.out.2.2.2 hbb))))
   replace BB := Hn (bl_trans BB.out hbb)
   have RG := Hn (hrg)
   replace CB := Hn (cell_keep CB.out hbb)
   clear HH hbb hrg
   simp only [Act.put, sA, sB, sC]
   refine hK.out _ _ SN.out (fun hH2 => ?_)
   clear hK K SN
   refine ar [1] ?_
   refine ac en5o_1 (fun K hK => ?_) AllReadyH.nil
   unfold en5o_1 oO
   have HH := Hn hH2
   clear hH2
   refine wp_ldSl _ rfl b 3 s.p s.n s.c rfl CB.out ?_
   simp only [Act.put, sA, sB, sC]
   have SN := HH
   clear HH
   refine hK.out _ _ SN.out (fun hH3 => ?_)
   clear hK K SN
   refine ar [5] ?_
   refine ac en5o_5 (fun K hK => ?_) AllReadyH.nil
   unfold en5o_5 oO
   have HH := Hn hH3
   clear hH3
   refine wp_apS s (RO.out.keep BB.out) _ _ rfl rfl tb rfl z RG.out (fun p' c' wn4 ho hg hk => ?_)
   have SN := Hn (And.intro (hg.cell HH.out.1 (fun e9 => n0.out e9.symm)) (And.intro (hg.cell HH.out.2.1 (fun e9 => n0.out e9.symm)) (And.intro (hg.cell HH.out.2.2.1 (fun e9 => n0.out e9.symm)) (hg.cell HH.out.2.2.2 (fun e9 => n0.out e9.symm)))))
   have W1 := Hn (hg)
   have OW := Hn (ho)
   have HK := Hn ((fun k hk1 => (hk k hk1).imp id (fun h9 => Nat.le_trans BB.out.size h9)))
   clear HH ho hg hk RG
   simp only [Act.put, sA, sB, sC]
   refine hK.out _ _ SN.out (fun hH4 => ?_)
   clear hK K SN
   refine tj 6 en5o_6 (.pointer (some ⟨b, 3, none⟩)) hH4 (fun w0 hSw => ?_) ?_
   ·(unfold en5o_6 oO; clear hSw; go_simp)
   simp only [en5o_6, oO, Act.put, sA, sB, sC]
   refine ar [7] ?_
   refine ac en5o_7 (fun K hK => ?_) AllReadyH.nil
   unfold en5o_7 oN
   have HH := Hn hH4
   clear hH4
   refine wp_storeV 41 _ _ rfl b 3 p' (s.n + 1) c' (by rfl) (by rfl) (there_gbO (there_bl th BB.out) W1.out (fun e9 => nb.out e9.symm)) i1_S rfl (fun wn5 hw => ?_)
   have SN := Hn (And.intro ((gb_setCells b [.slice p' (s.n + 1) c'] 3 _).cell HH.out.1 (fun e9 => m0.out (Option.some.inj e9))) (And.intro ((gb_setCells b [.slice p' (s.n + 1) c'] 3 _).cell HH.out.2.1 (fun e9 => m0.out (Option.some.inj e9))) (And.intro ((gb_setCells b [.slice p' (s.n + 1) c'] 3 _).cell HH.out.2.2.1 (fun e9 => m0.out (Option.some.inj e9))) ((gb_setCells b [.slice p' (s.n + 1) c'] 3 _).cell HH.out.2.2.2 (fun e9 => m0.out (Option.some.inj e9))))))
   have FE := Hn ((⟨_, _, BB.out, W1.out, OW.out, HK.out, hw⟩ : ApR W _ b 3 s z p' c'))
   rw [← hw] at SN
   clear HH hw
   refine hK.out _ _ SN.out (fun hH5 => ?_)
   clear hK K SN
   have HH := Hn hH5
   have FQ := Hn (HQ.out _ tb p' c' FE.out)
   refine wpAnyH_done (by kernel_rfl) ?_ _
   refine NoPanic.normal ?_
   exact FQ.out
end Ci
end Go.Proofs.YtljmgfclhbadjaaGreatDoor
