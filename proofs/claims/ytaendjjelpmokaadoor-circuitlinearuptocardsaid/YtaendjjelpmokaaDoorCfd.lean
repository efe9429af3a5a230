import Derived.Test.YtaendjjelpmokaaDoorCex
import Derived.Test.YtaendjjelpmokaaDoorCey
import Derived.Test.YtaendjjelpmokaaDoorCez
import Derived.Test.YtaendjjelpmokaaDoorCfz
namespace Go.Proofs.YtaendjjelpmokaaDoor
open Go.RowKit
set_option linter.unusedVariables false
set_option linter.unusedSimpArgs false
open Cm (Wr Tm co bf Ls lf ins Eqm)
namespace Ci
set_option maxRecDepth 100000
structure Le (w w9 y : World) (t m K : Nat) (Q : List (List Tm)) (ab : Nat) (a b c d : Sl) (k : E4) (pd : Option Addr) (D : List Tm) : Prop where
 bel : Below w.heap.size w y
 ts : Ts w9 t m K Q y
 ac : y.cell? ⟨ab, 0, none⟩ = some (.slice a.p a.n a.c) ∧ y.cell? ⟨ab, 1, none⟩ = some (.slice b.p b.n b.c) ∧ y.cell? ⟨ab, 2, none⟩ = some (.slice c.p c.n c.c) ∧ y.cell? ⟨ab, 3, none⟩ = some (.slice d.p d.n d.c)
 aa : a.at y ∧ b.at y ∧ c.at y ∧ d.at y
 kk : y.cell? ⟨w.heap.size, 0, none⟩ = some (.int .u64 k.x0) ∧ y.cell? ⟨w.heap.size, 1, none⟩ = some (.int .u64 k.x1) ∧ y.cell? ⟨w.heap.size, 2, none⟩ = some (.int .u64 k.x2) ∧ y.cell? ⟨w.heap.size, 3, none⟩ = some (.int .u64 k.x3)
 ld : Lt y pd D.length (ft D)
theorem Le.keep {w w9 y y' : World} {t m K : Nat} {Q : List (List Tm)} {ab : Nat} {a b c d : Sl} {k : E4} {pd : Option Addr} {D : List Tm} (h : Le w w9 y t m K Q ab a b c d k pd D) (hb : Below y.heap.size y y') : Le w w9 y' t m K Q ab a b c d k pd D :=
 ⟨bl_trans h.bel hb, h.ts.keep hb, ⟨cell_keep h.ac.1 hb, cell_keep h.ac.2.1 hb, cell_keep h.ac.2.2.1 hb, cell_keep h.ac.2.2.2 hb⟩, ⟨h.aa.1.keep hb, h.aa.2.1.keep hb, h.aa.2.2.1.keep hb, h.aa.2.2.2.keep hb⟩, ⟨cell_keep h.kk.1 hb, cell_keep h.kk.2.1 hb, cell_keep h.kk.2.2.1 hb, cell_keep h.kk.2.2.2 hb⟩, h.ld.keep hb⟩
def Bz (y : World) (b : Nat) (z : E4) : Prop := y.cell? ⟨b, 0, none⟩ = some (.int .u64 z.x0) ∧ y.cell? ⟨b, 1, none⟩ = some (.int .u64 z.x1) ∧ y.cell? ⟨b, 2, none⟩ = some (.int .u64 z.x2) ∧ y.cell? ⟨b, 3, none⟩ = some (.int .u64 z.x3)
theorem Bz.keep {y y' : World} {b : Nat} {z : E4} (h : Bz y b z) (hb : Below y.heap.size y y') : Bz y' b z := ⟨cell_keep h.1 hb, cell_keep h.2.1 hb, cell_keep h.2.2.1 hb, cell_keep h.2.2.2 hb⟩
theorem Bz.new (y : World) (z : E4) : Bz (y.alloc (.cells #[.int .u64 z.x0, .int .u64 z.x1, .int .u64 z.x2, .int .u64 z.x3] 27)) y.heap.size z := ⟨by go_simp, by go_simp, by go_simp, by go_simp⟩
theorem Bz.of {y : World} {b : Nat} {z : E4} (h : y.rangeAt b 0 [.int .u64 z.x0, .int .u64 z.x1, .int .u64 z.x2, .int .u64 z.x3]) : Bz y b z := ⟨by simpa using h 0 _ rfl, by simpa using h 1 _ rfl, by simpa using h 2 _ rfl, by simpa using h 3 _ rfl⟩
theorem len_L {X : List Tm} {q : Nat} (h : X.length ≤ q) : (lf Sm.L X).length ≤ q := Nat.le_trans (lf_len_le X) h
set_option maxHeartbeats 16000000 in
theorem linear_any (i : Int) (S : Option Addr) (ns cs : Nat) (sg : Nat → Stp) (P Q : Option Addr) (n m ca cb : Nat) (f g : Nat → Trm) (k : E4) (l : Sl) (w : World) (hT : Tb w) (i0 : -9223372036854775808 ≤ i) (i1 : i ≤ 9223372036854775807) (hns : ns ≤ 1048576) (hS : Scl w S ns sg) (hn : n ≤ 1048576) (hm : m ≤ 1048576) (hf : ∀ k, k < n → (f k).a.ok) (hg : ∀ k, k < m → (g k).a.ok) (hk : k.ok) (hL : Lt w P n f) (hL2 : Lt w Q m g) (hl : l.at w) (hln : l.n ≤ 1048576) :
  Calls Tryd.prog 3 #[.int .i64 i, .slice S ns cs, .slice P n ca, .slice Q m cb, .agg #[.int .u64 k.x0, .int .u64 k.x1, .int .u64 k.x2, .int .u64 k.x3], .slice l.p l.n l.c] w fun e w' => e = .returned (.bool true) ∧ Below w.heap.size w w' := by
 have HT := hidden hT
 have HN := hidden (And.intro hn hm)
 have HF := hidden hf
 have HG := hidden hg
 have HK := hidden hk
 have HL := hidden hL
 have HL2 := hidden hL2
 have HLL := hidden (And.intro hl hln)
 have HSC := hidden hS
 have BA := hidden (bl_alloc w (.cells #[.int .u64 k.x0, .int .u64 k.x1, .int .u64 k.x2, .int .u64 k.x3] 27))
 have SB : Hid (∀ y, Below w.heap.size w y → _) := hidden (fun y hb => w_sub (P := P) (Q := Q) (n := n) (m := m) (ca := ca) (cb := cb) (f := f) (g := g) (hT.keep hb) (by omega) hf hg (hL.keep hb) (hL2.keep hb))
 have LV : Hid (∀ y, Below w.heap.size w y → _) := hidden (fun y hb => live_any y (hT.keep hb))
 have MK : Hid (∀ y, Below w.heap.size w y → _) := hidden (fun y hb => makes_tell i S ns cs sg y (hT.keep hb) i0 i1 hns (hS.keep hb))
 clear hT hn hm hf hg hk hL hL2 hl hln hS i0 i1 hns
 go_enter Tryd.func3, Tryd.ntmps3
 go_upto_region 1 with fail
 have q0 : (w.alloc (.cells #[.int .u64 k.x0, .int .u64 k.x1, .int .u64 k.x2, .int .u64 k.x3] 27)).cell? ⟨w.heap.size, 0, none⟩ = some (.int .u64 k.x0) := by go_simp
 have q1 : (w.alloc (.cells #[.int .u64 k.x0, .int .u64 k.x1, .int .u64 k.x2, .int .u64 k.x3] 27)).cell? ⟨w.heap.size, 1, none⟩ = some (.int .u64 k.x1) := by go_simp
 have q2 : (w.alloc (.cells #[.int .u64 k.x0, .int .u64 k.x1, .int .u64 k.x2, .int .u64 k.x3] 27)).cell? ⟨w.heap.size, 2, none⟩ = some (.int .u64 k.x2) := by go_simp
 have q3 : (w.alloc (.cells #[.int .u64 k.x0, .int .u64 k.x1, .int .u64 k.x2, .int .u64 k.x3] 27)).cell? ⟨w.heap.size, 3, none⟩ = some (.int .u64 k.x3) := by go_simp
 have KK := hidden (And.intro q0 (And.intro q1 (And.intro q2 q3)))
 clear q0 q1 q2 q3
 generalize (w.alloc (.cells #[.int .u64 k.x0, .int .u64 k.x1, .int .u64 k.x2, .int .u64 k.x3] 27)) = w1 at *
 go_upto_region 6 with (first | (have _t := LV; go_at_call 4; refine (LV.out _ BA.out).mono ?_; rintro e w2 ⟨rfl, hb⟩; have B2 := hidden hb; clear hb LV) | (have _t := MK; go_at_call 5; refine (MK.out _ (bl_trans BA.out B2.out)).mono ?_; rintro e w3 ⟨t, vm, vK, VQ, rfl, hts⟩; have TS := hidden hts; clear hts MK))
 have B3 := hidden (bl_trans (bl_trans BA.out B2.out) TS.out.1.bl)
 have FT := hidden (fitted_any l w3 (HT.out.keep B3.out) TS.out.1 (by have := TS.out.2; omega) (HLL.out.1.keep B3.out) HLL.out.2)
 simp only [Sl.v] at FT
 go_upto_region 7 with (go_at_call 6; refine FT.out.mono ?_; rintro e w4 ⟨a, b, c, d, rfl, hat, hhi, hnn, hb4⟩; have AT := hidden (And.intro hat (And.intro hhi hnn)); have B4 := hidden hb4; clear hat hhi hnn hb4 FT)
 have BQ := hidden (bl_trans B4.out (bl_alloc w4 (.cells #[.slice a.p a.n a.c, .slice b.p b.n b.c, .slice c.p c.n c.c, .slice d.p d.n d.c] 33)))
 have a0 : (w4.alloc (.cells #[.slice a.p a.n a.c, .slice b.p b.n b.c, .slice c.p c.n c.c, .slice d.p d.n d.c] 33)).cell? ⟨w4.heap.size, 0, none⟩ = some (.slice a.p a.n a.c) := by go_simp
 have a1 : (w4.alloc (.cells #[.slice a.p a.n a.c, .slice b.p b.n b.c, .slice c.p c.n c.c, .slice d.p d.n d.c] 33)).cell? ⟨w4.heap.size, 1, none⟩ = some (.slice b.p b.n b.c) := by go_simp
 have a2 : (w4.alloc (.cells #[.slice a.p a.n a.c, .slice b.p b.n b.c, .slice c.p c.n c.c, .slice d.p d.n d.c] 33)).cell? ⟨w4.heap.size, 2, none⟩ = some (.slice c.p c.n c.c) := by go_simp
 have a3 : (w4.alloc (.cells #[.slice a.p a.n a.c, .slice b.p b.n b.c, .slice c.p c.n c.c, .slice d.p d.n d.c] 33)).cell? ⟨w4.heap.size, 3, none⟩ = some (.slice d.p d.n d.c) := by go_simp
 have AC := hidden (And.intro a0 (And.intro a1 (And.intro a2 a3)))
 have AA := hidden (And.intro (AT.out.1.1.keep (bl_alloc w4 (.cells #[.slice a.p a.n a.c, .slice b.p b.n b.c, .slice c.p c.n c.c, .slice d.p d.n d.c] 33))) (And.intro (AT.out.1.2.1.keep (bl_alloc w4 (.cells #[.slice a.p a.n a.c, .slice b.p b.n b.c, .slice c.p c.n c.c, .slice d.p d.n d.c] 33))) (And.intro (AT.out.1.2.2.1.keep (bl_alloc w4 (.cells #[.slice a.p a.n a.c, .slice b.p b.n b.c, .slice c.p c.n c.c, .slice d.p d.n d.c] 33))) (AT.out.1.2.2.2.keep (bl_alloc w4 (.cells #[.slice a.p a.n a.c, .slice b.p b.n b.c, .slice c.p c.n c.c, .slice d.p d.n d.c] 33))))))
 have NN := hidden AT.out.2.2
 have T5 := hidden (TS.out.1.keep BQ.out)
 have VM := hidden TS.out.2
 have B5 := hidden (bl_trans B3.out BQ.out)
 have K5 := hidden (And.intro (cell_keep KK.out.1 (bl_trans B2.out (bl_trans TS.out.1.bl BQ.out))) (And.intro (cell_keep KK.out.2.1 (bl_trans B2.out (bl_trans TS.out.1.bl BQ.out))) (And.intro (cell_keep KK.out.2.2.1 (bl_trans B2.out (bl_trans TS.out.1.bl BQ.out))) (cell_keep KK.out.2.2.2 (bl_trans B2.out (bl_trans TS.out.1.bl BQ.out))))))
 clear a0 a1 a2 a3 AT TS KK BQ B4 B3 B2
 generalize (w4.alloc (.cells #[.slice a.p a.n a.c, .slice b.p b.n b.c, .slice c.p c.n c.c, .slice d.p d.n d.c] 33)) = w5 at *
 generalize w4.heap.size = ab at *
 go_upto_region 8 with (go_at_call 7; refine (SB.out _ B5.out).mono ?_; rintro e w6 ⟨pd, cd, rfl, hl6, hb6⟩; have LD := hidden hl6; have B6 := hidden hb6; clear hl6 hb6 SB)
 have LE := hidden (Le.mk (bl_trans B5.out B6.out) (T5.out.keep B6.out) ⟨cell_keep AC.out.1 B6.out, cell_keep AC.out.2.1 B6.out, cell_keep AC.out.2.2.1 B6.out, cell_keep AC.out.2.2.2 B6.out⟩ ⟨AA.out.1.keep B6.out, AA.out.2.1.keep B6.out, AA.out.2.2.1.keep B6.out, AA.out.2.2.2.keep B6.out⟩ ⟨cell_keep K5.out.1 B6.out, cell_keep K5.out.2.1 B6.out, cell_keep K5.out.2.2.1 B6.out, cell_keep K5.out.2.2.2 B6.out⟩ LD.out)
 clear B5 B6 T5 AC AA K5 LD
 have l1 : (lf Sm.L (glL n f)).length ≤ 1048576 := len_L (by rw [glL_l]; exact HN.out.1)
 have l2 : (lf Sm.L (glL m g)).length ≤ 1048576 := len_L (by rw [glL_l]; exact HN.out.2)
 have l3 : (lf Sm.L (glL n f ++ glN m g)).length ≤ 2097152 := len_L (by rw [List.length_append, glL_l, glN_l]; have := HN.out; omega)
 have l4 : (lf Sm.L (glL n f ++ glL m g)).length ≤ 2097152 := len_L (by rw [List.length_append, glL_l, glL_l]; have := HN.out; omega)
 have l5 : (lf Sm.L (glM k n f)).length ≤ 1048576 := len_L (by rw [glM_l]; exact HN.out.1)
 have l6 : (lf Sm.L (glL (lf Sm.L (glL n f ++ glN m g)).length (ft (lf Sm.L (glL n f ++ glN m g))) ++ glL m g)).length ≤ 3145728 := len_L (by rw [List.length_append, glL_l, glL_l]; have := HN.out; omega)
 have l7 : (lf Sm.L (glL (lf Sm.L (glM k n f)).length (ft (lf Sm.L (glM k n f))))).length ≤ 1048576 := len_L (by rw [glL_l]; exact l5)
 have HY : Hid (∀ y, Below w6.heap.size w6 y → Tb y ∧ Lt y P n f ∧ Lt y Q m g ∧ Lt y pd (lf Sm.L (glL n f ++ glN m g)).length (ft (lf Sm.L (glL n f ++ glN m g)))) := hidden (fun y hb => ⟨HT.out.keep (bl_trans LE.out.bel hb), HL.out.keep (bl_trans LE.out.bel hb), HL2.out.keep (bl_trans LE.out.bel hb), LE.out.ld.keep hb⟩)
 refine ll8 _ w.heap.size (lf Sm.L (glL n f ++ glN m g)).length cd pd k (.slice P n ca) (.slice Q m cb) (lf Sm.L (glL n f)) (lf Sm.L (glL m g)) (lf Sm.L (glL n f ++ glL m g)) (lf Sm.L (glL m g ++ glL n f)) (lf Sm.L (glL (lf Sm.L (glL n f ++ glN m g)).length (ft (lf Sm.L (glL n f ++ glN m g))) ++ glL m g)) (lf Sm.L (glM k n f)) (lf Sm.L (glL (lf Sm.L (glM k n f)).length (ft (lf Sm.L (glM k n f))))) (lf Sm.L (glM k (lf Sm.L (glL n f)).length (ft (lf Sm.L (glL n f))))) _ _ _ _ _ _ _ _ _ _ _ _ _ _ _ _ _ _ _ _ _ _ _ _ _ _ _ _ _ _ _ _ _ _ _ _ _ _ _ _ _ _ _ _ _ _ _ _ _ _ _ _ _ _ _ _ _ _ _ _ _ _ _ _ _ _ _ _ _ _ _ _ _ _ _ _ _ _ _ _ _ _ _ _ _ _ _ _ _ _ _ _ _ _ _ _ _ _ _ _ _ _ _ _ _ _ _ _ _ _ _ _ _ _ _ _ _ _ _ _ _ _ _ _ _ _ _ _ _ _ _ _ _ _ _ _ _ _ _ _ _ _ _ _ _ _ _ _ _ _ _ _ _ _ _ _ _ _ _ _ _ _ _ _ _ _ _ _ _ _ _ _ _ _ _ _ _ _ _ _ _ _ _ _ _ _ _ _ _ _ _ _ _ _ _ _ _ _ _ _ _ _ _ _ _ _ _ _ _ _ _ _ _ _ _ _ _ _ _ _ _ _ _ _ _ _ _ _ _ _ _ _ _ _ _ _ _ _ _ _ _ _ _ _ _ _ _ _ _ _ _ _ _ _ _ _ _ _ _ _ _ _ _ w6 LE.out.kk.1 LE.out.kk.2.1 LE.out.kk.2.2.1 LE.out.kk.2.2.2
  (hidden fun y hb => w_least (HY.out y hb).1 (by have := HN.out; omega) HF.out (HY.out y hb).2.1)
  (hidden fun y hb => w_least (HY.out y hb).1 (by have := HN.out; omega) HG.out (HY.out y hb).2.2.1)
  (hidden fun y hb => w_add (HY.out y hb).1 (by have := HN.out; omega) HF.out HG.out (HY.out y hb).2.1 (HY.out y hb).2.2.1)
  (hidden fun y hb => w_add (HY.out y hb).1 (by have := HN.out; omega) HG.out HF.out (HY.out y hb).2.2.1 (HY.out y hb).2.1)
  (hidden fun y hb => w_add (HY.out y hb).1 (by have := HN.out; omega) (fun k hk => lst_ok _) HG.out (HY.out y hb).2.2.2 (HY.out y hb).2.2.1)
  (hidden fun y hb => w_times (HY.out y hb).1 (by have := HN.out; omega) HK.out HF.out (HY.out y hb).2.1)
  (hidden fun p0 c0 y hb hl => w_least (HY.out y hb).1 (by omega) (fun k hk => lst_ok _) hl)
  (hidden fun p0 c0 y hb hl => w_times (HY.out y hb).1 (by omega) HK.out (fun k hk => lst_ok _) hl)
  (hidden fun y hb => w_zero (HY.out y hb).1 (by have := HN.out; omega) HF.out (HY.out y hb).2.1)
  (hidden fun p0 q0 c0 d0 y hb h1 h2 => m8_1 ▸ equal_any p0 q0 c0 d0 _ _ y (by omega) h1 h2)
  (hidden fun p0 q0 c0 d0 y hb h1 h2 => m8_2 ▸ equal_any p0 q0 c0 d0 _ _ y (by omega) h1 h2)
  (hidden fun p0 q0 c0 d0 y hb h1 h2 => m8_3 ▸ equal_any p0 q0 c0 d0 _ _ y (by omega) h1 h2)
  (hidden fun p0 q0 c0 d0 y hb h1 h2 => m8_4 ▸ equal_any p0 q0 c0 d0 _ _ y (by omega) h1 h2) (hidden ?_)
 intro w7 _ _ _ _ _ _ _ _ _ _ _ _ _ _ _ _ _ _ _ _ _ _ hb7
 have LE7 := hidden (LE.out.keep hb7)
 clear LE HY hb7
 have EX : Hid (∀ y, Below w7.heap.size w7 y → _) := hidden (fun y hb => tsEval (LE7.out.keep hb).ts (HT.out.keep (LE7.out.keep hb).bel) (LE7.out.keep hb).aa NN.out (P := P) (n := n) (e0 := ca) (f := f) (by have := HN.out; omega) HF.out (HL.out.keep (LE7.out.keep hb).bel))
 have EY : Hid (∀ y, Below w7.heap.size w7 y → _) := hidden (fun y hb => tsEval (LE7.out.keep hb).ts (HT.out.keep (LE7.out.keep hb).bel) (LE7.out.keep hb).aa NN.out (P := Q) (n := m) (e0 := cb) (f := g) (by have := HN.out; omega) HG.out (HL2.out.keep (LE7.out.keep hb).bel))
 have A7 := hidden LE7.out.ac
 have a70 := LE7.out.ac.1
 have a71 := LE7.out.ac.2.1
 have a72 := LE7.out.ac.2.2.1
 have a73 := LE7.out.ac.2.2.2
 have zok := eS_ok (nms 0 a b c d) vm vK (glL n f)
 obtain ⟨zx, hzx⟩ : ∃ z, eS (nms 0 a b c d) vm vK (glL n f) = z := ⟨_, rfl⟩
 obtain ⟨zy, hzy⟩ : ∃ z, eS (nms 0 a b c d) vm vK (glL m g) = z := ⟨_, rfl⟩
 rw [hzx] at EX
 rw [hzy] at EY
 go_upto_region 11 with (go_at_call 12; refine (EX.out _ (Below.refl _ _)).mono ?_; rintro e w8 ⟨rfl, hb8⟩; have B8 := hidden hb8; clear hb8 EX)
 clear a70 a71 a72 a73 A7
 have B9 := hidden (bl_trans B8.out (bl_alloc w8 (.cells #[.int .u64 zx.x0, .int .u64 zx.x1, .int .u64 zx.x2, .int .u64 zx.x3] 27)))
 have X9 := hidden (Bz.new w8 zx)
 generalize (w8.alloc (.cells #[.int .u64 zx.x0, .int .u64 zx.x1, .int .u64 zx.x2, .int .u64 zx.x3] 27)) = w9 at *
 generalize w8.heap.size = b16 at *
 clear B8
 have a90 := (LE7.out.keep B9.out).ac.1
 have a91 := (LE7.out.keep B9.out).ac.2.1
 have a92 := (LE7.out.keep B9.out).ac.2.2.1
 have a93 := (LE7.out.keep B9.out).ac.2.2.2
 go_upto_region 12 with (go_at_call 12; refine (EY.out _ B9.out).mono ?_; rintro e w10 ⟨rfl, hb10⟩; have B10 := hidden hb10; clear hb10 EY)
 clear a90 a91 a92 a93
 have B11 := hidden (bl_trans B10.out (bl_alloc w10 (.cells #[.int .u64 zy.x0, .int .u64 zy.x1, .int .u64 zy.x2, .int .u64 zy.x3] 27)))
 have Y11 := hidden (Bz.new w10 zy)
 generalize (w10.alloc (.cells #[.int .u64 zy.x0, .int .u64 zy.x1, .int .u64 zy.x2, .int .u64 zy.x3] 27)) = w11 at *
 generalize w10.heap.size = b18 at *
 have X11 := hidden (X9.out.keep B11.out)
 have LE11 := hidden (LE7.out.keep (bl_trans B9.out B11.out))
 clear B10 B11 B9 X9 LE7
 have FIN : Hid (Below w.heap.size w w11) := hidden LE11.out.bel
 by_cases hX : eN vm vK (glL n f)
 case neg =>
  have eX := eE_1 hX
  clear hzx hzy zok
  rw [eX]
  by_cases hY : eN vm vK (glL m g)
  ·rw [eE_0 hY]
   go_wp2_with fail
   exact bodyPost_ret (v := .bool true) (by simp [results, Tryd.results3, go_sem]) rfl ⟨rfl, FIN.out⟩
  ·rw [eE_1 hY]
   go_wp2_with fail
   exact bodyPost_ret (v := .bool true) (by simp [results, Tryd.results3, go_sem]) rfl ⟨rfl, FIN.out⟩
 have eX := eE_0 hX
 by_cases hY : eN vm vK (glL m g)
 case neg =>
  rw [eX, eE_1 hY]
  clear hzx hzy zok
  go_wp2_with fail
  exact bodyPost_ret (v := .bool true) (by simp [results, Tryd.results3, go_sem]) rfl ⟨rfl, FIN.out⟩
 rw [eX, eE_0 hY]
 go_upto_region 14 with fail
 obtain ⟨zp, hzp⟩ : ∃ z, eS (nms 0 a b c d) vm vK (glL n f ++ glL m g) = z := ⟨_, rfl⟩
 refine le14 _ t ab a b c d zp (eE vm vK (glL n f ++ glL m g)) (.slice P n ca) (.slice Q m cb) (lf Sm.L (glL n f ++ glL m g)) _ _ _ _ _ _ _ _ _ _ _ _ _ _ _ _ _ _ _ _ _ _ _ _ _ _ _ _ _ _ _ _ _ _ _ _ _ _ _ _ _ _ _ _ _ _ _ _ _ _ _ _ _ _ _ _ _ _ _ _ _ _ _ _ _ _ _ _ _ _ _ _ _ _ _ _ _ _ _ _ _ _ _ _ _ _ _ _ _ _ _ _ _ _ _ _ _ _ _ _ _ _ _ _ _ _ _ _ _ _ _ _ _ _ _ _ _ _ _ _ _ _ _ _ _ _ _ _ _ _ _ _ _ _ _ _ _ _ _ _ _ _ _ _ _ _ _ _ _ _ _ _ _ _ _ _ _ _ _ _ _ _ _ _ _ _ _ _ _ _ _ _ _ _ _ _ _ _ _ _ _ _ _ _ _ _ _ _ _ _ _ _ _ _ _ _ _ _ _ _ _ _ _ _ _ _ _ _ _ _ _ _ _ _ _ _ _ _ _ _ _ _ _ _ _ _ _ _ _ _ _ _ _ _ _ _ _ _ _ _ _ _ _ _ _ _ _ _ _ _ _ _ _ _ _ _ _ _ _ _ _ _ _ w11 ⟨LE11.out.ac.1, LE11.out.ac.2.1, LE11.out.ac.2.2.1, LE11.out.ac.2.2.2, hidden (fun y hb => w_add (HT.out.keep (bl_trans LE11.out.bel hb)) (by have := HN.out; omega) HF.out HG.out (HL.out.keep (bl_trans LE11.out.bel hb)) (HL2.out.keep (bl_trans LE11.out.bel hb))), hidden (fun p0 c0 y hb hl => hzp ▸ tsEvalL (Y := glL n f ++ glL m g) (LE11.out.keep hb).ts (HT.out.keep (bl_trans LE11.out.bel hb)) (LE11.out.keep hb).aa NN.out (by omega) hl)⟩ (hidden ?_)
 intro w12 _ _ b20 hb hrb hfr
 have LE12 := hidden (LE11.out.keep hb)
 have Zb20 := hidden (Bz.of hfr)
 replace X11 := hidden (X11.out.keep hb)
 replace Y11 := hidden (Y11.out.keep hb)
 clear LE11 hb hrb hfr
 obtain ⟨zc, hzc⟩ : ∃ z, eS (nms 0 a b c d) vm vK (glL n f ++ glN m g) = z := ⟨_, rfl⟩
 have EZ := hidden (tsEvalL (Y := glL n f ++ glN m g) (e0 := cd) LE12.out.ts (HT.out.keep LE12.out.bel) LE12.out.aa NN.out (by omega) LE12.out.ld)
 rw [hzc] at EZ
 have a0 := LE12.out.ac.1
 have a1 := LE12.out.ac.2.1
 have a2 := LE12.out.ac.2.2.1
 have a3 := LE12.out.ac.2.2.2
 go_upto_region 16 with (go_at_call 12; refine EZ.out.mono ?_; rintro e w13 ⟨rfl, hb13⟩; have B13 := hidden hb13; clear hb13 EZ)
 clear a0 a1 a2 a3
 have B14 := hidden (bl_trans B13.out (bl_alloc w13 (.cells #[.int .u64 zc.x0, .int .u64 zc.x1, .int .u64 zc.x2, .int .u64 zc.x3] 27)))
 have Zb22 := hidden (Bz.new w13 zc)
 generalize (w13.alloc (.cells #[.int .u64 zc.x0, .int .u64 zc.x1, .int .u64 zc.x2, .int .u64 zc.x3] 27)) = w14 at *
 generalize w13.heap.size = b22 at *
 have LE14 := hidden (LE12.out.keep B14.out)
 replace X11 := hidden (X11.out.keep B14.out)
 replace Y11 := hidden (Y11.out.keep B14.out)
 replace Zb20 := hidden (Zb20.out.keep B14.out)
 clear B13 B14 LE12
 obtain ⟨zg, hzg⟩ : ∃ z, eS (nms 0 a b c d) vm vK (glM k n f) = z := ⟨_, rfl⟩
 refine le16 _ t ab a b c d zg (eE vm vK (glM k n f)) (.slice P n ca) w.heap.size k (lf Sm.L (glM k n f)) _ _ _ _ _ _ _ _ _ _ _ _ _ _ _ _ _ _ _ _ _ _ _ _ _ _ _ _ _ _ _ _ _ _ _ _ _ _ _ _ _ _ _ _ _ _ _ _ _ _ _ _ _ _ _ _ _ _ _ _ _ _ _ _ _ _ _ _ _ _ _ _ _ _ _ _ _ _ _ _ _ _ _ _ _ _ _ _ _ _ _ _ _ _ _ _ _ _ _ _ _ _ _ _ _ _ _ _ _ _ _ _ _ _ _ _ _ _ _ _ _ _ _ _ _ _ _ _ _ _ _ _ _ _ _ _ _ _ _ _ _ _ _ _ _ _ _ _ _ _ _ _ _ _ _ _ _ _ _ _ _ _ _ _ _ _ _ _ _ _ _ _ _ _ _ _ _ _ _ _ _ _ _ _ _ _ _ _ _ _ _ _ _ _ _ _ _ _ _ _ _ _ _ _ _ _ _ _ _ _ _ _ _ _ _ _ _ _ _ _ _ _ _ _ _ _ _ _ _ _ _ _ _ _ _ _ _ _ _ _ _ _ _ _ _ _ _ _ _ _ _ _ _ _ _ _ _ _ _ _ _ _ _ w14 ⟨LE14.out.ac.1, LE14.out.ac.2.1, LE14.out.ac.2.2.1, LE14.out.ac.2.2.2, LE14.out.kk.1, LE14.out.kk.2.1, LE14.out.kk.2.2.1, LE14.out.kk.2.2.2, hidden (fun y hb => w_times (HT.out.keep (bl_trans LE14.out.bel hb)) (by have := HN.out; omega) HK.out HF.out (HL.out.keep (bl_trans LE14.out.bel hb))), hidden (fun p0 c0 y hb hl => hzg ▸ tsEvalL (Y := glM k n f) (LE14.out.keep hb).ts (HT.out.keep (bl_trans LE14.out.bel hb)) (LE14.out.keep hb).aa NN.out (by omega) hl)⟩ (hidden ?_)
 intro w15 _ _ b24 hb hrb hfr
 have LE15 := hidden (LE14.out.keep hb)
 have Zb24 := hidden (Bz.of hfr)
 replace X11 := hidden (X11.out.keep hb)
 replace Y11 := hidden (Y11.out.keep hb)
 replace Zb20 := hidden (Zb20.out.keep hb)
 replace Zb22 := hidden (Zb22.out.keep hb)
 clear LE14 hb hrb hfr
 go_upto_region 17 with fail
 obtain ⟨zh, hzh⟩ : ∃ z, eS (nms 0 a b c d) vm vK (glL n f) = z := ⟨_, rfl⟩
 refine le17 _ t ab a b c d zh (eE vm vK (glL n f)) (.slice P n ca) (lf Sm.L (glL n f)) _ _ _ _ _ _ _ _ _ _ _ _ _ _ _ _ _ _ _ _ _ _ _ _ _ _ _ _ _ _ _ _ _ _ _ _ _ _ _ _ _ _ _ _ _ _ _ _ _ _ _ _ _ _ _ _ _ _ _ _ _ _ _ _ _ _ _ _ _ _ _ _ _ _ _ _ _ _ _ _ _ _ _ _ _ _ _ _ _ _ _ _ _ _ _ _ _ _ _ _ _ _ _ _ _ _ _ _ _ _ _ _ _ _ _ _ _ _ _ _ _ _ _ _ _ _ _ _ _ _ _ _ _ _ _ _ _ _ _ _ _ _ _ _ _ _ _ _ _ _ _ _ _ _ _ _ _ _ _ _ _ _ _ _ _ _ _ _ _ _ _ _ _ _ _ _ _ _ _ _ _ _ _ _ _ _ _ _ _ _ _ _ _ _ _ _ _ _ _ _ _ _ _ _ _ _ _ _ _ _ _ _ _ _ _ _ _ _ _ _ _ _ _ _ _ _ _ _ _ _ _ _ _ _ _ _ _ _ _ _ _ _ _ _ _ _ _ _ _ _ _ _ _ _ _ _ _ _ _ _ _ _ _ _ w15 ⟨LE15.out.ac.1, LE15.out.ac.2.1, LE15.out.ac.2.2.1, LE15.out.ac.2.2.2, hidden (fun y hb => w_least (HT.out.keep (bl_trans LE15.out.bel hb)) (by have := HN.out; omega) HF.out (HL.out.keep (bl_trans LE15.out.bel hb))), hidden (fun p0 c0 y hb hl => hzh ▸ tsEvalL (Y := glL n f) (LE15.out.keep hb).ts (HT.out.keep (bl_trans LE15.out.bel hb)) (LE15.out.keep hb).aa NN.out (by omega) hl)⟩ (hidden ?_)
 intro w16 _ _ b26 hb hrb hfr
 have LE16 := hidden (LE15.out.keep hb)
 have Zb26 := hidden (Bz.of hfr)
 replace X11 := hidden (X11.out.keep hb)
 replace Y11 := hidden (Y11.out.keep hb)
 replace Zb20 := hidden (Zb20.out.keep hb)
 replace Zb22 := hidden (Zb22.out.keep hb)
 replace Zb24 := hidden (Zb24.out.keep hb)
 clear LE15 hb hrb hfr
 go_upto_region 18 with fail
 obtain ⟨zi, hzi⟩ : ∃ z, eS (nms 0 a b c d) vm vK (glM k 1 oneT) = z := ⟨_, rfl⟩
 refine le18 _ t ab a b c d zi (eE vm vK (glM k 1 oneT)) w.heap.size k (lf Sm.L (glM k 1 oneT)) _ _ _ _ _ _ _ _ _ _ _ _ _ _ _ _ _ _ _ _ _ _ _ _ _ _ _ _ _ _ _ _ _ _ _ _ _ _ _ _ _ _ _ _ _ _ _ _ _ _ _ _ _ _ _ _ _ _ _ _ _ _ _ _ _ _ _ _ _ _ _ _ _ _ _ _ _ _ _ _ _ _ _ _ _ _ _ _ _ _ _ _ _ _ _ _ _ _ _ _ _ _ _ _ _ _ _ _ _ _ _ _ _ _ _ _ _ _ _ _ _ _ _ _ _ _ _ _ _ _ _ _ _ _ _ _ _ _ _ _ _ _ _ _ _ _ _ _ _ _ _ _ _ _ _ _ _ _ _ _ _ _ _ _ _ _ _ _ _ _ _ _ _ _ _ _ _ _ _ _ _ _ _ _ _ _ _ _ _ _ _ _ _ _ _ _ _ _ _ _ _ _ _ _ _ _ _ _ _ _ _ _ _ _ _ _ _ _ _ _ _ _ _ _ _ _ _ _ _ _ _ _ _ _ _ _ _ _ _ _ _ _ _ _ _ _ _ _ _ _ _ _ _ _ _ _ _ _ _ _ _ _ _ _ w16 ⟨LE16.out.ac.1, LE16.out.ac.2.1, LE16.out.ac.2.2.1, LE16.out.ac.2.2.2, LE16.out.kk.1, LE16.out.kk.2.1, LE16.out.kk.2.2.1, LE16.out.kk.2.2.2, hidden (fun y hb => w_const (HT.out.keep (bl_trans LE16.out.bel hb)) HK.out), hidden (fun p0 c0 y hb hl => hzi ▸ tsEvalL (Y := glM k 1 oneT) (LE16.out.keep hb).ts (HT.out.keep (bl_trans LE16.out.bel hb)) (LE16.out.keep hb).aa NN.out (by have := len_L (X := glM k 1 oneT) (q := 1) (by rw [glM_l]; exact Nat.le_refl 1); omega) hl)⟩ (hidden ?_)
 intro w17 _ _ b28 hb hrb hfr
 have LE17 := hidden (LE16.out.keep hb)
 have Zb28 := hidden (Bz.of hfr)
 replace X11 := hidden (X11.out.keep hb)
 replace Y11 := hidden (Y11.out.keep hb)
 replace Zb20 := hidden (Zb20.out.keep hb)
 replace Zb22 := hidden (Zb22.out.keep hb)
 replace Zb24 := hidden (Zb24.out.keep hb)
 replace Zb26 := hidden (Zb26.out.keep hb)
 clear LE16 hb hrb hfr
 go_upto_region 19 with fail
 have TY : Hid (∀ yy, Below w17.heap.size w17 yy → Tb yy) := hidden (fun yy hb => HT.out.keep (bl_trans LE17.out.bel hb))
 have ox : zx.ok := hzx ▸ eS_ok _ _ _ _
 have oy : zy.ok := hzy ▸ eS_ok _ _ _ _
 have op : zp.ok := hzp ▸ eS_ok _ _ _ _
 have oc : zc.ok := hzc ▸ eS_ok _ _ _ _
 have og : zg.ok := hzg ▸ eS_ok _ _ _ _
 have oh : zh.ok := hzh ▸ eS_ok _ _ _ _
 have oi : zi.ok := hzi ▸ eS_ok _ _ _ _
 have e1 : zp.n % Sm.L = (lst (zx.n + zy.n)).n % Sm.L := by rw [← hzp, ← hzx, ← hzy]; exact s_add hX hY
 have e2 : zc.n % Sm.L = (lst (zx.n - zy.n)).n % Sm.L := by rw [← hzc, ← hzx, ← hzy]; exact s_sub hX hY
 have e3 : zg.n % Sm.L = (lst (k.n * zx.n)).n % Sm.L := by rw [← hzg, ← hzx]; exact s_mul hX
 have e4 : zh.n % Sm.L = zx.n % Sm.L := by rw [← hzh, ← hzx]
 have e5 : zi.n % Sm.L = k.n % Sm.L := by rw [← hzi]; exact s_const
 refine ll19 _ b20 b16 b18 b22 b24 w.heap.size b26 b28 zp zx zy zc zg k zh zi (lst (zx.n + zy.n)) (lst (zx.n - zy.n)) (lst (k.n * zx.n)) _ _ _ _ _ _ _ _ _ _ _ _ _ _ _ _ _ _ _ _ _ _ _ _ _ _ _ _ _ _ _ _ _ _ _ _ _ _ _ _ _ _ _ _ _ _ _ _ _ _ _ _ _ _ _ _ _ _ _ _ _ _ _ _ _ _ _ _ _ _ _ _ _ _ _ _ _ _ _ _ _ _ _ _ _ _ _ _ _ _ _ _ _ _ _ _ _ _ _ _ _ _ _ _ _ _ _ _ _ _ _ _ _ _ _ _ _ _ _ _ _ _ _ _ _ _ _ _ _ _ _ _ _ _ _ _ _ _ _ _ _ _ _ _ _ _ _ _ _ _ _ _ _ _ _ _ _ _ _ _ _ _ _ _ _ _ _ _ _ _ _ _ _ _ _ _ _ _ _ _ _ _ _ _ _ _ _ _ _ _ _ _ _ _ _ _ _ _ _ _ _ _ _ _ _ _ _ _ _ _ _ _ _ _ _ _ _ _ _ _ _ _ _ _ _ _ _ _ _ _ _ _ _ _ _ _ _ _ _ _ _ _ _ _ _ _ _ _ _ _ _ _ _ _ _ _ _ _ _ w17
  Zb20.out.1 Zb20.out.2.1 Zb20.out.2.2.1 Zb20.out.2.2.2 X11.out.1 X11.out.2.1 X11.out.2.2.1 X11.out.2.2.2 Y11.out.1 Y11.out.2.1 Y11.out.2.2.1 Y11.out.2.2.2 Zb22.out.1 Zb22.out.2.1 Zb22.out.2.2.1 Zb22.out.2.2.2 Zb24.out.1 Zb24.out.2.1 Zb24.out.2.2.1 Zb24.out.2.2.2 LE17.out.kk.1 LE17.out.kk.2.1 LE17.out.kk.2.2.1 LE17.out.kk.2.2.2 Zb26.out.1 Zb26.out.2.1 Zb26.out.2.2.1 Zb26.out.2.2.2 Zb28.out.1 Zb28.out.2.1 Zb28.out.2.2.1 Zb28.out.2.2.2
  (hidden fun yy hb => add_C zx zy (TY.out yy hb) ox oy)
  (hidden fun yy hb => same_C (TY.out yy hb) op (lst_ok _) e1)
  (hidden fun yy hb => sub_C zx zy (TY.out yy hb) ox oy)
  (hidden fun yy hb => same_C (TY.out yy hb) oc (lst_ok _) e2)
  (hidden fun yy hb => mul_C k zx (TY.out yy hb) HK.out ox)
  (hidden fun yy hb => same_C (TY.out yy hb) og (lst_ok _) e3)
  (hidden fun yy hb => same_C (TY.out yy hb) oh ox e4)
  (hidden fun yy hb => same_C (TY.out yy hb) oi HK.out e5) (hidden ?_)
 intro w18 hb18
 have LE18 := hidden (LE17.out.keep hb18)
 clear LE17 hb18 TY ox oy op oc og oh oi e1 e2 e3 e4 e5 Zb20 Zb22 Zb24 Zb26 Zb28 X11 Y11 hzp hzc hzg hzh hzi hzx hzy zok
 go_upto_region 22 with fail
 clear eX
 go_loopw [30] (fun iv x => ∃ i : Nat, i ≤ vK ∧ iv = .int .i64 (i : Int) ∧ Hid (Below w18.heap.size w18 x)) (fun i _ => vK - (intOf i).toNat)
 case atStart => exact ⟨0, by omega, rfl, hidden (Below.refl _ _)⟩
 case round =>
  obtain ⟨i, hi, rfl, HB⟩ := hrel
  have LR := hidden (LE18.out.keep HB.out)
  have CG1 := hidden (tsGates LR.out.ts)
  have HKM := hidden LR.out.ts.wk.k
  by_cases hin : i < vK
  ·have i1 : (i : Int) < (vK : Int) := by omega
   have w9' : IntKind.i64.wrap ((i : Int) + 1) = (i : Int) + 1 := IntWalk.i64_in _ (by have := HKM.out; omega)
   go_upto_region 24 with (go_at_call 18; refine CG1.out.mono ?_; rintro e wx ⟨rfl, hwx⟩; have hw2 := hwx.symm; clear hwx; subst hw2)
   clear CG1
   obtain ⟨zu, hzu⟩ : ∃ z, eS (nms 0 a b c d) vm vK [((2, (i : Int)), 1)] = z := ⟨_, rfl⟩
   refine le24 _ t ab a b c d zu (eE vm vK [((2, (i : Int)), 1)]) (i : Int) [((2, (i : Int)), 1)] _ _ _ _ _ _ _ _ _ _ _ _ _ _ _ _ _ _ _ _ _ _ _ _ _ _ _ _ _ _ _ _ _ _ _ _ _ _ _ _ _ _ _ _ _ _ _ _ _ _ _ _ _ _ _ _ _ _ _ _ _ _ _ _ _ _ _ _ _ _ _ _ _ _ _ _ _ _ _ _ _ _ _ _ _ _ _ _ _ _ _ _ _ _ _ _ _ _ _ _ _ _ _ _ _ _ _ _ _ _ _ _ _ _ _ _ _ _ _ _ _ _ _ _ _ _ _ _ _ _ _ _ _ _ _ _ _ _ _ _ _ _ _ _ _ _ _ _ _ _ _ _ _ _ _ _ _ _ _ _ _ _ _ _ _ _ _ _ _ _ _ _ _ _ _ _ _ _ _ _ _ _ _ _ _ _ _ _ _ _ _ _ _ _ _ _ _ _ _ _ _ _ _ _ _ _ _ _ _ _ _ _ _ _ _ _ _ _ _ _ _ _ _ _ _ _ _ _ _ _ _ _ _ _ _ _ _ _ _ _ _ _ _ _ _ _ _ _ _ _ _ _ _ _ _ _ _ _ _ _ _ _ _ _ wr ⟨LR.out.ac.1, LR.out.ac.2.1, LR.out.ac.2.2.1, LR.out.ac.2.2.2, hidden (fun y hb => w_of (2, (i : Int))), hidden (fun p0 c0 y hb hl => hzu ▸ tsEval1 (2, (i : Int)) (LR.out.keep hb).ts (HT.out.keep (bl_trans LR.out.bel hb)) (LR.out.keep hb).aa NN.out hl)⟩ (hidden ?_)
   intro w19 _ _ b31 hb hrb hfr
   replace LR := hidden (LR.out.keep hb)
   replace HB := hidden (bl_trans HB.out hb)
   have Zb31 := hidden (Bz.of hfr)
   clear hb hrb hfr
   go_upto_region 25 with fail
   obtain ⟨zv, hzv⟩ : ∃ z, eS (nms 0 a b c d) vm vK [((3, (i : Int)), 1)] = z := ⟨_, rfl⟩
   refine le25 _ t ab a b c d zv (eE vm vK [((3, (i : Int)), 1)]) (i : Int) [((3, (i : Int)), 1)] _ _ _ _ _ _ _ _ _ _ _ _ _ _ _ _ _ _ _ _ _ _ _ _ _ _ _ _ _ _ _ _ _ _ _ _ _ _ _ _ _ _ _ _ _ _ _ _ _ _ _ _ _ _ _ _ _ _ _ _ _ _ _ _ _ _ _ _ _ _ _ _ _ _ _ _ _ _ _ _ _ _ _ _ _ _ _ _ _ _ _ _ _ _ _ _ _ _ _ _ _ _ _ _ _ _ _ _ _ _ _ _ _ _ _ _ _ _ _ _ _ _ _ _ _ _ _ _ _ _ _ _ _ _ _ _ _ _ _ _ _ _ _ _ _ _ _ _ _ _ _ _ _ _ _ _ _ _ _ _ _ _ _ _ _ _ _ _ _ _ _ _ _ _ _ _ _ _ _ _ _ _ _ _ _ _ _ _ _ _ _ _ _ _ _ _ _ _ _ _ _ _ _ _ _ _ _ _ _ _ _ _ _ _ _ _ _ _ _ _ _ _ _ _ _ _ _ _ _ _ _ _ _ _ _ _ _ _ _ _ _ _ _ _ _ _ _ _ _ _ _ _ _ _ _ _ _ _ _ _ _ _ _ _ w19 ⟨LR.out.ac.1, LR.out.ac.2.1, LR.out.ac.2.2.1, LR.out.ac.2.2.2, hidden (fun y hb => w_of (3, (i : Int))), hidden (fun p0 c0 y hb hl => hzv ▸ tsEval1 (3, (i : Int)) (LR.out.keep hb).ts (HT.out.keep (bl_trans LR.out.bel hb)) (LR.out.keep hb).aa NN.out hl)⟩ (hidden ?_)
   intro w20 _ _ b33 hb hrb hfr
   replace LR := hidden (LR.out.keep hb)
   replace HB := hidden (bl_trans HB.out hb)
   have Zb33 := hidden (Bz.of hfr)
   replace Zb31 := hidden (Zb31.out.keep hb)
   clear hb hrb hfr
   go_upto_region 26 with fail
   obtain ⟨zw, hzw⟩ : ∃ z, eS (nms 0 a b c d) vm vK [((4, (i : Int)), 1)] = z := ⟨_, rfl⟩
   refine le26 _ t ab a b c d zw (eE vm vK [((4, (i : Int)), 1)]) (i : Int) [((4, (i : Int)), 1)] _ _ _ _ _ _ _ _ _ _ _ _ _ _ _ _ _ _ _ _ _ _ _ _ _ _ _ _ _ _ _ _ _ _ _ _ _ _ _ _ _ _ _ _ _ _ _ _ _ _ _ _ _ _ _ _ _ _ _ _ _ _ _ _ _ _ _ _ _ _ _ _ _ _ _ _ _ _ _ _ _ _ _ _ _ _ _ _ _ _ _ _ _ _ _ _ _ _ _ _ _ _ _ _ _ _ _ _ _ _ _ _ _ _ _ _ _ _ _ _ _ _ _ _ _ _ _ _ _ _ _ _ _ _ _ _ _ _ _ _ _ _ _ _ _ _ _ _ _ _ _ _ _ _ _ _ _ _ _ _ _ _ _ _ _ _ _ _ _ _ _ _ _ _ _ _ _ _ _ _ _ _ _ _ _ _ _ _ _ _ _ _ _ _ _ _ _ _ _ _ _ _ _ _ _ _ _ _ _ _ _ _ _ _ _ _ _ _ _ _ _ _ _ _ _ _ _ _ _ _ _ _ _ _ _ _ _ _ _ _ _ _ _ _ _ _ _ _ _ _ _ _ _ _ _ _ _ _ _ _ _ _ _ _ w20 ⟨LR.out.ac.1, LR.out.ac.2.1, LR.out.ac.2.2.1, LR.out.ac.2.2.2, hidden (fun y hb => w_of (4, (i : Int))), hidden (fun p0 c0 y hb hl => hzw ▸ tsEval1 (4, (i : Int)) (LR.out.keep hb).ts (HT.out.keep (bl_trans LR.out.bel hb)) (LR.out.keep hb).aa NN.out hl)⟩ (hidden ?_)
   intro w21 _ _ b35 hb hrb hfr
   replace LR := hidden (LR.out.keep hb)
   replace HB := hidden (bl_trans HB.out hb)
   have Zb35 := hidden (Bz.of hfr)
   replace Zb31 := hidden (Zb31.out.keep hb)
   replace Zb33 := hidden (Zb33.out.keep hb)
   clear hb hrb hfr
   go_upto_region 27 with fail
   obtain ⟨na, nb, nc, nd⟩ := NN.out
   obtain ⟨ba, oa, pa, ra⟩ := LR.out.aa.1.at'
   obtain ⟨bb, ob, pb, rb⟩ := LR.out.aa.2.1.at'
   obtain ⟨bc, oc, pc, rc⟩ := LR.out.aa.2.2.1.at'
   have da := LR.out.ac.1
   have db := LR.out.ac.2.1
   have dc := LR.out.ac.2.2.1
   rw [pa (by omega)] at da
   rw [pb (by omega)] at db
   rw [pc (by omega)] at dc
   have Ra := hidden (ra (by omega))
   have Rb := hidden (rb (by omega))
   have Rc := hidden (rc (by omega))
   have TY : Hid (∀ yy, Below w21.heap.size w21 yy → Tb yy) := hidden (fun yy hb => HT.out.keep (bl_trans LR.out.bel hb))
   have ou : zu.ok := hzu ▸ eS_ok _ _ _ _
   have ov : zv.ok := hzv ▸ eS_ok _ _ _ _
   have ow : zw.ok := hzw ▸ eS_ok _ _ _ _
   have oa' := LR.out.aa.1.ok i (by omega)
   have ob' := LR.out.aa.2.1.ok i (by omega)
   have oc' := LR.out.aa.2.2.1.ok i (by omega)
   have e1 : zu.n % Sm.L = (a.g i).n % Sm.L := by rw [← hzu]; exact s_row2 hin
   have e2 : zv.n % Sm.L = (b.g i).n % Sm.L := by rw [← hzv]; exact s_row3 hin
   have e3 : zw.n % Sm.L = (c.g i).n % Sm.L := by rw [← hzw]; exact s_row4 hin
   refine ll27 _ ab i b31 b33 b35 ba oa a.n a.c bb ob b.n b.c bc oc c.n c.c zu zv zw (a.g i) (b.g i) (c.g i) _ _ _ _ _ _ _ _ _ _ _ _ _ _ _ _ _ _ _ _ _ _ _ _ _ _ _ _ _ _ _ _ _ _ _ _ _ _ _ _ _ _ _ _ _ _ _ _ _ _ _ _ _ _ _ _ _ _ _ _ _ _ _ _ _ _ _ _ _ _ _ _ _ _ _ _ _ _ _ _ _ _ _ _ _ _ _ _ _ _ _ _ _ _ _ _ _ _ _ _ _ _ _ _ _ _ _ _ _ _ _ _ _ _ _ _ _ _ _ _ _ _ _ _ _ _ _ _ _ _ _ _ _ _ _ _ _ _ _ _ _ _ _ _ _ _ _ _ _ _ _ _ _ _ _ _ _ _ _ _ _ _ _ _ _ _ _ _ _ _ _ _ _ _ _ _ _ _ _ _ _ _ _ _ _ _ _ _ _ _ _ _ _ _ _ _ _ _ _ _ _ _ _ _ _ _ _ _ _ _ _ _ _ _ _ _ _ _ _ _ _ _ _ _ _ _ _ _ _ _ _ _ _ _ _ _ _ _ _ _ _ _ _ _ _ _ _ _ _ _ _ _ _ _ _ _ _ _ _ _ _ _ w21 (by omega) (by omega) (by omega) (by omega)
    Zb31.out.1 Zb31.out.2.1 Zb31.out.2.2.1 Zb31.out.2.2.2 Zb33.out.1 Zb33.out.2.1 Zb33.out.2.2.1 Zb33.out.2.2.2 Zb35.out.1 Zb35.out.2.1 Zb35.out.2.2.1 Zb35.out.2.2.2 da db dc
    (Ra.out.c0 i (by omega)) (Ra.out.c1 i (by omega)) (Ra.out.c2 i (by omega)) (Ra.out.c3 i (by omega)) (Rb.out.c0 i (by omega)) (Rb.out.c1 i (by omega)) (Rb.out.c2 i (by omega)) (Rb.out.c3 i (by omega)) (Rc.out.c0 i (by omega)) (Rc.out.c1 i (by omega)) (Rc.out.c2 i (by omega)) (Rc.out.c3 i (by omega))
    (hidden fun yy hb => same_C (TY.out yy hb) ou oa' e1)
    (hidden fun yy hb => same_C (TY.out yy hb) ov ob' e2)
    (hidden fun yy hb => same_C (TY.out yy hb) ow oc' e3) (hidden ?_)
   intro w22 hb22
   have NB := hidden (bl_trans HB.out hb22)
   clear hb22 HB LR e1 e2 e3 ou ov ow oa' ob' oc' TY Ra Rb Rc da db dc pa pb pc ra rb rc na nb nc nd hzu hzv hzw Zb31 Zb33 Zb35
   go_wp2_with fail
   go_roundw
   case rel => exact ⟨i + 1, by omega, by go_num, NB⟩
   case measure => simp [intOf]; omega
  ·obtain rfl : i = vK := by omega
   have lq : ¬ (i : Int) < (i : Int) := by omega
   have FIN : Hid (Below w.heap.size w wr) := hidden LR.out.bel
   clear LR HB
   go_wp2_with (go_at_call 18; refine CG1.out.mono ?_; rintro e wx ⟨rfl, hwx⟩; have hw2 := hwx.symm; clear hwx; subst hw2)
   exact bodyPost_ret (v := .bool true) (by simp [results, Tryd.results3, go_sem]) rfl ⟨rfl, FIN.out⟩
end Ci
end Go.Proofs.YtaendjjelpmokaaDoor
